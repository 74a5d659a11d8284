/- New of package slots, walked. Own work. -/
import Derived.Test.YtakgglpfgpkboaaSMem
import Derived.Test.YtakgglpfgpkboaaGD
set_option linter.unusedVariables false
set_option linter.unusedSimpArgs false
namespace Go.Proofs.Ytakgglpfgpkboaa
open Go.RowKit
open Slots (Sl)
open Disk (Dev)

def AM.new (X Y Z T : Option Addr) (a b c d : Nat) : AM := ⟨X, Y, Z, T, a, b, c, d⟩
/-- The variable and the result of New. -/
def NewSt (w wr : World) (m : AM) (r : Sl) : Prop :=
  SlB wr w.heap.size AM.nil Slots.zero ∧ SlB wr (w.heap.size + 1) m r ∧ SlM wr (w.heap.size + 1 + 1) m r ∧ Ab w wr ∧ w.heap.size + 1 + 1 ≤ wr.heap.size

set_option maxRecDepth 100000 in
theorem snew_any (c : Int) (w : World) :
    Calls Try.prog 9 #[.int .i64 c] w (RetSlE w (Slots.new c)) := by
  go_enter Try.func9, Try.ntmps9
  go_wp2
  go_loopw [9] (fun i wr => ∃ m r, NewSt w wr m r ∧ (i = .int .i64 0 ∧ Hid (r = ⟨Disk.zero, Disk.zero, 1⟩) ∨ i = .int .i64 1 ∧ Hid (¬ (c < 0 ∨ 20000 < c)) ∧ Hid (r = ⟨⟨[], [], c, false⟩, Disk.zero, 1⟩) ∨
      i = .int .i64 2 ∧ Hid (Slots.new c = (r, 0)))) (fun i _ => 2 - (intOf i).toNat)
  case atStart =>
    refine ⟨AM.nil, ⟨Disk.zero, Disk.zero, 1⟩, ⟨⟨?_, ?_, ?_, ?_, ?_, ?_, ?_, ?_, ?_, ?_, ?_, ?_, ?_, ?_, ?_, ?_, ?_, ?_⟩, ⟨?_, ?_, ?_, ?_, ?_, ?_, ?_, ?_, ?_, ?_, ?_, ?_, ?_, ?_, ?_, ?_, ?_, ?_⟩, ⟨RB.nil, RB.nil, RB.nil, RB.nil, Nat.le_refl _, Nat.le_refl _, Nat.le_refl _, Nat.le_refl _, Nat.zero_le _, Nat.zero_le _, Nat.zero_le _, Nat.zero_le _⟩, (by repeat (first | with_reducible exact Ab.refl _ | with_reducible assumption | with_reducible refine Ab.drew ?_ | with_reducible refine Ab.drewN ?_ _ | with_reducible refine Ab.alloc ?_ _ | with_reducible refine Ab.trans ?_ (by assumption) | with_reducible refine Ab.set ?_ (by first | (simp; done) | omega | (simp; omega)) _)), ?_⟩, .inl ⟨rfl, rfl⟩⟩ <;> simp [go_sem, AM.nil, Slots.zero, Disk.zero]
  case round =>
    obtain ⟨m, r, ⟨hz, hv, hm, hab, hsz⟩, hi⟩ := hrel
    rcases hi with ⟨rfl, ho⟩ | ⟨rfl, hc, ho⟩ | ⟨rfl, ho⟩
    · go_wp2_with fail
      refine (new_any c _).mono ?_
      rintro e w1 ⟨r1, er, D1, E1, d1, e1, hr1, rfl, o1, o2, hb1⟩
      have bW : Ab wr w1 := (by repeat (first | with_reducible exact Ab.refl _ | with_reducible assumption | with_reducible refine Ab.drew ?_ | with_reducible refine Ab.drewN ?_ _ | with_reducible refine Ab.alloc ?_ _ | with_reducible refine Ab.trans ?_ (by assumption) | with_reducible refine Ab.set ?_ (by first | (simp; done) | omega | (simp; omega)) _))
      have hsz1 := Nat.le_trans hsz bW.size
      obtain ⟨zq0, zq1, zq2, zq3, zq4, zq5, zq6, zq7, zq8, zg0, zg1, zg2, zg3, zg4, zg5, zg6, zg7, zg8⟩ := (hz.ab bW)
      (try simp only [AM.nil, Slots.zero, Disk.zero, List.length_nil] at zq0 zq1 zq2 zq3 zq4 zq5 zq6 zq7 zq8)
      obtain ⟨vq0, vq1, vq2, vq3, vq4, vq5, vq6, vq7, vq8, vg0, vg1, vg2, vg3, vg4, vg5, vg6, vg7, vg8⟩ := (hv.ab bW)
      (try simp only [AM.nil, Slots.zero, Disk.zero, List.length_nil] at vq0 vq1 vq2 vq3 vq4 vq5 vq6 vq7 vq8)
      have nza := fun (o : Obj) (j : Nat) => World.cell?_alloc_lt w1 o ⟨w.heap.size, j, none⟩ (by simp only; omega)
      have nzb := fun (o : Obj) (j : Nat) => ((Ab.refl w1).alloc o).frozen (p := ⟨w.heap.size, j, none⟩) (by simp only; omega)
      have nva := fun (o : Obj) (j : Nat) => World.cell?_alloc_lt w1 o ⟨w.heap.size + 1, j, none⟩ (by simp only; omega)
      have nvb := fun (o : Obj) (j : Nat) => ((Ab.refl w1).alloc o).frozen (p := ⟨w.heap.size + 1, j, none⟩) (by simp only; omega)
      have hne : w.heap.size + 1 ≠ w1.heap.size := by omega
      have hne2 : w.heap.size ≠ w1.heap.size := by omega
      by_cases hbad : c < 0 ∨ 20000 < c
      · obtain rfl : er = 2 := (Prod.mk.inj (hr1.out.trans (show Disk.new c = _ from if_pos hbad))).2
        have HM := Lib.hid (show Slots.new c = _ from if_pos hbad)
        clear hr1 hbad
        go_wp2
        refine bodyPost_ret (v := .tuple #[(.agg #[.slice none 0 0, .slice none 0 0, .int .i64 0, .bool false, .slice none 0 0, .slice none 0 0, .int .i64 0, .bool false, .int .i64 0]), .int .i64 2]) (by simp [results, Try.results9, go_sem, *]) rfl ?_
        exact RetSlE.zero HM.out.symm (by repeat (first | with_reducible exact Ab.refl _ | with_reducible assumption | with_reducible refine Ab.drew ?_ | with_reducible refine Ab.drewN ?_ _ | with_reducible refine Ab.alloc ?_ _ | with_reducible refine Ab.trans ?_ (by assumption) | with_reducible refine Ab.set ?_ (by first | (simp; done) | omega | (simp; omega)) _))
      · have h1 := Prod.mk.inj (hr1.out.trans (show Disk.new c = _ from if_neg hbad))
        obtain rfl : er = 0 := h1.2
        have HR := Lib.hid h1.1
        have HN := Lib.hid hbad
        have l1 : r1.s.length ≤ 1000000 ∧ r1.t.length ≤ 1000000 := by rw [h1.1]; exact ⟨Nat.zero_le _, Nat.zero_le _⟩
        have hM : SlM w1 (w.heap.size + 1 + 1) ⟨D1, E1, m.C, m.D, d1, e1, m.cc, m.cd⟩ ⟨r1, r.b, r.n⟩ :=
          ⟨o1.rb.mono (by first | (simp; done) | omega | (simp; omega)), o2.rb.mono (by first | (simp; done) | omega | (simp; omega)), (hm.ab bW).c, (hm.ab bW).d, o1.le, o2.le, hm.lc, hm.ld, l1.1, l1.2, hm.sc, hm.sd⟩
        have HO := Lib.hid (show (⟨r1, r.b, r.n⟩ : Sl) = ⟨⟨[], [], c, false⟩, Disk.zero, 1⟩ by rw [ho.out, h1.1])
        clear hr1 h1 hbad l1
        go_wp2
        go_roundw
        case rel => exact ⟨_, _, ⟨⟨(by simp [go_sem, AM.nil, Slots.zero, Disk.zero, *]), (by simp [go_sem, AM.nil, Slots.zero, Disk.zero, *]), (by simp [go_sem, AM.nil, Slots.zero, Disk.zero, *]), (by simp [go_sem, AM.nil, Slots.zero, Disk.zero, *]), (by simp [go_sem, AM.nil, Slots.zero, Disk.zero, *]), (by simp [go_sem, AM.nil, Slots.zero, Disk.zero, *]), (by simp [go_sem, AM.nil, Slots.zero, Disk.zero, *]), (by simp [go_sem, AM.nil, Slots.zero, Disk.zero, *]), (by simp [go_sem, AM.nil, Slots.zero, Disk.zero, *]), (by simp [go_sem, AM.nil, Slots.zero, Disk.zero, *]), (by simp [go_sem, AM.nil, Slots.zero, Disk.zero, *]), (by simp [go_sem, AM.nil, Slots.zero, Disk.zero, *]), (by simp [go_sem, AM.nil, Slots.zero, Disk.zero, *]), (by simp [go_sem, AM.nil, Slots.zero, Disk.zero, *]), (by simp [go_sem, AM.nil, Slots.zero, Disk.zero, *]), (by simp [go_sem, AM.nil, Slots.zero, Disk.zero, *]), (by simp [go_sem, AM.nil, Slots.zero, Disk.zero, *]), (by simp [go_sem, AM.nil, Slots.zero, Disk.zero, *])⟩, ⟨(by simp [go_sem, AM.nil, Slots.zero, Disk.zero, *]), (by simp [go_sem, AM.nil, Slots.zero, Disk.zero, *]), (by simp [go_sem, AM.nil, Slots.zero, Disk.zero, *]), (by simp [go_sem, AM.nil, Slots.zero, Disk.zero, *]), (by simp [go_sem, AM.nil, Slots.zero, Disk.zero, *]), (by simp [go_sem, AM.nil, Slots.zero, Disk.zero, *]), (by simp [go_sem, AM.nil, Slots.zero, Disk.zero, *]), (by simp [go_sem, AM.nil, Slots.zero, Disk.zero, *]), (by simp [go_sem, AM.nil, Slots.zero, Disk.zero, *]), (by simp [go_sem, AM.nil, Slots.zero, Disk.zero, *]), (by simp [go_sem, AM.nil, Slots.zero, Disk.zero, *]), (by simp [go_sem, AM.nil, Slots.zero, Disk.zero, *]), (by simp [go_sem, AM.nil, Slots.zero, Disk.zero, *]), (by simp [go_sem, AM.nil, Slots.zero, Disk.zero, *]), (by simp [go_sem, AM.nil, Slots.zero, Disk.zero, *]), (by simp [go_sem, AM.nil, Slots.zero, Disk.zero, *]), (by simp [go_sem, AM.nil, Slots.zero, Disk.zero, *]), (by simp [go_sem, AM.nil, Slots.zero, Disk.zero, *])⟩, ((((hM.ab ((Ab.refl w1).alloc _)).put (by first | (simp; done) | omega | (simp; omega)) _).put (by first | (simp; done) | omega | (simp; omega)) _).put (by first | (simp; done) | omega | (simp; omega)) _).put (by first | (simp; done) | omega | (simp; omega)) _, (by repeat (first | with_reducible exact Ab.refl _ | with_reducible assumption | with_reducible refine Ab.drew ?_ | with_reducible refine Ab.drewN ?_ _ | with_reducible refine Ab.alloc ?_ _ | with_reducible refine Ab.trans ?_ (by assumption) | with_reducible refine Ab.set ?_ (by first | (simp; done) | omega | (simp; omega)) _)), by simp; omega⟩, .inr (.inl ⟨rfl, HN, HO⟩)⟩
        case measure => (show 2 - (intOf _).toNat < 2 - (intOf _).toNat); simp only [intOf]; omega
    · go_wp2_with fail
      refine (new_any c _).mono ?_
      rintro e w1 ⟨r1, er, D1, E1, d1, e1, hr1, rfl, o1, o2, hb1⟩
      have bW : Ab wr w1 := (by repeat (first | with_reducible exact Ab.refl _ | with_reducible assumption | with_reducible refine Ab.drew ?_ | with_reducible refine Ab.drewN ?_ _ | with_reducible refine Ab.alloc ?_ _ | with_reducible refine Ab.trans ?_ (by assumption) | with_reducible refine Ab.set ?_ (by first | (simp; done) | omega | (simp; omega)) _))
      have hsz1 := Nat.le_trans hsz bW.size
      obtain ⟨zq0, zq1, zq2, zq3, zq4, zq5, zq6, zq7, zq8, zg0, zg1, zg2, zg3, zg4, zg5, zg6, zg7, zg8⟩ := (hz.ab bW)
      (try simp only [AM.nil, Slots.zero, Disk.zero, List.length_nil] at zq0 zq1 zq2 zq3 zq4 zq5 zq6 zq7 zq8)
      obtain ⟨vq0, vq1, vq2, vq3, vq4, vq5, vq6, vq7, vq8, vg0, vg1, vg2, vg3, vg4, vg5, vg6, vg7, vg8⟩ := (hv.ab bW)
      (try simp only [AM.nil, Slots.zero, Disk.zero, List.length_nil] at vq0 vq1 vq2 vq3 vq4 vq5 vq6 vq7 vq8)
      have nza := fun (o : Obj) (j : Nat) => World.cell?_alloc_lt w1 o ⟨w.heap.size, j, none⟩ (by simp only; omega)
      have nzb := fun (o : Obj) (j : Nat) => ((Ab.refl w1).alloc o).frozen (p := ⟨w.heap.size, j, none⟩) (by simp only; omega)
      have nva := fun (o : Obj) (j : Nat) => World.cell?_alloc_lt w1 o ⟨w.heap.size + 1, j, none⟩ (by simp only; omega)
      have nvb := fun (o : Obj) (j : Nat) => ((Ab.refl w1).alloc o).frozen (p := ⟨w.heap.size + 1, j, none⟩) (by simp only; omega)
      have hne : w.heap.size + 1 ≠ w1.heap.size := by omega
      have hne2 : w.heap.size ≠ w1.heap.size := by omega
      have h1 := Prod.mk.inj (hr1.out.trans (show Disk.new c = _ from if_neg hc.out))
      obtain rfl : er = 0 := h1.2
      have l1 : r1.s.length ≤ 1000000 ∧ r1.t.length ≤ 1000000 := by rw [h1.1]; exact ⟨Nat.zero_le _, Nat.zero_le _⟩
      have hM : SlM w1 (w.heap.size + 1 + 1) ⟨m.A, m.B, D1, E1, m.ca, m.cb, d1, e1⟩ ⟨r.a, r1, r.n⟩ :=
        ⟨(hm.ab bW).a, (hm.ab bW).b, o1.rb.mono (by first | (simp; done) | omega | (simp; omega)), o2.rb.mono (by first | (simp; done) | omega | (simp; omega)), hm.la, hm.lb, o1.le, o2.le, hm.sa, hm.sb, l1.1, l1.2⟩
      have HO := Lib.hid (show Slots.new c = (⟨r.a, r1, r.n⟩, 0) by rw [ho.out, h1.1]; exact if_neg hc.out)
      clear hr1 h1 l1
      go_wp2
      go_roundw
      case rel => exact ⟨_, _, ⟨⟨(by simp [go_sem, AM.nil, Slots.zero, Disk.zero, *]), (by simp [go_sem, AM.nil, Slots.zero, Disk.zero, *]), (by simp [go_sem, AM.nil, Slots.zero, Disk.zero, *]), (by simp [go_sem, AM.nil, Slots.zero, Disk.zero, *]), (by simp [go_sem, AM.nil, Slots.zero, Disk.zero, *]), (by simp [go_sem, AM.nil, Slots.zero, Disk.zero, *]), (by simp [go_sem, AM.nil, Slots.zero, Disk.zero, *]), (by simp [go_sem, AM.nil, Slots.zero, Disk.zero, *]), (by simp [go_sem, AM.nil, Slots.zero, Disk.zero, *]), (by simp [go_sem, AM.nil, Slots.zero, Disk.zero, *]), (by simp [go_sem, AM.nil, Slots.zero, Disk.zero, *]), (by simp [go_sem, AM.nil, Slots.zero, Disk.zero, *]), (by simp [go_sem, AM.nil, Slots.zero, Disk.zero, *]), (by simp [go_sem, AM.nil, Slots.zero, Disk.zero, *]), (by simp [go_sem, AM.nil, Slots.zero, Disk.zero, *]), (by simp [go_sem, AM.nil, Slots.zero, Disk.zero, *]), (by simp [go_sem, AM.nil, Slots.zero, Disk.zero, *]), (by simp [go_sem, AM.nil, Slots.zero, Disk.zero, *])⟩, ⟨(by simp [go_sem, AM.nil, Slots.zero, Disk.zero, *]), (by simp [go_sem, AM.nil, Slots.zero, Disk.zero, *]), (by simp [go_sem, AM.nil, Slots.zero, Disk.zero, *]), (by simp [go_sem, AM.nil, Slots.zero, Disk.zero, *]), (by simp [go_sem, AM.nil, Slots.zero, Disk.zero, *]), (by simp [go_sem, AM.nil, Slots.zero, Disk.zero, *]), (by simp [go_sem, AM.nil, Slots.zero, Disk.zero, *]), (by simp [go_sem, AM.nil, Slots.zero, Disk.zero, *]), (by simp [go_sem, AM.nil, Slots.zero, Disk.zero, *]), (by simp [go_sem, AM.nil, Slots.zero, Disk.zero, *]), (by simp [go_sem, AM.nil, Slots.zero, Disk.zero, *]), (by simp [go_sem, AM.nil, Slots.zero, Disk.zero, *]), (by simp [go_sem, AM.nil, Slots.zero, Disk.zero, *]), (by simp [go_sem, AM.nil, Slots.zero, Disk.zero, *]), (by simp [go_sem, AM.nil, Slots.zero, Disk.zero, *]), (by simp [go_sem, AM.nil, Slots.zero, Disk.zero, *]), (by simp [go_sem, AM.nil, Slots.zero, Disk.zero, *]), (by simp [go_sem, AM.nil, Slots.zero, Disk.zero, *])⟩, ((((hM.ab ((Ab.refl w1).alloc _)).put (by first | (simp; done) | omega | (simp; omega)) _).put (by first | (simp; done) | omega | (simp; omega)) _).put (by first | (simp; done) | omega | (simp; omega)) _).put (by first | (simp; done) | omega | (simp; omega)) _, (by repeat (first | with_reducible exact Ab.refl _ | with_reducible assumption | with_reducible refine Ab.drew ?_ | with_reducible refine Ab.drewN ?_ _ | with_reducible refine Ab.alloc ?_ _ | with_reducible refine Ab.trans ?_ (by assumption) | with_reducible refine Ab.set ?_ (by first | (simp; done) | omega | (simp; omega)) _)), by simp; omega⟩, .inr (.inr ⟨rfl, HO⟩)⟩
      case measure => (show 2 - (intOf _).toNat < 2 - (intOf _).toNat); simp only [intOf]; omega
    · obtain ⟨zq0, zq1, zq2, zq3, zq4, zq5, zq6, zq7, zq8, zg0, zg1, zg2, zg3, zg4, zg5, zg6, zg7, zg8⟩ := hz
      (try simp only [AM.nil, Slots.zero, Disk.zero, List.length_nil] at zq0 zq1 zq2 zq3 zq4 zq5 zq6 zq7 zq8)
      obtain ⟨vq0, vq1, vq2, vq3, vq4, vq5, vq6, vq7, vq8, vg0, vg1, vg2, vg3, vg4, vg5, vg6, vg7, vg8⟩ := hv
      (try simp only [AM.nil, Slots.zero, Disk.zero, List.length_nil] at vq0 vq1 vq2 vq3 vq4 vq5 vq6 vq7 vq8)
      go_wp2
      refine bodyPost_ret (v := .tuple #[.agg #[.slice m.A r.a.s.length m.ca, .slice m.B r.a.t.length m.cb, .int .i64 r.a.cap, .bool r.a.down, .slice m.C r.b.s.length m.cc, .slice m.D r.b.t.length m.cd, .int .i64 r.b.cap, .bool r.b.down, .int .i64 r.n], .int .i64 0]) (by simp [results, Try.results9, go_sem, *]) rfl ?_
      exact ⟨r, 0, m, Lib.hid ho.out.symm, rfl, (((((((((hm.put (by first | (simp; done) | omega | (simp; omega)) _).put (by first | (simp; done) | omega | (simp; omega)) _).put (by first | (simp; done) | omega | (simp; omega)) _).put (by first | (simp; done) | omega | (simp; omega)) _).put (by first | (simp; done) | omega | (simp; omega)) _).put (by first | (simp; done) | omega | (simp; omega)) _).put (by first | (simp; done) | omega | (simp; omega)) _).put (by first | (simp; done) | omega | (simp; omega)) _).put (by first | (simp; done) | omega | (simp; omega)) _).mono (by omega), (by repeat (first | with_reducible exact Ab.refl _ | with_reducible assumption | with_reducible refine Ab.drew ?_ | with_reducible refine Ab.drewN ?_ _ | with_reducible refine Ab.alloc ?_ _ | with_reducible refine Ab.trans ?_ (by assumption) | with_reducible refine Ab.set ?_ (by first | (simp; done) | omega | (simp; omega)) _))⟩
end Go.Proofs.Ytakgglpfgpkboaa
