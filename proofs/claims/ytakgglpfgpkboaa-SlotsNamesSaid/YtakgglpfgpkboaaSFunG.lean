/- Open of package slots, walked. Own work. -/
import Derived.Test.YtakgglpfgpkboaaSFunC
import Derived.IntWalk
set_option linter.unusedVariables false
set_option linter.unusedSimpArgs false
namespace Go.Proofs.Ytakgglpfgpkboaa
open Go.RowKit
open Slots (Sl)
open Disk (Dev)

theorem SlM.num {w : World} {lo : Nat} {m : AM} {r : Sl} (h : SlM w lo m r) (n : Int) : SlM w lo m ⟨r.a, r.b, n⟩ := ⟨h.a, h.b, h.c, h.d, h.la, h.lb, h.lc, h.ld, h.sa, h.sb, h.sc, h.sd⟩
/-- The variable and the result of Open. -/
def OpSt (w wr : World) (m : AM) (r : Sl) : Prop :=
  SlB wr (w.heap.size + 1) AM.nil Slots.zero ∧ SlB wr w.heap.size m r ∧ Ab w wr ∧ w.heap.size + 1 + 1 ≤ wr.heap.size
/-- Both devices are open. -/
def OpRow (w wr : World) (m m' : AM) (r r' : Sl) (i : Value) : Prop :=
  (i = .int .i64 0 ∧ Hid (m' = m) ∧ Hid (r' = r)) ∨
  (i = .int .i64 1 ∧ Hid (¬ Disk.bad r.a) ∧ Hid (r' = ⟨Slots.op r.a, r.b, r.n⟩) ∧ m'.C = m.C ∧ m'.D = m.D ∧ m'.cc = m.cc ∧ m'.cd = m.cd ∧ RB wr (w.heap.size + 1 + 1) m'.A r'.a.s ∧ RB wr (w.heap.size + 1 + 1) m'.B r'.a.t ∧ r'.a.s.length ≤ m'.ca ∧ r'.a.t.length ≤ m'.cb) ∨
  (i = .int .i64 2 ∧ Hid (¬ Disk.bad r.a) ∧ Hid (¬ Disk.bad r.b) ∧ Hid (r' = ⟨Slots.op r.a, Slots.op r.b, r.n⟩) ∧ SlM wr (w.heap.size + 1 + 1) m' r')

set_option maxHeartbeats 1600000 in
set_option maxRecDepth 100000 in
theorem sopen_any (m : AM) (r : Sl) (w : World) (h : SlM w 0 m r) :
    Calls Try.prog 14 #[.agg #[.slice m.A r.a.s.length m.ca, .slice m.B r.a.t.length m.cb, .int .i64 r.a.cap, .bool r.a.down, .slice m.C r.b.s.length m.cc, .slice m.D r.b.t.length m.cd, .int .i64 r.b.cap, .bool r.b.down, .int .i64 r.n]] w (RetSlE w (Slots.open_ r)) := by
  obtain ⟨A, B, C, D, ca, cb, cc, cd⟩ := m
  obtain ⟨⟨s, t, cap, dn⟩, ⟨p, q, cep, dm⟩, n⟩ := r
  dsimp only
  go_enter Try.func14, Try.ntmps14
  go_wp2
  go_loopw [11] (fun i wr => ∃ m' r', OpSt w wr m' r' ∧ OpRow w wr (⟨A, B, C, D, ca, cb, cc, cd⟩ : AM) m' (⟨⟨s, t, cap, dn⟩, ⟨p, q, cep, dm⟩, n⟩ : Sl) r' i) (fun i _ => 2 - (intOf i).toNat)
  case atStart =>
    refine ⟨(⟨A, B, C, D, ca, cb, cc, cd⟩ : AM), (⟨⟨s, t, cap, dn⟩, ⟨p, q, cep, dm⟩, n⟩ : Sl), ⟨SlB.box (new_plain (by simp)), SlB.box (old_alloc (new_plain rfl)), (by repeat (first | with_reducible exact Ab.refl _ | with_reducible assumption | with_reducible refine Ab.drew ?_ | with_reducible refine Ab.drewN ?_ _ | with_reducible refine Ab.alloc ?_ _ | with_reducible refine Ab.trans ?_ (by assumption) | with_reducible refine Ab.set ?_ (by first | (simp; done) | omega | (simp; omega)) _)), by simp⟩, .inl ⟨rfl, rfl, rfl⟩⟩
  case round =>
    obtain ⟨m', r', ⟨hz, hv, hab, hsz⟩, hi⟩ := hrel
    rcases hi with ⟨rfl, hm0, hr0⟩ | ⟨rfl, hna, hr', e1, e2, e3, e4, ra, rb, la, lb⟩ | ⟨rfl, hna, hnb, hr', hM⟩
    · go_wp2_with fail
      refine (check_any A B ca cb s t cap dn _ h.sa h.sb).mono ?_
      rintro e w1 ⟨er, hr, rfl, hb1⟩
      have bW : Ab wr w1 := (by repeat (first | with_reducible exact Ab.refl _ | with_reducible assumption | with_reducible refine Ab.drew ?_ | with_reducible refine Ab.drewN ?_ _ | with_reducible refine Ab.alloc ?_ _ | with_reducible refine Ab.trans ?_ (by assumption) | with_reducible refine Ab.set ?_ (by first | (simp; done) | omega | (simp; omega)) _))
      have hsz1 := Nat.le_trans hsz bW.size
      have dq0 := hb1.at (p := ⟨wr.heap.size, 0, none⟩) (v := .slice A s.length ca) (by (repeat (first | with_reducible assumption | (simp [go_sem]; done) | with_reducible apply cell_alloc | with_reducible apply cell_drew | with_reducible apply cell_drewN | (with_reducible apply Ab.at; with_reducible assumption) | (with_reducible refine cell_set ?_ ?_; rotate_left; focus (first | (simp; done) | (simp; omega))) | (with_reducible refine cell_setb ?_ ?_; rotate_left; focus (first | omega | (simp only; omega) | (simp; omega)))))); have dq1 := hb1.at (p := ⟨wr.heap.size, 1, none⟩) (v := .slice B t.length cb) (by (repeat (first | with_reducible assumption | (simp [go_sem]; done) | with_reducible apply cell_alloc | with_reducible apply cell_drew | with_reducible apply cell_drewN | (with_reducible apply Ab.at; with_reducible assumption) | (with_reducible refine cell_set ?_ ?_; rotate_left; focus (first | (simp; done) | (simp; omega))) | (with_reducible refine cell_setb ?_ ?_; rotate_left; focus (first | omega | (simp only; omega) | (simp; omega)))))); have dq2 := hb1.at (p := ⟨wr.heap.size, 2, none⟩) (v := .int .i64 cap) (by (repeat (first | with_reducible assumption | (simp [go_sem]; done) | with_reducible apply cell_alloc | with_reducible apply cell_drew | with_reducible apply cell_drewN | (with_reducible apply Ab.at; with_reducible assumption) | (with_reducible refine cell_set ?_ ?_; rotate_left; focus (first | (simp; done) | (simp; omega))) | (with_reducible refine cell_setb ?_ ?_; rotate_left; focus (first | omega | (simp only; omega) | (simp; omega)))))); have dq3 := hb1.at (p := ⟨wr.heap.size, 3, none⟩) (v := .bool dn) (by (repeat (first | with_reducible assumption | (simp [go_sem]; done) | with_reducible apply cell_alloc | with_reducible apply cell_drew | with_reducible apply cell_drewN | (with_reducible apply Ab.at; with_reducible assumption) | (with_reducible refine cell_set ?_ ?_; rotate_left; focus (first | (simp; done) | (simp; omega))) | (with_reducible refine cell_setb ?_ ?_; rotate_left; focus (first | omega | (simp only; omega) | (simp; omega))))))
      have dg0 : w1.frozen? ⟨wr.heap.size, 0, none⟩ = false := (hb1.frozen (p := ⟨wr.heap.size, 0, none⟩) (by first | (simp; done) | omega | (simp; omega))).trans (by simp [go_sem]); have dg1 : w1.frozen? ⟨wr.heap.size, 1, none⟩ = false := (hb1.frozen (p := ⟨wr.heap.size, 1, none⟩) (by first | (simp; done) | omega | (simp; omega))).trans (by simp [go_sem]); have dg2 : w1.frozen? ⟨wr.heap.size, 2, none⟩ = false := (hb1.frozen (p := ⟨wr.heap.size, 2, none⟩) (by first | (simp; done) | omega | (simp; omega))).trans (by simp [go_sem]); have dg3 : w1.frozen? ⟨wr.heap.size, 3, none⟩ = false := (hb1.frozen (p := ⟨wr.heap.size, 3, none⟩) (by first | (simp; done) | omega | (simp; omega))).trans (by simp [go_sem])
      have zd : wr.heap.size < w1.heap.size := cell_lt dq0
      have ne1 : w.heap.size ≠ wr.heap.size := by omega
      have ne2 : w.heap.size + 1 ≠ wr.heap.size := by omega
      have ne3 : wr.heap.size ≠ w.heap.size := by omega
      have ne4 : wr.heap.size ≠ w.heap.size + 1 := by omega
      have HV := hv.ab bW
      have HZ := hz.ab bW
      clear hb1
      by_cases hbd : Disk.bad ⟨s, t, cap, dn⟩
      · obtain rfl : er = 8 := hr.out.trans (Disk.check_bad hbd)
        have HM := Lib.hid (show Slots.open_ (⟨⟨s, t, cap, dn⟩, ⟨p, q, cep, dm⟩, n⟩ : Sl) = (Slots.zero, 8) from if_pos (Or.inl hbd))
        obtain ⟨zq0, zq1, zq2, zq3, zq4, zq5, zq6, zq7, zq8, zg0, zg1, zg2, zg3, zg4, zg5, zg6, zg7, zg8⟩ := HZ
        (try simp only [AM.nil, Slots.zero, Disk.zero, List.length_nil] at zq0 zq1 zq2 zq3 zq4 zq5 zq6 zq7 zq8)
        clear hr hbd
        go_wp2
        refine bodyPost_ret (v := .tuple #[(.agg #[.slice none 0 0, .slice none 0 0, .int .i64 0, .bool false, .slice none 0 0, .slice none 0 0, .int .i64 0, .bool false, .int .i64 0]), .int .i64 8]) (by simp [results, Try.results14, go_sem, *]) rfl ?_
        exact RetSlE.zero HM.out.symm (by repeat (first | with_reducible exact Ab.refl _ | with_reducible assumption | with_reducible refine Ab.drew ?_ | with_reducible refine Ab.drewN ?_ _ | with_reducible refine Ab.alloc ?_ _ | with_reducible refine Ab.trans ?_ (by assumption) | with_reducible refine Ab.set ?_ (by first | (simp; done) | omega | (simp; omega)) _))
      obtain rfl : er = 0 := hr.out.trans (Disk.check_ok hbd)
      have HN := Lib.hid hbd
      clear hr
      cases dn with
      | true =>
        have HST := Lib.hid (Slots.op_start hbd)
        have HSY := Lib.hid (Slots.op_down hbd)
        have HSM := Lib.hid (Slots.small_op hbd)
        clear hbd
        go_wp2_with fail
        refine (start_any A B ca cb s t cap true _ (RB.ab h.a (by repeat (first | with_reducible exact Ab.refl _ | with_reducible assumption | with_reducible refine Ab.drew ?_ | with_reducible refine Ab.drewN ?_ _ | with_reducible refine Ab.alloc ?_ _ | with_reducible refine Ab.trans ?_ (by assumption) | with_reducible refine Ab.set ?_ (by first | (simp; done) | omega | (simp; omega)) _))) (RB.ab h.b (by repeat (first | with_reducible exact Ab.refl _ | with_reducible assumption | with_reducible refine Ab.drew ?_ | with_reducible refine Ab.drewN ?_ _ | with_reducible refine Ab.alloc ?_ _ | with_reducible refine Ab.trans ?_ (by assumption) | with_reducible refine Ab.set ?_ (by first | (simp; done) | omega | (simp; omega)) _))) h.la h.lb h.sa h.sb).mono ?_
        rintro e w2 ⟨r1, er1, D1, E1, cd1, ce1, hr1, rfl, o11, o21, hb2⟩
        have hr1' := Lib.hid (show r1 = ⟨s, [], cap, false⟩ from (Prod.mk.inj (hr1.out.trans HST.out)).1)
        have l1 : r1.s.length ≤ 1000000 ∧ r1.t.length ≤ 1000000 := by rw [hr1'.out]; exact ⟨h.sa, Nat.zero_le _⟩
        have HL := Lib.hid l1
        clear hr1 l1
        have dq0 := hb2.at dq0
        have dq1 := hb2.at dq1
        have dq2 := hb2.at dq2
        have dq3 := hb2.at dq3
        have dg0 := hb2.fr zd dg0
        have dg1 := hb2.fr zd dg1
        have dg2 := hb2.fr zd dg2
        have dg3 := hb2.fr zd dg3
        have HV := HV.ab hb2
        have HZ := HZ.ab hb2
        have zz2 := Nat.le_trans hsz1 hb2.size
        have zd2 := Nat.lt_of_lt_of_le zd hb2.size
        have p1 : RB w2 (wr.heap.size + 1) D1 r1.s := o11.rb.mono zd
        have p2 : RB w2 (wr.heap.size + 1) E1 r1.t := o21.rb.mono zd
        have k1 := o11.le
        have k2 := o21.le
        clear o11 o21
        go_wp2_with fail
        refine (sync_any D1 E1 cd1 ce1 r1.s r1.t r1.cap r1.down _ (RB.zero (lo := wr.heap.size + 1) (by repeat (first | with_reducible assumption | with_reducible refine RB.put ?_ (by first | (simp; done) | omega | (simp; omega)) _ | (with_reducible refine RB.ab ?_ (by assumption))))) (RB.zero (lo := wr.heap.size + 1) (by repeat (first | with_reducible assumption | with_reducible refine RB.put ?_ (by first | (simp; done) | omega | (simp; omega)) _ | (with_reducible refine RB.ab ?_ (by assumption))))) k1 k2 HL.out.1 HL.out.2).mono ?_
        rintro e w3 ⟨r3, er3, D3, E3, cd3, ce3, hr3, rfl, o1, o2, hb3⟩
        have HO := Lib.hid (show r3 = Slots.op ⟨s, t, cap, true⟩ from (Prod.mk.inj (hr3.out.trans ((congrArg Disk.sync (show (⟨r1.s, r1.t, r1.cap, r1.down⟩ : Dev) = _ from hr1'.out)).trans HSY.out))).1)
        obtain ⟨vq0, vq1, vq2, vq3, vq4, vq5, vq6, vq7, vq8, vg0, vg1, vg2, vg3, vg4, vg5, vg6, vg7, vg8⟩ := HV
        (try simp only [AM.nil, Slots.zero, Disk.zero, List.length_nil] at vq0 vq1 vq2 vq3 vq4 vq5 vq6 vq7 vq8)
        obtain ⟨zq0, zq1, zq2, zq3, zq4, zq5, zq6, zq7, zq8, zg0, zg1, zg2, zg3, zg4, zg5, zg6, zg7, zg8⟩ := HZ
        (try simp only [AM.nil, Slots.zero, Disk.zero, List.length_nil] at zq0 zq1 zq2 zq3 zq4 zq5 zq6 zq7 zq8)
        skip
        have hv3 : SlB w3 w.heap.size m' r' := ⟨hb3.at (by simp [go_sem, *]), hb3.at (by simp [go_sem, *]), hb3.at (by simp [go_sem, *]), hb3.at (by simp [go_sem, *]), hb3.at (by simp [go_sem, *]), hb3.at (by simp [go_sem, *]), hb3.at (by simp [go_sem, *]), hb3.at (by simp [go_sem, *]), hb3.at (by simp [go_sem, *]), (hb3.frozen (by first | (simp; done) | omega | (simp; omega))).trans (by simp [go_sem, *]), (hb3.frozen (by first | (simp; done) | omega | (simp; omega))).trans (by simp [go_sem, *]), (hb3.frozen (by first | (simp; done) | omega | (simp; omega))).trans (by simp [go_sem, *]), (hb3.frozen (by first | (simp; done) | omega | (simp; omega))).trans (by simp [go_sem, *]), (hb3.frozen (by first | (simp; done) | omega | (simp; omega))).trans (by simp [go_sem, *]), (hb3.frozen (by first | (simp; done) | omega | (simp; omega))).trans (by simp [go_sem, *]), (hb3.frozen (by first | (simp; done) | omega | (simp; omega))).trans (by simp [go_sem, *]), (hb3.frozen (by first | (simp; done) | omega | (simp; omega))).trans (by simp [go_sem, *]), (hb3.frozen (by first | (simp; done) | omega | (simp; omega))).trans (by simp [go_sem, *])⟩
        have hz3 : SlB w3 (w.heap.size + 1) AM.nil Slots.zero := ⟨hb3.at (by simp [go_sem, AM.nil, Slots.zero, Disk.zero, *]), hb3.at (by simp [go_sem, AM.nil, Slots.zero, Disk.zero, *]), hb3.at (by simp [go_sem, AM.nil, Slots.zero, Disk.zero, *]), hb3.at (by simp [go_sem, AM.nil, Slots.zero, Disk.zero, *]), hb3.at (by simp [go_sem, AM.nil, Slots.zero, Disk.zero, *]), hb3.at (by simp [go_sem, AM.nil, Slots.zero, Disk.zero, *]), hb3.at (by simp [go_sem, AM.nil, Slots.zero, Disk.zero, *]), hb3.at (by simp [go_sem, AM.nil, Slots.zero, Disk.zero, *]), hb3.at (by simp [go_sem, AM.nil, Slots.zero, Disk.zero, *]), (hb3.frozen (by first | (simp; done) | omega | (simp; omega))).trans (by simp [go_sem, *]), (hb3.frozen (by first | (simp; done) | omega | (simp; omega))).trans (by simp [go_sem, *]), (hb3.frozen (by first | (simp; done) | omega | (simp; omega))).trans (by simp [go_sem, *]), (hb3.frozen (by first | (simp; done) | omega | (simp; omega))).trans (by simp [go_sem, *]), (hb3.frozen (by first | (simp; done) | omega | (simp; omega))).trans (by simp [go_sem, *]), (hb3.frozen (by first | (simp; done) | omega | (simp; omega))).trans (by simp [go_sem, *]), (hb3.frozen (by first | (simp; done) | omega | (simp; omega))).trans (by simp [go_sem, *]), (hb3.frozen (by first | (simp; done) | omega | (simp; omega))).trans (by simp [go_sem, *]), (hb3.frozen (by first | (simp; done) | omega | (simp; omega))).trans (by simp [go_sem, *])⟩
        have zz3 : w.heap.size + 1 + 1 ≤ w3.heap.size := Nat.le_trans zz2 (by have := hb3.size; first | omega | (simp at this; omega))
        have hD3 : RB w3 (w.heap.size + 1 + 1) D3 r3.s := o1.rb.mono (by first | (simp; done) | omega | (simp; omega))
        have hE3 : RB w3 (w.heap.size + 1 + 1) E3 r3.t := o2.rb.mono (by first | (simp; done) | omega | (simp; omega))
        have b3 : Ab w w3 := (by repeat (first | with_reducible exact Ab.refl _ | with_reducible assumption | with_reducible refine Ab.drew ?_ | with_reducible refine Ab.drewN ?_ _ | with_reducible refine Ab.alloc ?_ _ | with_reducible refine Ab.trans ?_ (by assumption) | with_reducible refine Ab.set ?_ (by first | (simp; done) | omega | (simp; omega)) _))
        have k3 := o1.le
        have j3 := o2.le
        have s3 := Lib.hid (show Slots.Small r3 by rw [HO.out]; exact HSM.out)
        (try clear HV)
        (try clear HZ)
        clear hr3 o1 o2 vq0 vq1 vq2 vq3 vq4 vq5 vq6 vq7 vq8 vg0 vg1 vg2 vg3 vg4 vg5 vg6 vg7 vg8 zq0 zq1 zq2 zq3 zq4 zq5 zq6 zq7 zq8 zg0 zg1 zg2 zg3 zg4 zg5 zg6 zg7 zg8
        obtain ⟨vq0, vq1, vq2, vq3, vq4, vq5, vq6, vq7, vq8, vg0, vg1, vg2, vg3, vg4, vg5, vg6, vg7, vg8⟩ := hv3
        (try simp only [AM.nil, Slots.zero, Disk.zero, List.length_nil] at vq0 vq1 vq2 vq3 vq4 vq5 vq6 vq7 vq8)
        obtain ⟨zq0, zq1, zq2, zq3, zq4, zq5, zq6, zq7, zq8, zg0, zg1, zg2, zg3, zg4, zg5, zg6, zg7, zg8⟩ := hz3
        (try simp only [AM.nil, Slots.zero, Disk.zero, List.length_nil] at zq0 zq1 zq2 zq3 zq4 zq5 zq6 zq7 zq8)
        go_wp2
        go_roundw
        case rel => exact ⟨⟨D3, E3, m'.C, m'.D, cd3, ce3, m'.cc, m'.cd⟩, ⟨r3, r'.b, r'.n⟩, ⟨⟨(by simp [go_sem, AM.nil, Slots.zero, Disk.zero, *]), (by simp [go_sem, AM.nil, Slots.zero, Disk.zero, *]), (by simp [go_sem, AM.nil, Slots.zero, Disk.zero, *]), (by simp [go_sem, AM.nil, Slots.zero, Disk.zero, *]), (by simp [go_sem, AM.nil, Slots.zero, Disk.zero, *]), (by simp [go_sem, AM.nil, Slots.zero, Disk.zero, *]), (by simp [go_sem, AM.nil, Slots.zero, Disk.zero, *]), (by simp [go_sem, AM.nil, Slots.zero, Disk.zero, *]), (by simp [go_sem, AM.nil, Slots.zero, Disk.zero, *]), (by simp [go_sem, AM.nil, Slots.zero, Disk.zero, *]), (by simp [go_sem, AM.nil, Slots.zero, Disk.zero, *]), (by simp [go_sem, AM.nil, Slots.zero, Disk.zero, *]), (by simp [go_sem, AM.nil, Slots.zero, Disk.zero, *]), (by simp [go_sem, AM.nil, Slots.zero, Disk.zero, *]), (by simp [go_sem, AM.nil, Slots.zero, Disk.zero, *]), (by simp [go_sem, AM.nil, Slots.zero, Disk.zero, *]), (by simp [go_sem, AM.nil, Slots.zero, Disk.zero, *]), (by simp [go_sem, AM.nil, Slots.zero, Disk.zero, *])⟩, ⟨(by simp [go_sem, *]), (by simp [go_sem, *]), (by simp [go_sem, *]), (by simp [go_sem, *]), (by simp [go_sem, *]), (by simp [go_sem, *]), (by simp [go_sem, *]), (by simp [go_sem, *]), (by simp [go_sem, *]), (by simp [go_sem, *]), (by simp [go_sem, *]), (by simp [go_sem, *]), (by simp [go_sem, *]), (by simp [go_sem, *]), (by simp [go_sem, *]), (by simp [go_sem, *]), (by simp [go_sem, *]), (by simp [go_sem, *])⟩, (by repeat (first | with_reducible exact Ab.refl _ | with_reducible assumption | with_reducible refine Ab.drew ?_ | with_reducible refine Ab.drewN ?_ _ | with_reducible refine Ab.alloc ?_ _ | with_reducible refine Ab.trans ?_ (by assumption) | with_reducible refine Ab.set ?_ (by first | (simp; done) | omega | (simp; omega)) _)), by simp; omega⟩, .inr (.inl ⟨rfl, HN, Lib.hid (by rw [hr0.out, HO.out]), (show m'.C = C from congrArg AM.C hm0.out), (show m'.D = D from congrArg AM.D hm0.out), (show m'.cc = cc from congrArg AM.cc hm0.out), (show m'.cd = cd from congrArg AM.cd hm0.out), (by repeat (first | with_reducible assumption | with_reducible refine RB.put ?_ (by first | (simp; done) | omega | (simp; omega)) _ | (with_reducible refine RB.ab ?_ (by assumption)))), (by repeat (first | with_reducible assumption | with_reducible refine RB.put ?_ (by first | (simp; done) | omega | (simp; omega)) _ | (with_reducible refine RB.ab ?_ (by assumption)))), k3, j3⟩)⟩
        case measure => (show 2 - (intOf _).toNat < 2 - (intOf _).toNat); simp only [intOf]; omega
      | false =>
        have HSY := Lib.hid (Slots.op_up hbd)
        have HSM := Lib.hid (Slots.small_op hbd)
        clear hbd
        go_wp2_with fail
        refine (sync_any A B ca cb s t cap false _ (RB.ab h.a (by repeat (first | with_reducible exact Ab.refl _ | with_reducible assumption | with_reducible refine Ab.drew ?_ | with_reducible refine Ab.drewN ?_ _ | with_reducible refine Ab.alloc ?_ _ | with_reducible refine Ab.trans ?_ (by assumption) | with_reducible refine Ab.set ?_ (by first | (simp; done) | omega | (simp; omega)) _))) (RB.ab h.b (by repeat (first | with_reducible exact Ab.refl _ | with_reducible assumption | with_reducible refine Ab.drew ?_ | with_reducible refine Ab.drewN ?_ _ | with_reducible refine Ab.alloc ?_ _ | with_reducible refine Ab.trans ?_ (by assumption) | with_reducible refine Ab.set ?_ (by first | (simp; done) | omega | (simp; omega)) _))) h.la h.lb h.sa h.sb).mono ?_
        rintro e w3 ⟨r3, er3, D3, E3, cd3, ce3, hr3, rfl, o1, o2, hb3⟩
        have HO := Lib.hid (show r3 = Slots.op ⟨s, t, cap, false⟩ from (Prod.mk.inj (hr3.out.trans HSY.out)).1)
        obtain ⟨vq0, vq1, vq2, vq3, vq4, vq5, vq6, vq7, vq8, vg0, vg1, vg2, vg3, vg4, vg5, vg6, vg7, vg8⟩ := HV
        (try simp only [AM.nil, Slots.zero, Disk.zero, List.length_nil] at vq0 vq1 vq2 vq3 vq4 vq5 vq6 vq7 vq8)
        obtain ⟨zq0, zq1, zq2, zq3, zq4, zq5, zq6, zq7, zq8, zg0, zg1, zg2, zg3, zg4, zg5, zg6, zg7, zg8⟩ := HZ
        (try simp only [AM.nil, Slots.zero, Disk.zero, List.length_nil] at zq0 zq1 zq2 zq3 zq4 zq5 zq6 zq7 zq8)
        skip
        have hv3 : SlB w3 w.heap.size m' r' := ⟨hb3.at (by simp [go_sem, *]), hb3.at (by simp [go_sem, *]), hb3.at (by simp [go_sem, *]), hb3.at (by simp [go_sem, *]), hb3.at (by simp [go_sem, *]), hb3.at (by simp [go_sem, *]), hb3.at (by simp [go_sem, *]), hb3.at (by simp [go_sem, *]), hb3.at (by simp [go_sem, *]), (hb3.frozen (by first | (simp; done) | omega | (simp; omega))).trans (by simp [go_sem, *]), (hb3.frozen (by first | (simp; done) | omega | (simp; omega))).trans (by simp [go_sem, *]), (hb3.frozen (by first | (simp; done) | omega | (simp; omega))).trans (by simp [go_sem, *]), (hb3.frozen (by first | (simp; done) | omega | (simp; omega))).trans (by simp [go_sem, *]), (hb3.frozen (by first | (simp; done) | omega | (simp; omega))).trans (by simp [go_sem, *]), (hb3.frozen (by first | (simp; done) | omega | (simp; omega))).trans (by simp [go_sem, *]), (hb3.frozen (by first | (simp; done) | omega | (simp; omega))).trans (by simp [go_sem, *]), (hb3.frozen (by first | (simp; done) | omega | (simp; omega))).trans (by simp [go_sem, *]), (hb3.frozen (by first | (simp; done) | omega | (simp; omega))).trans (by simp [go_sem, *])⟩
        have hz3 : SlB w3 (w.heap.size + 1) AM.nil Slots.zero := ⟨hb3.at (by simp [go_sem, AM.nil, Slots.zero, Disk.zero, *]), hb3.at (by simp [go_sem, AM.nil, Slots.zero, Disk.zero, *]), hb3.at (by simp [go_sem, AM.nil, Slots.zero, Disk.zero, *]), hb3.at (by simp [go_sem, AM.nil, Slots.zero, Disk.zero, *]), hb3.at (by simp [go_sem, AM.nil, Slots.zero, Disk.zero, *]), hb3.at (by simp [go_sem, AM.nil, Slots.zero, Disk.zero, *]), hb3.at (by simp [go_sem, AM.nil, Slots.zero, Disk.zero, *]), hb3.at (by simp [go_sem, AM.nil, Slots.zero, Disk.zero, *]), hb3.at (by simp [go_sem, AM.nil, Slots.zero, Disk.zero, *]), (hb3.frozen (by first | (simp; done) | omega | (simp; omega))).trans (by simp [go_sem, *]), (hb3.frozen (by first | (simp; done) | omega | (simp; omega))).trans (by simp [go_sem, *]), (hb3.frozen (by first | (simp; done) | omega | (simp; omega))).trans (by simp [go_sem, *]), (hb3.frozen (by first | (simp; done) | omega | (simp; omega))).trans (by simp [go_sem, *]), (hb3.frozen (by first | (simp; done) | omega | (simp; omega))).trans (by simp [go_sem, *]), (hb3.frozen (by first | (simp; done) | omega | (simp; omega))).trans (by simp [go_sem, *]), (hb3.frozen (by first | (simp; done) | omega | (simp; omega))).trans (by simp [go_sem, *]), (hb3.frozen (by first | (simp; done) | omega | (simp; omega))).trans (by simp [go_sem, *]), (hb3.frozen (by first | (simp; done) | omega | (simp; omega))).trans (by simp [go_sem, *])⟩
        have zz3 : w.heap.size + 1 + 1 ≤ w3.heap.size := Nat.le_trans hsz1 (by have := hb3.size; first | omega | (simp at this; omega))
        have hD3 : RB w3 (w.heap.size + 1 + 1) D3 r3.s := o1.rb.mono (by first | (simp; done) | omega | (simp; omega))
        have hE3 : RB w3 (w.heap.size + 1 + 1) E3 r3.t := o2.rb.mono (by first | (simp; done) | omega | (simp; omega))
        have b3 : Ab w w3 := (by repeat (first | with_reducible exact Ab.refl _ | with_reducible assumption | with_reducible refine Ab.drew ?_ | with_reducible refine Ab.drewN ?_ _ | with_reducible refine Ab.alloc ?_ _ | with_reducible refine Ab.trans ?_ (by assumption) | with_reducible refine Ab.set ?_ (by first | (simp; done) | omega | (simp; omega)) _))
        have k3 := o1.le
        have j3 := o2.le
        have s3 := Lib.hid (show Slots.Small r3 by rw [HO.out]; exact HSM.out)
        (try clear HV)
        (try clear HZ)
        clear hr3 o1 o2 vq0 vq1 vq2 vq3 vq4 vq5 vq6 vq7 vq8 vg0 vg1 vg2 vg3 vg4 vg5 vg6 vg7 vg8 zq0 zq1 zq2 zq3 zq4 zq5 zq6 zq7 zq8 zg0 zg1 zg2 zg3 zg4 zg5 zg6 zg7 zg8
        obtain ⟨vq0, vq1, vq2, vq3, vq4, vq5, vq6, vq7, vq8, vg0, vg1, vg2, vg3, vg4, vg5, vg6, vg7, vg8⟩ := hv3
        (try simp only [AM.nil, Slots.zero, Disk.zero, List.length_nil] at vq0 vq1 vq2 vq3 vq4 vq5 vq6 vq7 vq8)
        obtain ⟨zq0, zq1, zq2, zq3, zq4, zq5, zq6, zq7, zq8, zg0, zg1, zg2, zg3, zg4, zg5, zg6, zg7, zg8⟩ := hz3
        (try simp only [AM.nil, Slots.zero, Disk.zero, List.length_nil] at zq0 zq1 zq2 zq3 zq4 zq5 zq6 zq7 zq8)
        go_wp2
        go_roundw
        case rel => exact ⟨⟨D3, E3, m'.C, m'.D, cd3, ce3, m'.cc, m'.cd⟩, ⟨r3, r'.b, r'.n⟩, ⟨⟨(by simp [go_sem, AM.nil, Slots.zero, Disk.zero, *]), (by simp [go_sem, AM.nil, Slots.zero, Disk.zero, *]), (by simp [go_sem, AM.nil, Slots.zero, Disk.zero, *]), (by simp [go_sem, AM.nil, Slots.zero, Disk.zero, *]), (by simp [go_sem, AM.nil, Slots.zero, Disk.zero, *]), (by simp [go_sem, AM.nil, Slots.zero, Disk.zero, *]), (by simp [go_sem, AM.nil, Slots.zero, Disk.zero, *]), (by simp [go_sem, AM.nil, Slots.zero, Disk.zero, *]), (by simp [go_sem, AM.nil, Slots.zero, Disk.zero, *]), (by simp [go_sem, AM.nil, Slots.zero, Disk.zero, *]), (by simp [go_sem, AM.nil, Slots.zero, Disk.zero, *]), (by simp [go_sem, AM.nil, Slots.zero, Disk.zero, *]), (by simp [go_sem, AM.nil, Slots.zero, Disk.zero, *]), (by simp [go_sem, AM.nil, Slots.zero, Disk.zero, *]), (by simp [go_sem, AM.nil, Slots.zero, Disk.zero, *]), (by simp [go_sem, AM.nil, Slots.zero, Disk.zero, *]), (by simp [go_sem, AM.nil, Slots.zero, Disk.zero, *]), (by simp [go_sem, AM.nil, Slots.zero, Disk.zero, *])⟩, ⟨(by simp [go_sem, *]), (by simp [go_sem, *]), (by simp [go_sem, *]), (by simp [go_sem, *]), (by simp [go_sem, *]), (by simp [go_sem, *]), (by simp [go_sem, *]), (by simp [go_sem, *]), (by simp [go_sem, *]), (by simp [go_sem, *]), (by simp [go_sem, *]), (by simp [go_sem, *]), (by simp [go_sem, *]), (by simp [go_sem, *]), (by simp [go_sem, *]), (by simp [go_sem, *]), (by simp [go_sem, *]), (by simp [go_sem, *])⟩, (by repeat (first | with_reducible exact Ab.refl _ | with_reducible assumption | with_reducible refine Ab.drew ?_ | with_reducible refine Ab.drewN ?_ _ | with_reducible refine Ab.alloc ?_ _ | with_reducible refine Ab.trans ?_ (by assumption) | with_reducible refine Ab.set ?_ (by first | (simp; done) | omega | (simp; omega)) _)), by simp; omega⟩, .inr (.inl ⟨rfl, HN, Lib.hid (by rw [hr0.out, HO.out]), (show m'.C = C from congrArg AM.C hm0.out), (show m'.D = D from congrArg AM.D hm0.out), (show m'.cc = cc from congrArg AM.cc hm0.out), (show m'.cd = cd from congrArg AM.cd hm0.out), (by repeat (first | with_reducible assumption | with_reducible refine RB.put ?_ (by first | (simp; done) | omega | (simp; omega)) _ | (with_reducible refine RB.ab ?_ (by assumption)))), (by repeat (first | with_reducible assumption | with_reducible refine RB.put ?_ (by first | (simp; done) | omega | (simp; omega)) _ | (with_reducible refine RB.ab ?_ (by assumption)))), k3, j3⟩)⟩
        case measure => (show 2 - (intOf _).toNat < 2 - (intOf _).toNat); simp only [intOf]; omega
    · have HSA := Lib.hid (show Slots.Small r'.a by rw [hr'.out]; exact Slots.small_op hna.out)
      go_wp2_with fail
      refine (check_any C D cc cd p q cep dm _ h.sc h.sd).mono ?_
      rintro e w1 ⟨er, hr, rfl, hb1⟩
      have bW : Ab wr w1 := (by repeat (first | with_reducible exact Ab.refl _ | with_reducible assumption | with_reducible refine Ab.drew ?_ | with_reducible refine Ab.drewN ?_ _ | with_reducible refine Ab.alloc ?_ _ | with_reducible refine Ab.trans ?_ (by assumption) | with_reducible refine Ab.set ?_ (by first | (simp; done) | omega | (simp; omega)) _))
      have hsz1 := Nat.le_trans hsz bW.size
      have dq0 := hb1.at (p := ⟨wr.heap.size, 0, none⟩) (v := .slice C p.length cc) (by (repeat (first | with_reducible assumption | (simp [go_sem]; done) | with_reducible apply cell_alloc | with_reducible apply cell_drew | with_reducible apply cell_drewN | (with_reducible apply Ab.at; with_reducible assumption) | (with_reducible refine cell_set ?_ ?_; rotate_left; focus (first | (simp; done) | (simp; omega))) | (with_reducible refine cell_setb ?_ ?_; rotate_left; focus (first | omega | (simp only; omega) | (simp; omega)))))); have dq1 := hb1.at (p := ⟨wr.heap.size, 1, none⟩) (v := .slice D q.length cd) (by (repeat (first | with_reducible assumption | (simp [go_sem]; done) | with_reducible apply cell_alloc | with_reducible apply cell_drew | with_reducible apply cell_drewN | (with_reducible apply Ab.at; with_reducible assumption) | (with_reducible refine cell_set ?_ ?_; rotate_left; focus (first | (simp; done) | (simp; omega))) | (with_reducible refine cell_setb ?_ ?_; rotate_left; focus (first | omega | (simp only; omega) | (simp; omega)))))); have dq2 := hb1.at (p := ⟨wr.heap.size, 2, none⟩) (v := .int .i64 cep) (by (repeat (first | with_reducible assumption | (simp [go_sem]; done) | with_reducible apply cell_alloc | with_reducible apply cell_drew | with_reducible apply cell_drewN | (with_reducible apply Ab.at; with_reducible assumption) | (with_reducible refine cell_set ?_ ?_; rotate_left; focus (first | (simp; done) | (simp; omega))) | (with_reducible refine cell_setb ?_ ?_; rotate_left; focus (first | omega | (simp only; omega) | (simp; omega)))))); have dq3 := hb1.at (p := ⟨wr.heap.size, 3, none⟩) (v := .bool dm) (by (repeat (first | with_reducible assumption | (simp [go_sem]; done) | with_reducible apply cell_alloc | with_reducible apply cell_drew | with_reducible apply cell_drewN | (with_reducible apply Ab.at; with_reducible assumption) | (with_reducible refine cell_set ?_ ?_; rotate_left; focus (first | (simp; done) | (simp; omega))) | (with_reducible refine cell_setb ?_ ?_; rotate_left; focus (first | omega | (simp only; omega) | (simp; omega))))))
      have dg0 : w1.frozen? ⟨wr.heap.size, 0, none⟩ = false := (hb1.frozen (p := ⟨wr.heap.size, 0, none⟩) (by first | (simp; done) | omega | (simp; omega))).trans (by simp [go_sem]); have dg1 : w1.frozen? ⟨wr.heap.size, 1, none⟩ = false := (hb1.frozen (p := ⟨wr.heap.size, 1, none⟩) (by first | (simp; done) | omega | (simp; omega))).trans (by simp [go_sem]); have dg2 : w1.frozen? ⟨wr.heap.size, 2, none⟩ = false := (hb1.frozen (p := ⟨wr.heap.size, 2, none⟩) (by first | (simp; done) | omega | (simp; omega))).trans (by simp [go_sem]); have dg3 : w1.frozen? ⟨wr.heap.size, 3, none⟩ = false := (hb1.frozen (p := ⟨wr.heap.size, 3, none⟩) (by first | (simp; done) | omega | (simp; omega))).trans (by simp [go_sem])
      have zd : wr.heap.size < w1.heap.size := cell_lt dq0
      have ne1 : w.heap.size ≠ wr.heap.size := by omega
      have ne2 : w.heap.size + 1 ≠ wr.heap.size := by omega
      have ne3 : wr.heap.size ≠ w.heap.size := by omega
      have ne4 : wr.heap.size ≠ w.heap.size + 1 := by omega
      have HV := hv.ab bW
      have HZ := hz.ab bW
      clear hb1
      by_cases hbd : Disk.bad ⟨p, q, cep, dm⟩
      · obtain rfl : er = 8 := hr.out.trans (Disk.check_bad hbd)
        have HM := Lib.hid (show Slots.open_ (⟨⟨s, t, cap, dn⟩, ⟨p, q, cep, dm⟩, n⟩ : Sl) = (Slots.zero, 8) from if_pos (Or.inr hbd))
        obtain ⟨zq0, zq1, zq2, zq3, zq4, zq5, zq6, zq7, zq8, zg0, zg1, zg2, zg3, zg4, zg5, zg6, zg7, zg8⟩ := HZ
        (try simp only [AM.nil, Slots.zero, Disk.zero, List.length_nil] at zq0 zq1 zq2 zq3 zq4 zq5 zq6 zq7 zq8)
        clear hr hbd
        go_wp2
        refine bodyPost_ret (v := .tuple #[(.agg #[.slice none 0 0, .slice none 0 0, .int .i64 0, .bool false, .slice none 0 0, .slice none 0 0, .int .i64 0, .bool false, .int .i64 0]), .int .i64 8]) (by simp [results, Try.results14, go_sem, *]) rfl ?_
        exact RetSlE.zero HM.out.symm (by repeat (first | with_reducible exact Ab.refl _ | with_reducible assumption | with_reducible refine Ab.drew ?_ | with_reducible refine Ab.drewN ?_ _ | with_reducible refine Ab.alloc ?_ _ | with_reducible refine Ab.trans ?_ (by assumption) | with_reducible refine Ab.set ?_ (by first | (simp; done) | omega | (simp; omega)) _))
      obtain rfl : er = 0 := hr.out.trans (Disk.check_ok hbd)
      have HN := Lib.hid hbd
      clear hr
      cases dm with
      | true =>
        have HST := Lib.hid (Slots.op_start hbd)
        have HSY := Lib.hid (Slots.op_down hbd)
        have HSM := Lib.hid (Slots.small_op hbd)
        clear hbd
        go_wp2_with fail
        refine (start_any C D cc cd p q cep true _ (RB.ab h.c (by repeat (first | with_reducible exact Ab.refl _ | with_reducible assumption | with_reducible refine Ab.drew ?_ | with_reducible refine Ab.drewN ?_ _ | with_reducible refine Ab.alloc ?_ _ | with_reducible refine Ab.trans ?_ (by assumption) | with_reducible refine Ab.set ?_ (by first | (simp; done) | omega | (simp; omega)) _))) (RB.ab h.d (by repeat (first | with_reducible exact Ab.refl _ | with_reducible assumption | with_reducible refine Ab.drew ?_ | with_reducible refine Ab.drewN ?_ _ | with_reducible refine Ab.alloc ?_ _ | with_reducible refine Ab.trans ?_ (by assumption) | with_reducible refine Ab.set ?_ (by first | (simp; done) | omega | (simp; omega)) _))) h.lc h.ld h.sc h.sd).mono ?_
        rintro e w2 ⟨r1, er1, D1, E1, cd1, ce1, hr1, rfl, o11, o21, hb2⟩
        have hr1' := Lib.hid (show r1 = ⟨p, [], cep, false⟩ from (Prod.mk.inj (hr1.out.trans HST.out)).1)
        have l1 : r1.s.length ≤ 1000000 ∧ r1.t.length ≤ 1000000 := by rw [hr1'.out]; exact ⟨h.sc, Nat.zero_le _⟩
        have HL := Lib.hid l1
        clear hr1 l1
        have dq0 := hb2.at dq0
        have dq1 := hb2.at dq1
        have dq2 := hb2.at dq2
        have dq3 := hb2.at dq3
        have dg0 := hb2.fr zd dg0
        have dg1 := hb2.fr zd dg1
        have dg2 := hb2.fr zd dg2
        have dg3 := hb2.fr zd dg3
        have HV := HV.ab hb2
        have HZ := HZ.ab hb2
        have zz2 := Nat.le_trans hsz1 hb2.size
        have zd2 := Nat.lt_of_lt_of_le zd hb2.size
        have p1 : RB w2 (wr.heap.size + 1) D1 r1.s := o11.rb.mono zd
        have p2 : RB w2 (wr.heap.size + 1) E1 r1.t := o21.rb.mono zd
        have k1 := o11.le
        have k2 := o21.le
        clear o11 o21
        go_wp2_with fail
        refine (sync_any D1 E1 cd1 ce1 r1.s r1.t r1.cap r1.down _ (RB.zero (lo := wr.heap.size + 1) (by repeat (first | with_reducible assumption | with_reducible refine RB.put ?_ (by first | (simp; done) | omega | (simp; omega)) _ | (with_reducible refine RB.ab ?_ (by assumption))))) (RB.zero (lo := wr.heap.size + 1) (by repeat (first | with_reducible assumption | with_reducible refine RB.put ?_ (by first | (simp; done) | omega | (simp; omega)) _ | (with_reducible refine RB.ab ?_ (by assumption))))) k1 k2 HL.out.1 HL.out.2).mono ?_
        rintro e w3 ⟨r3, er3, D3, E3, cd3, ce3, hr3, rfl, o1, o2, hb3⟩
        have HO := Lib.hid (show r3 = Slots.op ⟨p, q, cep, true⟩ from (Prod.mk.inj (hr3.out.trans ((congrArg Disk.sync (show (⟨r1.s, r1.t, r1.cap, r1.down⟩ : Dev) = _ from hr1'.out)).trans HSY.out))).1)
        obtain ⟨vq0, vq1, vq2, vq3, vq4, vq5, vq6, vq7, vq8, vg0, vg1, vg2, vg3, vg4, vg5, vg6, vg7, vg8⟩ := HV
        (try simp only [AM.nil, Slots.zero, Disk.zero, List.length_nil] at vq0 vq1 vq2 vq3 vq4 vq5 vq6 vq7 vq8)
        obtain ⟨zq0, zq1, zq2, zq3, zq4, zq5, zq6, zq7, zq8, zg0, zg1, zg2, zg3, zg4, zg5, zg6, zg7, zg8⟩ := HZ
        (try simp only [AM.nil, Slots.zero, Disk.zero, List.length_nil] at zq0 zq1 zq2 zq3 zq4 zq5 zq6 zq7 zq8)
        have ra3 := ra.ab (show Ab wr w3 from (by repeat (first | with_reducible exact Ab.refl _ | with_reducible assumption | with_reducible refine Ab.drew ?_ | with_reducible refine Ab.drewN ?_ _ | with_reducible refine Ab.alloc ?_ _ | with_reducible refine Ab.trans ?_ (by assumption) | with_reducible refine Ab.set ?_ (by first | (simp; done) | omega | (simp; omega)) _))); have rb3 := rb.ab (show Ab wr w3 from (by repeat (first | with_reducible exact Ab.refl _ | with_reducible assumption | with_reducible refine Ab.drew ?_ | with_reducible refine Ab.drewN ?_ _ | with_reducible refine Ab.alloc ?_ _ | with_reducible refine Ab.trans ?_ (by assumption) | with_reducible refine Ab.set ?_ (by first | (simp; done) | omega | (simp; omega)) _)))
        have hv3 : SlB w3 w.heap.size m' r' := ⟨hb3.at (by simp [go_sem, *]), hb3.at (by simp [go_sem, *]), hb3.at (by simp [go_sem, *]), hb3.at (by simp [go_sem, *]), hb3.at (by simp [go_sem, *]), hb3.at (by simp [go_sem, *]), hb3.at (by simp [go_sem, *]), hb3.at (by simp [go_sem, *]), hb3.at (by simp [go_sem, *]), (hb3.frozen (by first | (simp; done) | omega | (simp; omega))).trans (by simp [go_sem, *]), (hb3.frozen (by first | (simp; done) | omega | (simp; omega))).trans (by simp [go_sem, *]), (hb3.frozen (by first | (simp; done) | omega | (simp; omega))).trans (by simp [go_sem, *]), (hb3.frozen (by first | (simp; done) | omega | (simp; omega))).trans (by simp [go_sem, *]), (hb3.frozen (by first | (simp; done) | omega | (simp; omega))).trans (by simp [go_sem, *]), (hb3.frozen (by first | (simp; done) | omega | (simp; omega))).trans (by simp [go_sem, *]), (hb3.frozen (by first | (simp; done) | omega | (simp; omega))).trans (by simp [go_sem, *]), (hb3.frozen (by first | (simp; done) | omega | (simp; omega))).trans (by simp [go_sem, *]), (hb3.frozen (by first | (simp; done) | omega | (simp; omega))).trans (by simp [go_sem, *])⟩
        have hz3 : SlB w3 (w.heap.size + 1) AM.nil Slots.zero := ⟨hb3.at (by simp [go_sem, AM.nil, Slots.zero, Disk.zero, *]), hb3.at (by simp [go_sem, AM.nil, Slots.zero, Disk.zero, *]), hb3.at (by simp [go_sem, AM.nil, Slots.zero, Disk.zero, *]), hb3.at (by simp [go_sem, AM.nil, Slots.zero, Disk.zero, *]), hb3.at (by simp [go_sem, AM.nil, Slots.zero, Disk.zero, *]), hb3.at (by simp [go_sem, AM.nil, Slots.zero, Disk.zero, *]), hb3.at (by simp [go_sem, AM.nil, Slots.zero, Disk.zero, *]), hb3.at (by simp [go_sem, AM.nil, Slots.zero, Disk.zero, *]), hb3.at (by simp [go_sem, AM.nil, Slots.zero, Disk.zero, *]), (hb3.frozen (by first | (simp; done) | omega | (simp; omega))).trans (by simp [go_sem, *]), (hb3.frozen (by first | (simp; done) | omega | (simp; omega))).trans (by simp [go_sem, *]), (hb3.frozen (by first | (simp; done) | omega | (simp; omega))).trans (by simp [go_sem, *]), (hb3.frozen (by first | (simp; done) | omega | (simp; omega))).trans (by simp [go_sem, *]), (hb3.frozen (by first | (simp; done) | omega | (simp; omega))).trans (by simp [go_sem, *]), (hb3.frozen (by first | (simp; done) | omega | (simp; omega))).trans (by simp [go_sem, *]), (hb3.frozen (by first | (simp; done) | omega | (simp; omega))).trans (by simp [go_sem, *]), (hb3.frozen (by first | (simp; done) | omega | (simp; omega))).trans (by simp [go_sem, *]), (hb3.frozen (by first | (simp; done) | omega | (simp; omega))).trans (by simp [go_sem, *])⟩
        have zz3 : w.heap.size + 1 + 1 ≤ w3.heap.size := Nat.le_trans zz2 (by have := hb3.size; first | omega | (simp at this; omega))
        have hD3 : RB w3 (w.heap.size + 1 + 1) D3 r3.s := o1.rb.mono (by first | (simp; done) | omega | (simp; omega))
        have hE3 : RB w3 (w.heap.size + 1 + 1) E3 r3.t := o2.rb.mono (by first | (simp; done) | omega | (simp; omega))
        have b3 : Ab w w3 := (by repeat (first | with_reducible exact Ab.refl _ | with_reducible assumption | with_reducible refine Ab.drew ?_ | with_reducible refine Ab.drewN ?_ _ | with_reducible refine Ab.alloc ?_ _ | with_reducible refine Ab.trans ?_ (by assumption) | with_reducible refine Ab.set ?_ (by first | (simp; done) | omega | (simp; omega)) _))
        have k3 := o1.le
        have j3 := o2.le
        have s3 := Lib.hid (show Slots.Small r3 by rw [HO.out]; exact HSM.out)
        (try clear HV)
        (try clear HZ)
        clear hr3 o1 o2 vq0 vq1 vq2 vq3 vq4 vq5 vq6 vq7 vq8 vg0 vg1 vg2 vg3 vg4 vg5 vg6 vg7 vg8 zq0 zq1 zq2 zq3 zq4 zq5 zq6 zq7 zq8 zg0 zg1 zg2 zg3 zg4 zg5 zg6 zg7 zg8
        obtain ⟨vq0, vq1, vq2, vq3, vq4, vq5, vq6, vq7, vq8, vg0, vg1, vg2, vg3, vg4, vg5, vg6, vg7, vg8⟩ := hv3
        (try simp only [AM.nil, Slots.zero, Disk.zero, List.length_nil] at vq0 vq1 vq2 vq3 vq4 vq5 vq6 vq7 vq8)
        obtain ⟨zq0, zq1, zq2, zq3, zq4, zq5, zq6, zq7, zq8, zg0, zg1, zg2, zg3, zg4, zg5, zg6, zg7, zg8⟩ := hz3
        (try simp only [AM.nil, Slots.zero, Disk.zero, List.length_nil] at zq0 zq1 zq2 zq3 zq4 zq5 zq6 zq7 zq8)
        go_wp2
        go_roundw
        case rel => exact ⟨⟨m'.A, m'.B, D3, E3, m'.ca, m'.cb, cd3, ce3⟩, ⟨r'.a, r3, r'.n⟩, ⟨⟨(by simp [go_sem, AM.nil, Slots.zero, Disk.zero, *]), (by simp [go_sem, AM.nil, Slots.zero, Disk.zero, *]), (by simp [go_sem, AM.nil, Slots.zero, Disk.zero, *]), (by simp [go_sem, AM.nil, Slots.zero, Disk.zero, *]), (by simp [go_sem, AM.nil, Slots.zero, Disk.zero, *]), (by simp [go_sem, AM.nil, Slots.zero, Disk.zero, *]), (by simp [go_sem, AM.nil, Slots.zero, Disk.zero, *]), (by simp [go_sem, AM.nil, Slots.zero, Disk.zero, *]), (by simp [go_sem, AM.nil, Slots.zero, Disk.zero, *]), (by simp [go_sem, AM.nil, Slots.zero, Disk.zero, *]), (by simp [go_sem, AM.nil, Slots.zero, Disk.zero, *]), (by simp [go_sem, AM.nil, Slots.zero, Disk.zero, *]), (by simp [go_sem, AM.nil, Slots.zero, Disk.zero, *]), (by simp [go_sem, AM.nil, Slots.zero, Disk.zero, *]), (by simp [go_sem, AM.nil, Slots.zero, Disk.zero, *]), (by simp [go_sem, AM.nil, Slots.zero, Disk.zero, *]), (by simp [go_sem, AM.nil, Slots.zero, Disk.zero, *]), (by simp [go_sem, AM.nil, Slots.zero, Disk.zero, *])⟩, ⟨(by simp [go_sem, *]), (by simp [go_sem, *]), (by simp [go_sem, *]), (by simp [go_sem, *]), (by simp [go_sem, *]), (by simp [go_sem, *]), (by simp [go_sem, *]), (by simp [go_sem, *]), (by simp [go_sem, *]), (by simp [go_sem, *]), (by simp [go_sem, *]), (by simp [go_sem, *]), (by simp [go_sem, *]), (by simp [go_sem, *]), (by simp [go_sem, *]), (by simp [go_sem, *]), (by simp [go_sem, *]), (by simp [go_sem, *])⟩, (by repeat (first | with_reducible exact Ab.refl _ | with_reducible assumption | with_reducible refine Ab.drew ?_ | with_reducible refine Ab.drewN ?_ _ | with_reducible refine Ab.alloc ?_ _ | with_reducible refine Ab.trans ?_ (by assumption) | with_reducible refine Ab.set ?_ (by first | (simp; done) | omega | (simp; omega)) _)), by simp; omega⟩, .inr (.inr ⟨rfl, hna, HN, Lib.hid (by rw [hr'.out, HO.out]), ⟨(by repeat (first | with_reducible assumption | with_reducible refine RB.put ?_ (by first | (simp; done) | omega | (simp; omega)) _ | (with_reducible refine RB.ab ?_ (by assumption)))), (by repeat (first | with_reducible assumption | with_reducible refine RB.put ?_ (by first | (simp; done) | omega | (simp; omega)) _ | (with_reducible refine RB.ab ?_ (by assumption)))), (by repeat (first | with_reducible assumption | with_reducible refine RB.put ?_ (by first | (simp; done) | omega | (simp; omega)) _ | (with_reducible refine RB.ab ?_ (by assumption)))), (by repeat (first | with_reducible assumption | with_reducible refine RB.put ?_ (by first | (simp; done) | omega | (simp; omega)) _ | (with_reducible refine RB.ab ?_ (by assumption)))), la, lb, k3, j3, HSA.out.1, HSA.out.2, s3.out.1, s3.out.2⟩⟩)⟩
        case measure => (show 2 - (intOf _).toNat < 2 - (intOf _).toNat); simp only [intOf]; omega
      | false =>
        have HSY := Lib.hid (Slots.op_up hbd)
        have HSM := Lib.hid (Slots.small_op hbd)
        clear hbd
        go_wp2_with fail
        refine (sync_any C D cc cd p q cep false _ (RB.ab h.c (by repeat (first | with_reducible exact Ab.refl _ | with_reducible assumption | with_reducible refine Ab.drew ?_ | with_reducible refine Ab.drewN ?_ _ | with_reducible refine Ab.alloc ?_ _ | with_reducible refine Ab.trans ?_ (by assumption) | with_reducible refine Ab.set ?_ (by first | (simp; done) | omega | (simp; omega)) _))) (RB.ab h.d (by repeat (first | with_reducible exact Ab.refl _ | with_reducible assumption | with_reducible refine Ab.drew ?_ | with_reducible refine Ab.drewN ?_ _ | with_reducible refine Ab.alloc ?_ _ | with_reducible refine Ab.trans ?_ (by assumption) | with_reducible refine Ab.set ?_ (by first | (simp; done) | omega | (simp; omega)) _))) h.lc h.ld h.sc h.sd).mono ?_
        rintro e w3 ⟨r3, er3, D3, E3, cd3, ce3, hr3, rfl, o1, o2, hb3⟩
        have HO := Lib.hid (show r3 = Slots.op ⟨p, q, cep, false⟩ from (Prod.mk.inj (hr3.out.trans HSY.out)).1)
        obtain ⟨vq0, vq1, vq2, vq3, vq4, vq5, vq6, vq7, vq8, vg0, vg1, vg2, vg3, vg4, vg5, vg6, vg7, vg8⟩ := HV
        (try simp only [AM.nil, Slots.zero, Disk.zero, List.length_nil] at vq0 vq1 vq2 vq3 vq4 vq5 vq6 vq7 vq8)
        obtain ⟨zq0, zq1, zq2, zq3, zq4, zq5, zq6, zq7, zq8, zg0, zg1, zg2, zg3, zg4, zg5, zg6, zg7, zg8⟩ := HZ
        (try simp only [AM.nil, Slots.zero, Disk.zero, List.length_nil] at zq0 zq1 zq2 zq3 zq4 zq5 zq6 zq7 zq8)
        have ra3 := ra.ab (show Ab wr w3 from (by repeat (first | with_reducible exact Ab.refl _ | with_reducible assumption | with_reducible refine Ab.drew ?_ | with_reducible refine Ab.drewN ?_ _ | with_reducible refine Ab.alloc ?_ _ | with_reducible refine Ab.trans ?_ (by assumption) | with_reducible refine Ab.set ?_ (by first | (simp; done) | omega | (simp; omega)) _))); have rb3 := rb.ab (show Ab wr w3 from (by repeat (first | with_reducible exact Ab.refl _ | with_reducible assumption | with_reducible refine Ab.drew ?_ | with_reducible refine Ab.drewN ?_ _ | with_reducible refine Ab.alloc ?_ _ | with_reducible refine Ab.trans ?_ (by assumption) | with_reducible refine Ab.set ?_ (by first | (simp; done) | omega | (simp; omega)) _)))
        have hv3 : SlB w3 w.heap.size m' r' := ⟨hb3.at (by simp [go_sem, *]), hb3.at (by simp [go_sem, *]), hb3.at (by simp [go_sem, *]), hb3.at (by simp [go_sem, *]), hb3.at (by simp [go_sem, *]), hb3.at (by simp [go_sem, *]), hb3.at (by simp [go_sem, *]), hb3.at (by simp [go_sem, *]), hb3.at (by simp [go_sem, *]), (hb3.frozen (by first | (simp; done) | omega | (simp; omega))).trans (by simp [go_sem, *]), (hb3.frozen (by first | (simp; done) | omega | (simp; omega))).trans (by simp [go_sem, *]), (hb3.frozen (by first | (simp; done) | omega | (simp; omega))).trans (by simp [go_sem, *]), (hb3.frozen (by first | (simp; done) | omega | (simp; omega))).trans (by simp [go_sem, *]), (hb3.frozen (by first | (simp; done) | omega | (simp; omega))).trans (by simp [go_sem, *]), (hb3.frozen (by first | (simp; done) | omega | (simp; omega))).trans (by simp [go_sem, *]), (hb3.frozen (by first | (simp; done) | omega | (simp; omega))).trans (by simp [go_sem, *]), (hb3.frozen (by first | (simp; done) | omega | (simp; omega))).trans (by simp [go_sem, *]), (hb3.frozen (by first | (simp; done) | omega | (simp; omega))).trans (by simp [go_sem, *])⟩
        have hz3 : SlB w3 (w.heap.size + 1) AM.nil Slots.zero := ⟨hb3.at (by simp [go_sem, AM.nil, Slots.zero, Disk.zero, *]), hb3.at (by simp [go_sem, AM.nil, Slots.zero, Disk.zero, *]), hb3.at (by simp [go_sem, AM.nil, Slots.zero, Disk.zero, *]), hb3.at (by simp [go_sem, AM.nil, Slots.zero, Disk.zero, *]), hb3.at (by simp [go_sem, AM.nil, Slots.zero, Disk.zero, *]), hb3.at (by simp [go_sem, AM.nil, Slots.zero, Disk.zero, *]), hb3.at (by simp [go_sem, AM.nil, Slots.zero, Disk.zero, *]), hb3.at (by simp [go_sem, AM.nil, Slots.zero, Disk.zero, *]), hb3.at (by simp [go_sem, AM.nil, Slots.zero, Disk.zero, *]), (hb3.frozen (by first | (simp; done) | omega | (simp; omega))).trans (by simp [go_sem, *]), (hb3.frozen (by first | (simp; done) | omega | (simp; omega))).trans (by simp [go_sem, *]), (hb3.frozen (by first | (simp; done) | omega | (simp; omega))).trans (by simp [go_sem, *]), (hb3.frozen (by first | (simp; done) | omega | (simp; omega))).trans (by simp [go_sem, *]), (hb3.frozen (by first | (simp; done) | omega | (simp; omega))).trans (by simp [go_sem, *]), (hb3.frozen (by first | (simp; done) | omega | (simp; omega))).trans (by simp [go_sem, *]), (hb3.frozen (by first | (simp; done) | omega | (simp; omega))).trans (by simp [go_sem, *]), (hb3.frozen (by first | (simp; done) | omega | (simp; omega))).trans (by simp [go_sem, *]), (hb3.frozen (by first | (simp; done) | omega | (simp; omega))).trans (by simp [go_sem, *])⟩
        have zz3 : w.heap.size + 1 + 1 ≤ w3.heap.size := Nat.le_trans hsz1 (by have := hb3.size; first | omega | (simp at this; omega))
        have hD3 : RB w3 (w.heap.size + 1 + 1) D3 r3.s := o1.rb.mono (by first | (simp; done) | omega | (simp; omega))
        have hE3 : RB w3 (w.heap.size + 1 + 1) E3 r3.t := o2.rb.mono (by first | (simp; done) | omega | (simp; omega))
        have b3 : Ab w w3 := (by repeat (first | with_reducible exact Ab.refl _ | with_reducible assumption | with_reducible refine Ab.drew ?_ | with_reducible refine Ab.drewN ?_ _ | with_reducible refine Ab.alloc ?_ _ | with_reducible refine Ab.trans ?_ (by assumption) | with_reducible refine Ab.set ?_ (by first | (simp; done) | omega | (simp; omega)) _))
        have k3 := o1.le
        have j3 := o2.le
        have s3 := Lib.hid (show Slots.Small r3 by rw [HO.out]; exact HSM.out)
        (try clear HV)
        (try clear HZ)
        clear hr3 o1 o2 vq0 vq1 vq2 vq3 vq4 vq5 vq6 vq7 vq8 vg0 vg1 vg2 vg3 vg4 vg5 vg6 vg7 vg8 zq0 zq1 zq2 zq3 zq4 zq5 zq6 zq7 zq8 zg0 zg1 zg2 zg3 zg4 zg5 zg6 zg7 zg8
        obtain ⟨vq0, vq1, vq2, vq3, vq4, vq5, vq6, vq7, vq8, vg0, vg1, vg2, vg3, vg4, vg5, vg6, vg7, vg8⟩ := hv3
        (try simp only [AM.nil, Slots.zero, Disk.zero, List.length_nil] at vq0 vq1 vq2 vq3 vq4 vq5 vq6 vq7 vq8)
        obtain ⟨zq0, zq1, zq2, zq3, zq4, zq5, zq6, zq7, zq8, zg0, zg1, zg2, zg3, zg4, zg5, zg6, zg7, zg8⟩ := hz3
        (try simp only [AM.nil, Slots.zero, Disk.zero, List.length_nil] at zq0 zq1 zq2 zq3 zq4 zq5 zq6 zq7 zq8)
        go_wp2
        go_roundw
        case rel => exact ⟨⟨m'.A, m'.B, D3, E3, m'.ca, m'.cb, cd3, ce3⟩, ⟨r'.a, r3, r'.n⟩, ⟨⟨(by simp [go_sem, AM.nil, Slots.zero, Disk.zero, *]), (by simp [go_sem, AM.nil, Slots.zero, Disk.zero, *]), (by simp [go_sem, AM.nil, Slots.zero, Disk.zero, *]), (by simp [go_sem, AM.nil, Slots.zero, Disk.zero, *]), (by simp [go_sem, AM.nil, Slots.zero, Disk.zero, *]), (by simp [go_sem, AM.nil, Slots.zero, Disk.zero, *]), (by simp [go_sem, AM.nil, Slots.zero, Disk.zero, *]), (by simp [go_sem, AM.nil, Slots.zero, Disk.zero, *]), (by simp [go_sem, AM.nil, Slots.zero, Disk.zero, *]), (by simp [go_sem, AM.nil, Slots.zero, Disk.zero, *]), (by simp [go_sem, AM.nil, Slots.zero, Disk.zero, *]), (by simp [go_sem, AM.nil, Slots.zero, Disk.zero, *]), (by simp [go_sem, AM.nil, Slots.zero, Disk.zero, *]), (by simp [go_sem, AM.nil, Slots.zero, Disk.zero, *]), (by simp [go_sem, AM.nil, Slots.zero, Disk.zero, *]), (by simp [go_sem, AM.nil, Slots.zero, Disk.zero, *]), (by simp [go_sem, AM.nil, Slots.zero, Disk.zero, *]), (by simp [go_sem, AM.nil, Slots.zero, Disk.zero, *])⟩, ⟨(by simp [go_sem, *]), (by simp [go_sem, *]), (by simp [go_sem, *]), (by simp [go_sem, *]), (by simp [go_sem, *]), (by simp [go_sem, *]), (by simp [go_sem, *]), (by simp [go_sem, *]), (by simp [go_sem, *]), (by simp [go_sem, *]), (by simp [go_sem, *]), (by simp [go_sem, *]), (by simp [go_sem, *]), (by simp [go_sem, *]), (by simp [go_sem, *]), (by simp [go_sem, *]), (by simp [go_sem, *]), (by simp [go_sem, *])⟩, (by repeat (first | with_reducible exact Ab.refl _ | with_reducible assumption | with_reducible refine Ab.drew ?_ | with_reducible refine Ab.drewN ?_ _ | with_reducible refine Ab.alloc ?_ _ | with_reducible refine Ab.trans ?_ (by assumption) | with_reducible refine Ab.set ?_ (by first | (simp; done) | omega | (simp; omega)) _)), by simp; omega⟩, .inr (.inr ⟨rfl, hna, HN, Lib.hid (by rw [hr'.out, HO.out]), ⟨(by repeat (first | with_reducible assumption | with_reducible refine RB.put ?_ (by first | (simp; done) | omega | (simp; omega)) _ | (with_reducible refine RB.ab ?_ (by assumption)))), (by repeat (first | with_reducible assumption | with_reducible refine RB.put ?_ (by first | (simp; done) | omega | (simp; omega)) _ | (with_reducible refine RB.ab ?_ (by assumption)))), (by repeat (first | with_reducible assumption | with_reducible refine RB.put ?_ (by first | (simp; done) | omega | (simp; omega)) _ | (with_reducible refine RB.ab ?_ (by assumption)))), (by repeat (first | with_reducible assumption | with_reducible refine RB.put ?_ (by first | (simp; done) | omega | (simp; omega)) _ | (with_reducible refine RB.ab ?_ (by assumption)))), la, lb, k3, j3, HSA.out.1, HSA.out.2, s3.out.1, s3.out.2⟩⟩)⟩
        case measure => (show 2 - (intOf _).toNat < 2 - (intOf _).toNat); simp only [intOf]; omega
    · obtain ⟨zq0, zq1, zq2, zq3, zq4, zq5, zq6, zq7, zq8, zg0, zg1, zg2, zg3, zg4, zg5, zg6, zg7, zg8⟩ := hz
      (try simp only [AM.nil, Slots.zero, Disk.zero, List.length_nil] at zq0 zq1 zq2 zq3 zq4 zq5 zq6 zq7 zq8)
      obtain ⟨vq0, vq1, vq2, vq3, vq4, vq5, vq6, vq7, vq8, vg0, vg1, vg2, vg3, vg4, vg5, vg6, vg7, vg8⟩ := hv
      (try simp only [AM.nil, Slots.zero, Disk.zero, List.length_nil] at vq0 vq1 vq2 vq3 vq4 vq5 vq6 vq7 vq8)
      have HA := Lib.hid (show Slots.Ok r'.a by rw [hr'.out]; exact Slots.op_ok hna.out)
      have HB := Lib.hid (show Slots.Ok r'.b by rw [hr'.out]; exact Slots.op_ok hnb.out)
      have HM := Lib.hid (show Slots.open_ (⟨⟨s, t, cap, dn⟩, ⟨p, q, cep, dm⟩, n⟩ : Sl) = (⟨r'.a, r'.b, Slots.nextOf (Slots.newest ⟨r'.a, r'.b, 1⟩)⟩, 0) by
        rw [hr'.out]; exact if_neg (by rintro (k | k); exact hna.out k; exact hnb.out k))
      go_wp2_with fail
      refine (newest_any m' ⟨r'.a, r'.b, 1⟩ _ ((hM.put (by first | (simp; done) | omega | (simp; omega)) _).num 1).zero HA.out HB.out).mono ?_
      rintro e w2 ⟨r1, ok1, X1, c1, h1, rfl, hX1, hc1, hv1, hb2⟩
      have hv2 : SlB w2 w.heap.size m' ⟨r'.a, r'.b, 1⟩ := ⟨hb2.at (by simp [go_sem, *]), hb2.at (by simp [go_sem, *]), hb2.at (by simp [go_sem, *]), hb2.at (by simp [go_sem, *]), hb2.at (by simp [go_sem, *]), hb2.at (by simp [go_sem, *]), hb2.at (by simp [go_sem, *]), hb2.at (by simp [go_sem, *]), hb2.at (by simp [go_sem, *]), (hb2.frozen (by first | (simp; done) | omega | (simp; omega))).trans (by simp [go_sem, *]), (hb2.frozen (by first | (simp; done) | omega | (simp; omega))).trans (by simp [go_sem, *]), (hb2.frozen (by first | (simp; done) | omega | (simp; omega))).trans (by simp [go_sem, *]), (hb2.frozen (by first | (simp; done) | omega | (simp; omega))).trans (by simp [go_sem, *]), (hb2.frozen (by first | (simp; done) | omega | (simp; omega))).trans (by simp [go_sem, *]), (hb2.frozen (by first | (simp; done) | omega | (simp; omega))).trans (by simp [go_sem, *]), (hb2.frozen (by first | (simp; done) | omega | (simp; omega))).trans (by simp [go_sem, *]), (hb2.frozen (by first | (simp; done) | omega | (simp; omega))).trans (by simp [go_sem, *]), (hb2.frozen (by first | (simp; done) | omega | (simp; omega))).trans (by simp [go_sem, *])⟩
      have hz2 : SlB w2 (w.heap.size + 1) AM.nil Slots.zero := ⟨hb2.at (by simp [go_sem, AM.nil, Slots.zero, Disk.zero, *]), hb2.at (by simp [go_sem, AM.nil, Slots.zero, Disk.zero, *]), hb2.at (by simp [go_sem, AM.nil, Slots.zero, Disk.zero, *]), hb2.at (by simp [go_sem, AM.nil, Slots.zero, Disk.zero, *]), hb2.at (by simp [go_sem, AM.nil, Slots.zero, Disk.zero, *]), hb2.at (by simp [go_sem, AM.nil, Slots.zero, Disk.zero, *]), hb2.at (by simp [go_sem, AM.nil, Slots.zero, Disk.zero, *]), hb2.at (by simp [go_sem, AM.nil, Slots.zero, Disk.zero, *]), hb2.at (by simp [go_sem, AM.nil, Slots.zero, Disk.zero, *]), (hb2.frozen (by first | (simp; done) | omega | (simp; omega))).trans (by simp [go_sem, *]), (hb2.frozen (by first | (simp; done) | omega | (simp; omega))).trans (by simp [go_sem, *]), (hb2.frozen (by first | (simp; done) | omega | (simp; omega))).trans (by simp [go_sem, *]), (hb2.frozen (by first | (simp; done) | omega | (simp; omega))).trans (by simp [go_sem, *]), (hb2.frozen (by first | (simp; done) | omega | (simp; omega))).trans (by simp [go_sem, *]), (hb2.frozen (by first | (simp; done) | omega | (simp; omega))).trans (by simp [go_sem, *]), (hb2.frozen (by first | (simp; done) | omega | (simp; omega))).trans (by simp [go_sem, *]), (hb2.frozen (by first | (simp; done) | omega | (simp; omega))).trans (by simp [go_sem, *]), (hb2.frozen (by first | (simp; done) | omega | (simp; omega))).trans (by simp [go_sem, *])⟩
      have hM2 : SlM w2 (w.heap.size + 1 + 1) m' r' := (hM.put (by first | (simp; done) | omega | (simp; omega)) _).ab hb2
      have b2 : Ab w w2 := (by repeat (first | with_reducible exact Ab.refl _ | with_reducible assumption | with_reducible refine Ab.drew ?_ | with_reducible refine Ab.drewN ?_ _ | with_reducible refine Ab.alloc ?_ _ | with_reducible refine Ab.trans ?_ (by assumption) | with_reducible refine Ab.set ?_ (by first | (simp; done) | omega | (simp; omega)) _))
      have zz2 : w.heap.size + 1 + 1 ≤ w2.heap.size := Nat.le_trans hsz (by have := hb2.size; simpa using this)
      clear hX1 hb2 vq0 vq1 vq2 vq3 vq4 vq5 vq6 vq7 vq8 vg0 vg1 vg2 vg3 vg4 vg5 vg6 vg7 vg8 zq0 zq1 zq2 zq3 zq4 zq5 zq6 zq7 zq8 zg0 zg1 zg2 zg3 zg4 zg5 zg6 zg7 zg8
      obtain ⟨vq0, vq1, vq2, vq3, vq4, vq5, vq6, vq7, vq8, vg0, vg1, vg2, vg3, vg4, vg5, vg6, vg7, vg8⟩ := hv2
      (try simp only [AM.nil, Slots.zero, Disk.zero, List.length_nil] at vq0 vq1 vq2 vq3 vq4 vq5 vq6 vq7 vq8)
      obtain ⟨zq0, zq1, zq2, zq3, zq4, zq5, zq6, zq7, zq8, zg0, zg1, zg2, zg3, zg4, zg5, zg6, zg7, zg8⟩ := hz2
      (try simp only [AM.nil, Slots.zero, Disk.zero, List.length_nil] at zq0 zq1 zq2 zq3 zq4 zq5 zq6 zq7 zq8)
      have nva := fun (o : Obj) (j : Nat) => World.cell?_alloc_lt w2 o ⟨w.heap.size, j, none⟩ (by simp only; omega)
      have nvb := fun (o : Obj) (j : Nat) => ((Ab.refl w2).alloc o).frozen (p := ⟨w.heap.size, j, none⟩) (by simp only; omega)
      have nza := fun (o : Obj) (j : Nat) => World.cell?_alloc_lt w2 o ⟨w.heap.size + 1, j, none⟩ (by simp only; omega)
      have nzb := fun (o : Obj) (j : Nat) => ((Ab.refl w2).alloc o).frozen (p := ⟨w.heap.size + 1, j, none⟩) (by simp only; omega)
      have ne1 : w.heap.size ≠ w2.heap.size := by omega
      have ne2 : w.heap.size + 1 ≠ w2.heap.size := by omega
      have ne3 : w2.heap.size ≠ w.heap.size := by omega
      have ne4 : w2.heap.size ≠ w.heap.size + 1 := by omega
      cases ok1 with
      | false =>
        go_wp2
        refine bodyPost_ret (v := .tuple #[.agg #[.slice m'.A (⟨r'.a, r'.b, 1⟩ : Sl).a.s.length m'.ca, .slice m'.B (⟨r'.a, r'.b, 1⟩ : Sl).a.t.length m'.cb, .int .i64 (⟨r'.a, r'.b, 1⟩ : Sl).a.cap, .bool (⟨r'.a, r'.b, 1⟩ : Sl).a.down, .slice m'.C (⟨r'.a, r'.b, 1⟩ : Sl).b.s.length m'.cc, .slice m'.D (⟨r'.a, r'.b, 1⟩ : Sl).b.t.length m'.cd, .int .i64 (⟨r'.a, r'.b, 1⟩ : Sl).b.cap, .bool (⟨r'.a, r'.b, 1⟩ : Sl).b.down, .int .i64 (⟨r'.a, r'.b, 1⟩ : Sl).n], .int .i64 0]) (by simp [results, Try.results14, go_sem, *]) rfl ?_
        exact ⟨⟨r'.a, r'.b, 1⟩, 0, m', Lib.hid (by rw [HM.out, ← h1.out]; rfl), rfl, by refine SlM.mono (lo := w.heap.size + 1 + 1) (SlM.num (r := r') ?_ _) (by omega); repeat (first | with_reducible exact hM2 | with_reducible exact hM2.ab ((Ab.refl w2).alloc _) | with_reducible refine SlM.put ?_ (by first | (simp; done) | omega | (simp; omega)) _), (by repeat (first | with_reducible exact Ab.refl _ | with_reducible assumption | with_reducible refine Ab.drew ?_ | with_reducible refine Ab.drewN ?_ _ | with_reducible refine Ab.alloc ?_ _ | with_reducible refine Ab.trans ?_ (by assumption) | with_reducible refine Ab.set ?_ (by first | (simp; done) | omega | (simp; omega)) _))⟩
      | true =>
        have hv := hv1 rfl
        have hnw : IntKind.i64.wrap (r1.num + 1) = r1.num + 1 := IntWalk.i64_in _ (by have := hv.1; have := hv.2.1; omega)
        clear hv hv1
        go_wp2
        refine bodyPost_ret (v := .tuple #[.agg #[.slice m'.A (⟨r'.a, r'.b, r1.num + 1⟩ : Sl).a.s.length m'.ca, .slice m'.B (⟨r'.a, r'.b, r1.num + 1⟩ : Sl).a.t.length m'.cb, .int .i64 (⟨r'.a, r'.b, r1.num + 1⟩ : Sl).a.cap, .bool (⟨r'.a, r'.b, r1.num + 1⟩ : Sl).a.down, .slice m'.C (⟨r'.a, r'.b, r1.num + 1⟩ : Sl).b.s.length m'.cc, .slice m'.D (⟨r'.a, r'.b, r1.num + 1⟩ : Sl).b.t.length m'.cd, .int .i64 (⟨r'.a, r'.b, r1.num + 1⟩ : Sl).b.cap, .bool (⟨r'.a, r'.b, r1.num + 1⟩ : Sl).b.down, .int .i64 (⟨r'.a, r'.b, r1.num + 1⟩ : Sl).n], .int .i64 0]) (by simp [results, Try.results14, go_sem, *]) rfl ?_
        exact ⟨⟨r'.a, r'.b, r1.num + 1⟩, 0, m', Lib.hid (by rw [HM.out, ← h1.out]; rfl), rfl, by refine SlM.mono (lo := w.heap.size + 1 + 1) (SlM.num (r := r') ?_ _) (by omega); repeat (first | with_reducible exact hM2 | with_reducible exact hM2.ab ((Ab.refl w2).alloc _) | with_reducible refine SlM.put ?_ (by first | (simp; done) | omega | (simp; omega)) _), (by repeat (first | with_reducible exact Ab.refl _ | with_reducible assumption | with_reducible refine Ab.drew ?_ | with_reducible refine Ab.drewN ?_ _ | with_reducible refine Ab.alloc ?_ _ | with_reducible refine Ab.trans ?_ (by assumption) | with_reducible refine Ab.set ?_ (by first | (simp; done) | omega | (simp; omega)) _))⟩
end Go.Proofs.Ytakgglpfgpkboaa
