/- SlotsLoads, walked. Own work. -/
import Derived.Test.YtakgglpfgpkboaaSOpen
import Derived.Test.YtakgglpfgpkboaaSMid
import Derived.Test.YtakgglpfgpkboaaSRefB2
import Derived.Test.YtakgglpfgpkboaaSFunD
import Derived.Test.YtakgglpfgpkboaaSFunG
import Derived.Test.YtakgglpfgpkboaaSRefE
import Derived.Test.YtakgglpfgpkboaaSRefI
set_option linter.unusedVariables false
set_option linter.unusedSimpArgs false
namespace Go.Proofs.Ytakgglpfgpkboaa
open Go.RowKit
open Slots (Sl)
open Disk (Dev)

theorem SlA.slm' {w : World} {m : AM} {r : Sl} (h : SlA w m r) (hg : ¬ Slots.great r) : SlM w 0 m r := by
  unfold Slots.great at hg
  exact ⟨h.a, h.b, h.c, h.d, h.la, h.lb, h.lc, h.ld, by omega, by omega, by omega, by omega⟩

theorem OR.putOther {e : TypeId} {lo : Nat} {w : World} {A : Option Addr} {c : Nat} {l : List UInt8} (h : OR e lo w A c l) {p : Addr} (hne : ∀ x, A = some x → x.block ≠ p.block) (u : Value) : OR e lo (w.setCell p u) A c l := by
  refine ⟨h.out.1, ?_⟩
  rcases h.out.2 with h0 | ⟨g, cap, cur, hv, hb, hh, r⟩
  · exact .inl h0
  · refine .inr ⟨g, cap, cur, hv, hb, ?_, r⟩
    have hA : A = some ⟨g, 0, none⟩ := by injection hv
    rw [Below.heap_setCell w p u g (hne _ hA)]
    exact hh
/-- Own rows that may have been written. -/
def Rows2 (lo hi : Nat) (A C : Option Addr) (ca cc la lc : Nat) (w0 wr : World) : Prop :=
  (∃ l, Hid (l.length = la) ∧ OR 5 lo wr A ca l) ∧ (∃ l, Hid (l.length = lc) ∧ OR 5 lo wr C cc l) ∧ Mid lo hi w0 wr

set_option maxRecDepth 100000 in
set_option maxHeartbeats 6400000 in
theorem sloads_walk (m : AM) (r : Sl) (w : World) (ha : SlA w m r) :
    Calls Try.prog 5 #[.agg #[.slice m.A r.a.s.length m.ca, .slice m.B r.a.t.length m.cb, .int .i64 r.a.cap, .bool r.a.down, .slice m.C r.b.s.length m.cc, .slice m.D r.b.t.length m.cd, .int .i64 r.b.cap, .bool r.b.down, .int .i64 r.n]] w fun e w' => e = .returned (.bool true) ∧ Ab w w' := by
  by_cases hg : Slots.great r
  · have HG := Lib.hid hg
    clear hg
    go_enter Try.func5, Try.ntmps5
    go_wp2_with fail
    refine (sgreat_yes m r _ HG.out).mono ?_
    rintro e w1 ⟨rfl, hb1⟩
    go_wp2
    go_ret
    exact ⟨rfl, (by repeat (first | with_reducible exact Ab.refl _ | with_reducible assumption | with_reducible refine Ab.drew ?_ | with_reducible refine Ab.drewN ?_ _ | with_reducible refine Ab.alloc ?_ _ | with_reducible refine Ab.trans ?_ (by assumption) | with_reducible refine Ab.set ?_ (by first | (simp; done) | omega | (simp; omega)) _))⟩
  have h := ha.slm' hg
  have HG := Lib.hid hg
  clear hg
  go_enter Try.func5, Try.ntmps5
  go_wp2_with fail
  refine (sgreat_no m r _ HG.out).mono ?_
  rintro e w1 ⟨rfl, hb1⟩
  have H1 : SlB w1 w.heap.size m r := (SlB.box (new_plain rfl)).ab hb1
  have S1 := H1
  obtain ⟨vq0, vq1, vq2, vq3, vq4, vq5, vq6, vq7, vq8, vg0, vg1, vg2, vg3, vg4, vg5, vg6, vg7, vg8⟩ := S1
  (try simp only [AM.nil, Slots.zero, Disk.zero, List.length_nil] at vq0 vq1 vq2 vq3 vq4 vq5 vq6 vq7 vq8)
  go_wp2_with fail
  refine (stwin_own m r _ (h.ab (by repeat (first | with_reducible exact Ab.refl _ | with_reducible assumption | with_reducible refine Ab.drew ?_ | with_reducible refine Ab.drewN ?_ _ | with_reducible refine Ab.alloc ?_ _ | with_reducible refine Ab.trans ?_ (by assumption) | with_reducible refine Ab.set ?_ (by first | (simp; done) | omega | (simp; omega)) _)))).mono ?_
  rintro e w2 ⟨r2, ⟨A2, B2, C2, D2, ca2, cb2, cc2, cd2⟩, hr2, rfl, hM2, hb2, oA, oC, hdis⟩
  simp only at oA oC hdis
  dsimp only
  obtain rfl : r = r2 := hr2.out.symm
  clear hr2
  clear vq0 vq1 vq2 vq3 vq4 vq5 vq6 vq7 vq8 vg0 vg1 vg2 vg3 vg4 vg5 vg6 vg7 vg8
  have H1 := H1.ab hb2
  have hal2 : Ab w2 (w2.alloc (.cells #[.slice (⟨A2, B2, C2, D2, ca2, cb2, cc2, cd2⟩ : AM).A r.a.s.length (⟨A2, B2, C2, D2, ca2, cb2, cc2, cd2⟩ : AM).ca, .slice (⟨A2, B2, C2, D2, ca2, cb2, cc2, cd2⟩ : AM).B r.a.t.length (⟨A2, B2, C2, D2, ca2, cb2, cc2, cd2⟩ : AM).cb, .int .i64 r.a.cap, .bool r.a.down, .slice (⟨A2, B2, C2, D2, ca2, cb2, cc2, cd2⟩ : AM).C r.b.s.length (⟨A2, B2, C2, D2, ca2, cb2, cc2, cd2⟩ : AM).cc, .slice (⟨A2, B2, C2, D2, ca2, cb2, cc2, cd2⟩ : AM).D r.b.t.length (⟨A2, B2, C2, D2, ca2, cb2, cc2, cd2⟩ : AM).cd, .int .i64 r.b.cap, .bool r.b.down, .int .i64 r.n] 27)) := (Ab.refl w2).alloc _
  go_wp2_with fail
  refine (load_any ⟨A2, B2, C2, D2, ca2, cb2, cc2, cd2⟩ r _ (hM2.zero.ab (by repeat (first | with_reducible exact Ab.refl _ | with_reducible assumption | with_reducible refine Ab.drew ?_ | with_reducible refine Ab.drewN ?_ _ | with_reducible refine Ab.alloc ?_ _ | with_reducible refine Ab.trans ?_ (by assumption) | with_reducible refine Ab.set ?_ (by first | (simp; done) | omega | (simp; omega)) _)))).mono ?_
  rintro e w3 ⟨n3, e3, b3, A3, c3, hr3, rfl, hA3, hc3, hl3, hb3⟩
  have H3 : SlB w3 w2.heap.size ⟨A2, B2, C2, D2, ca2, cb2, cc2, cd2⟩ r := (SlB.box (new_plain rfl)).ab hb3
  have H1 := H1.ab (hal2.trans hb3)
  have S1 := H1
  obtain ⟨vq0, vq1, vq2, vq3, vq4, vq5, vq6, vq7, vq8, vg0, vg1, vg2, vg3, vg4, vg5, vg6, vg7, vg8⟩ := S1
  (try simp only [AM.nil, Slots.zero, Disk.zero, List.length_nil] at vq0 vq1 vq2 vq3 vq4 vq5 vq6 vq7 vq8)
  go_wp2_with fail
  refine (srload_any m r _ (h.ab (by repeat (first | with_reducible exact Ab.refl _ | with_reducible assumption | with_reducible refine Ab.drew ?_ | with_reducible refine Ab.drewN ?_ _ | with_reducible refine Ab.alloc ?_ _ | with_reducible refine Ab.trans ?_ (by assumption) | with_reducible refine Ab.set ?_ (by first | (simp; done) | omega | (simp; omega)) _)))).mono ?_
  rintro e w4 ⟨n4, e4, b4, A4, c4, hr4, rfl, hA4, hc4, hl4, hb4⟩
  obtain ⟨e34, e34'⟩ := Prod.mk.inj (hr3.out.trans hr4.out.symm)
  obtain ⟨e35, e36⟩ := Prod.mk.inj e34'
  obtain rfl : n3 = n4 := e34
  obtain rfl : b3 = b4 := e35
  obtain rfl : e3 = e4 := e36
  clear hr3 hr4 e34'
  clear vq0 vq1 vq2 vq3 vq4 vq5 vq6 vq7 vq8 vg0 vg1 vg2 vg3 vg4 vg5 vg6 vg7 vg8
  have H3 := H3.ab hb4
  have H1 := H1.ab hb4
  have S3 := H3
  obtain ⟨yq0, yq1, yq2, yq3, yq4, yq5, yq6, yq7, yq8, yg0, yg1, yg2, yg3, yg4, yg5, yg6, yg7, yg8⟩ := S3
  (try simp only [AM.nil, Slots.zero, Disk.zero, List.length_nil] at yq0 yq1 yq2 yq3 yq4 yq5 yq6 yq7 yq8)
  go_wp2_with fail
  refine (sopen_any ⟨A2, B2, C2, D2, ca2, cb2, cc2, cd2⟩ r _ (hM2.zero.ab (by repeat (first | with_reducible exact Ab.refl _ | with_reducible assumption | with_reducible refine Ab.drew ?_ | with_reducible refine Ab.drewN ?_ _ | with_reducible refine Ab.alloc ?_ _ | with_reducible refine Ab.trans ?_ (by assumption) | with_reducible refine Ab.set ?_ (by first | (simp; done) | omega | (simp; omega)) _)))).mono ?_
  rintro e w5 ⟨r5, e5, m5, hr5, rfl, hM5, hb5⟩
  clear yq0 yq1 yq2 yq3 yq4 yq5 yq6 yq7 yq8 yg0 yg1 yg2 yg3 yg4 yg5 yg6 yg7 yg8
  have H3 := H3.ab hb5
  have H1 := H1.ab hb5
  have S1 := H1
  obtain ⟨vq0, vq1, vq2, vq3, vq4, vq5, vq6, vq7, vq8, vg0, vg1, vg2, vg3, vg4, vg5, vg6, vg7, vg8⟩ := S1
  (try simp only [AM.nil, Slots.zero, Disk.zero, List.length_nil] at vq0 vq1 vq2 vq3 vq4 vq5 vq6 vq7 vq8)
  have nva := fun (o : Obj) (j : Nat) => World.cell?_alloc_lt w5 o ⟨w.heap.size, j, none⟩ H1.lt
  have nvb := fun (o : Obj) (j : Nat) => ((Ab.refl w5).alloc o).frozen (p := ⟨w.heap.size, j, none⟩) H1.lt
  go_wp2_with fail
  refine (sropen_any m r _ (h.ab (by repeat (first | with_reducible exact Ab.refl _ | with_reducible assumption | with_reducible refine Ab.drew ?_ | with_reducible refine Ab.drewN ?_ _ | with_reducible refine Ab.alloc ?_ _ | with_reducible refine Ab.trans ?_ (by assumption) | with_reducible refine Ab.set ?_ (by first | (simp; done) | omega | (simp; omega)) _)))).mono ?_
  rintro e w6 ⟨r6, e6, m6, hr6, rfl, hM6, hb6⟩
  obtain ⟨e56, e56'⟩ := Prod.mk.inj (hr5.out.trans hr6.out.symm)
  obtain rfl : r5 = r6 := e56
  obtain rfl : e5 = e6 := e56'
  clear hr5 hr6 nva nvb
  clear vq0 vq1 vq2 vq3 vq4 vq5 vq6 vq7 vq8 vg0 vg1 vg2 vg3 vg4 vg5 vg6 vg7 vg8
  have hal6 : Ab w6 (w6.alloc (.cells #[.slice m6.A r5.a.s.length m6.ca, .slice m6.B r5.a.t.length m6.cb, .int .i64 r5.a.cap, .bool r5.a.down, .slice m6.C r5.b.s.length m6.cc, .slice m6.D r5.b.t.length m6.cd, .int .i64 r5.b.cap, .bool r5.b.down, .int .i64 r5.n] 27)) := (Ab.refl w6).alloc _
  have hal5 : Ab w5 (w5.alloc (.cells #[.slice m5.A r5.a.s.length m5.ca, .slice m5.B r5.a.t.length m5.cb, .int .i64 r5.a.cap, .bool r5.a.down, .slice m5.C r5.b.s.length m5.cc, .slice m5.D r5.b.t.length m5.cd, .int .i64 r5.b.cap, .bool r5.b.down, .int .i64 r5.n] 27)) := (Ab.refl w5).alloc _
  have H10 := ((SlB.box (w := w5.alloc (.cells #[.slice m5.A r5.a.s.length m5.ca, .slice m5.B r5.a.t.length m5.cb, .int .i64 r5.a.cap, .bool r5.a.down, .slice m5.C r5.b.s.length m5.cc, .slice m5.D r5.b.t.length m5.cd, .int .i64 r5.b.cap, .bool r5.b.down, .int .i64 r5.n] 27)) (b := w5.heap.size) (m := m5) (r := r5) (new_plain rfl)).ab hb6).ab hal6
  have H12 : SlB (w6.alloc (.cells #[.slice m6.A r5.a.s.length m6.ca, .slice m6.B r5.a.t.length m6.cb, .int .i64 r5.a.cap, .bool r5.a.down, .slice m6.C r5.b.s.length m6.cc, .slice m6.D r5.b.t.length m6.cd, .int .i64 r5.b.cap, .bool r5.b.down, .int .i64 r5.n] 27)) w6.heap.size m6 r5 := SlB.box (new_plain rfl)
  have H3 := (H3.ab (hal5.trans hb6)).ab hal6
  have z12 : w1.heap.size ≤ w2.heap.size := hb2.size
  have z25 : w2.heap.size ≤ w5.heap.size := (show Ab w2 w5 from (by repeat (first | with_reducible exact Ab.refl _ | with_reducible assumption | with_reducible refine Ab.drew ?_ | with_reducible refine Ab.drewN ?_ _ | with_reducible refine Ab.alloc ?_ _ | with_reducible refine Ab.trans ?_ (by assumption) | with_reducible refine Ab.set ?_ (by first | (simp; done) | omega | (simp; omega)) _))).size
  have z56 : w5.heap.size ≤ w6.heap.size := (show Ab w5 w6 from hal5.trans hb6).size
  have z01 : w.heap.size ≤ w1.heap.size := (show Ab w w1 from (by repeat (first | with_reducible exact Ab.refl _ | with_reducible assumption | with_reducible refine Ab.drew ?_ | with_reducible refine Ab.drewN ?_ _ | with_reducible refine Ab.alloc ?_ _ | with_reducible refine Ab.trans ?_ (by assumption) | with_reducible refine Ab.set ?_ (by first | (simp; done) | omega | (simp; omega)) _))).size
  have b28 : Ab w2 (w6.alloc (.cells #[.slice m6.A r5.a.s.length m6.ca, .slice m6.B r5.a.t.length m6.cb, .int .i64 r5.a.cap, .bool r5.a.down, .slice m6.C r5.b.s.length m6.cc, .slice m6.D r5.b.t.length m6.cd, .int .i64 r5.b.cap, .bool r5.b.down, .int .i64 r5.n] 27)) := (by repeat (first | with_reducible exact Ab.refl _ | with_reducible assumption | with_reducible refine Ab.drew ?_ | with_reducible refine Ab.drewN ?_ _ | with_reducible refine Ab.alloc ?_ _ | with_reducible refine Ab.trans ?_ (by assumption) | with_reducible refine Ab.set ?_ (by first | (simp; done) | omega | (simp; omega)) _))
  have b08 : Ab w (w6.alloc (.cells #[.slice m6.A r5.a.s.length m6.ca, .slice m6.B r5.a.t.length m6.cb, .int .i64 r5.a.cap, .bool r5.a.down, .slice m6.C r5.b.s.length m6.cc, .slice m6.D r5.b.t.length m6.cd, .int .i64 r5.b.cap, .bool r5.b.down, .int .i64 r5.n] 27)) := (by repeat (first | with_reducible exact Ab.refl _ | with_reducible assumption | with_reducible refine Ab.drew ?_ | with_reducible refine Ab.drewN ?_ _ | with_reducible refine Ab.alloc ?_ _ | with_reducible refine Ab.trans ?_ (by assumption) | with_reducible refine Ab.set ?_ (by first | (simp; done) | omega | (simp; omega)) _))
  have hA3' : RB (w6.alloc (.cells #[.slice m6.A r5.a.s.length m6.ca, .slice m6.B r5.a.t.length m6.cb, .int .i64 r5.a.cap, .bool r5.a.down, .slice m6.C r5.b.s.length m6.cc, .slice m6.D r5.b.t.length m6.cd, .int .i64 r5.b.cap, .bool r5.b.down, .int .i64 r5.n] 27)) w2.heap.size A3 b3 := (hA3.mono (by simp)).ab (show Ab w3 (w6.alloc (.cells #[.slice m6.A r5.a.s.length m6.ca, .slice m6.B r5.a.t.length m6.cb, .int .i64 r5.a.cap, .bool r5.a.down, .slice m6.C r5.b.s.length m6.cc, .slice m6.D r5.b.t.length m6.cd, .int .i64 r5.b.cap, .bool r5.b.down, .int .i64 r5.n] 27)) from (by repeat (first | with_reducible exact Ab.refl _ | with_reducible assumption | with_reducible refine Ab.drew ?_ | with_reducible refine Ab.drewN ?_ _ | with_reducible refine Ab.alloc ?_ _ | with_reducible refine Ab.trans ?_ (by assumption) | with_reducible refine Ab.set ?_ (by first | (simp; done) | omega | (simp; omega)) _)))
  have hA4' : RB (w6.alloc (.cells #[.slice m6.A r5.a.s.length m6.ca, .slice m6.B r5.a.t.length m6.cb, .int .i64 r5.a.cap, .bool r5.a.down, .slice m6.C r5.b.s.length m6.cc, .slice m6.D r5.b.t.length m6.cd, .int .i64 r5.b.cap, .bool r5.b.down, .int .i64 r5.n] 27)) w2.heap.size A4 b3 := (hA4.mono (show w2.heap.size ≤ w3.heap.size from (hal2.trans hb3).size)).ab (show Ab w4 (w6.alloc (.cells #[.slice m6.A r5.a.s.length m6.ca, .slice m6.B r5.a.t.length m6.cb, .int .i64 r5.a.cap, .bool r5.a.down, .slice m6.C r5.b.s.length m6.cc, .slice m6.D r5.b.t.length m6.cd, .int .i64 r5.b.cap, .bool r5.b.down, .int .i64 r5.n] 27)) from (by repeat (first | with_reducible exact Ab.refl _ | with_reducible assumption | with_reducible refine Ab.drew ?_ | with_reducible refine Ab.drewN ?_ _ | with_reducible refine Ab.alloc ?_ _ | with_reducible refine Ab.trans ?_ (by assumption) | with_reducible refine Ab.set ?_ (by first | (simp; done) | omega | (simp; omega)) _)))
  have hM5' : SlM (w6.alloc (.cells #[.slice m6.A r5.a.s.length m6.ca, .slice m6.B r5.a.t.length m6.cb, .int .i64 r5.a.cap, .bool r5.a.down, .slice m6.C r5.b.s.length m6.cc, .slice m6.D r5.b.t.length m6.cd, .int .i64 r5.b.cap, .bool r5.b.down, .int .i64 r5.n] 27)) w2.heap.size m5 r5 := (hM5.mono (show w2.heap.size ≤ w4.heap.size from ((hal2.trans hb3).trans hb4).size)).ab ((hal5.trans hb6).trans hal6)
  have hM6' : SlM (w6.alloc (.cells #[.slice m6.A r5.a.s.length m6.ca, .slice m6.B r5.a.t.length m6.cb, .int .i64 r5.a.cap, .bool r5.a.down, .slice m6.C r5.b.s.length m6.cc, .slice m6.D r5.b.t.length m6.cd, .int .i64 r5.b.cap, .bool r5.b.down, .int .i64 r5.n] 27)) w2.heap.size m6 r5 := (hM6.mono (by simp; omega)).ab hal6
  have oA8 : OR 5 w1.heap.size (w6.alloc (.cells #[.slice m6.A r5.a.s.length m6.ca, .slice m6.B r5.a.t.length m6.cb, .int .i64 r5.a.cap, .bool r5.a.down, .slice m6.C r5.b.s.length m6.cc, .slice m6.D r5.b.t.length m6.cd, .int .i64 r5.b.cap, .bool r5.b.down, .int .i64 r5.n] 27)) A2 ca2 r.a.s := oA.keep b28
  have oC8 : OR 5 w1.heap.size (w6.alloc (.cells #[.slice m6.A r5.a.s.length m6.ca, .slice m6.B r5.a.t.length m6.cb, .int .i64 r5.a.cap, .bool r5.a.down, .slice m6.C r5.b.s.length m6.cc, .slice m6.D r5.b.t.length m6.cd, .int .i64 r5.b.cap, .bool r5.b.down, .int .i64 r5.n] 27)) C2 cc2 r.b.s := oC.keep b28
  have upA : ∀ a, A2 = some a → a.block < w2.heap.size := fun a ha => (oA.rng a ha).2
  have upC : ∀ a, C2 = some a → a.block < w2.heap.size := fun a ha => (oC.rng a ha).2
  have sA := h.sa
  have sC := h.sc
  have hb3l := hl3
  clear hb2 hb3 hb4 hb5 hb6 hal2 hal5 hal6 hA3 hA4 hM5 hM6 oA oC hM2 H1 h ha b28
  go_wp2_with fail
  generalize hw8 : w6.alloc (.cells #[.slice m6.A r5.a.s.length m6.ca, .slice m6.B r5.a.t.length m6.cb, .int .i64 r5.a.cap, .bool r5.a.down, .slice m6.C r5.b.s.length m6.cc, .slice m6.D r5.b.t.length m6.cd, .int .i64 r5.b.cap, .bool r5.b.down, .int .i64 r5.n] 27) = w8 at *
  clear hw8
  go_loopw [14] (fun kv wr => Rows2 w1.heap.size w2.heap.size A2 C2 ca2 cc2 r.a.s.length r.b.s.length w8 wr ∧ (kv = .int .i64 0 ∨ kv = .int .i64 1 ∨ kv = .int .i64 2)) (fun kv _ => 2 - (intOf kv).toNat)
  case atStart => exact ⟨⟨⟨_, Lib.hid rfl, oA8⟩, ⟨_, Lib.hid rfl, oC8⟩, Mid.refl⟩, .inl rfl⟩
  case round =>
    obtain ⟨⟨⟨lA, eA, oA⟩, ⟨lC, eC, oC⟩, hmid⟩, rfl | rfl | rfl⟩ := hrel
    · have H3r := hmid.slb H3 (.inr (Nat.le_refl _))
      have S3 := H3r
      obtain ⟨yq0, yq1, yq2, yq3, yq4, yq5, yq6, yq7, yq8, yg0, yg1, yg2, yg3, yg4, yg5, yg6, yg7, yg8⟩ := S3
      (try simp only [AM.nil, Slots.zero, Disk.zero, List.length_nil] at yq0 yq1 yq2 yq3 yq4 yq5 yq6 yq7 yq8)
      go_wp2_with fail
      go_loopw [15] (fun j wx => ∃ jn : Nat, jn ≤ r.a.s.length ∧ j = .int .i64 (jn : Int) ∧ Rows2 w1.heap.size w2.heap.size A2 C2 ca2 cc2 r.a.s.length r.b.s.length w8 wx) (fun j _ => r.a.s.length - (intOf j).toNat)
      case atStart => exact ⟨0, Nat.zero_le _, rfl, ⟨lA, eA, oA⟩, ⟨lC, eC, oC⟩, hmid⟩
      case round =>
        clear eA oA eC oC hmid H3r
        clear yq0 yq1 yq2 yq3 yq4 yq5 yq6 yq7 yq8 yg0 yg1 yg2 yg3 yg4 yg5 yg6 yg7 yg8
        obtain ⟨jn, hjn, rfl, ⟨lA', eA, oA⟩, ⟨lC', eC, oC⟩, hmid⟩ := hrel
        have S3 := hmid.slb H3 (.inr (Nat.le_refl _))
        obtain ⟨yq0, yq1, yq2, yq3, yq4, yq5, yq6, yq7, yq8, yg0, yg1, yg2, yg3, yg4, yg5, yg6, yg7, yg8⟩ := S3
        (try simp only [AM.nil, Slots.zero, Disk.zero, List.length_nil] at yq0 yq1 yq2 yq3 yq4 yq5 yq6 yq7 yq8)
        by_cases hlt : jn < r.a.s.length
        · obtain ⟨g, rfl, hg1, hg2⟩ := (oA).at_ (by rw [(eA).out]; omega)
          have hkl : jn < (lA').length := by rw [(eA).out]; exact hlt
          have hc := (oA).cellAt hkl
          have hf := (oA).unfrozen jn
          have hu8 := u8_succ (lA')[jn]
          have HU8 := Lib.hid hu8
          have hgl : w1.heap.size ≤ g := hg1
          have hgu : g < w2.heap.size := upA _ rfl
          clear hu8
          go_wp2
          go_roundw
          case rel =>
            refine ⟨jn + 1, by omega, by go_num, ⟨lA'.set jn (lA'[jn] + 1), Lib.hid (by rw [List.length_set]; exact eA.out), by rw [u8_succ']; exact oA.store jn _⟩, ⟨lC', eC, oC.putOther (p := ⟨g, jn, none⟩) (fun x hx he => hdis ⟨g, 0, none⟩ x rfl hx he.symm) _⟩, hmid.set hgl hgu _ _⟩
          case measure => simp [intOf]; omega
        · go_wp2_with fail
          go_roundw
          case rel => exact ⟨⟨⟨lA', eA, oA⟩, ⟨lC', eC, oC⟩, hmid⟩, .inr (.inl rfl)⟩
          case measure => (show 2 - (intOf _).toNat < 2 - (intOf _).toNat); simp only [intOf]; omega
    · have H3r := hmid.slb H3 (.inr (Nat.le_refl _))
      have S3 := H3r
      obtain ⟨yq0, yq1, yq2, yq3, yq4, yq5, yq6, yq7, yq8, yg0, yg1, yg2, yg3, yg4, yg5, yg6, yg7, yg8⟩ := S3
      (try simp only [AM.nil, Slots.zero, Disk.zero, List.length_nil] at yq0 yq1 yq2 yq3 yq4 yq5 yq6 yq7 yq8)
      go_wp2_with fail
      go_loopw [15] (fun j wx => ∃ jn : Nat, jn ≤ r.b.s.length ∧ j = .int .i64 (jn : Int) ∧ Rows2 w1.heap.size w2.heap.size A2 C2 ca2 cc2 r.a.s.length r.b.s.length w8 wx) (fun j _ => r.b.s.length - (intOf j).toNat)
      case atStart => exact ⟨0, Nat.zero_le _, rfl, ⟨lA, eA, oA⟩, ⟨lC, eC, oC⟩, hmid⟩
      case round =>
        clear eA oA eC oC hmid H3r
        clear yq0 yq1 yq2 yq3 yq4 yq5 yq6 yq7 yq8 yg0 yg1 yg2 yg3 yg4 yg5 yg6 yg7 yg8
        obtain ⟨jn, hjn, rfl, ⟨lA', eA, oA⟩, ⟨lC', eC, oC⟩, hmid⟩ := hrel
        have S3 := hmid.slb H3 (.inr (Nat.le_refl _))
        obtain ⟨yq0, yq1, yq2, yq3, yq4, yq5, yq6, yq7, yq8, yg0, yg1, yg2, yg3, yg4, yg5, yg6, yg7, yg8⟩ := S3
        (try simp only [AM.nil, Slots.zero, Disk.zero, List.length_nil] at yq0 yq1 yq2 yq3 yq4 yq5 yq6 yq7 yq8)
        by_cases hlt : jn < r.b.s.length
        · obtain ⟨g, rfl, hg1, hg2⟩ := (oC).at_ (by rw [(eC).out]; omega)
          have hkl : jn < (lC').length := by rw [(eC).out]; exact hlt
          have hc := (oC).cellAt hkl
          have hf := (oC).unfrozen jn
          have hu8 := u8_succ (lC')[jn]
          have HU8 := Lib.hid hu8
          have hgl : w1.heap.size ≤ g := hg1
          have hgu : g < w2.heap.size := upC _ rfl
          clear hu8
          go_wp2
          go_roundw
          case rel =>
            refine ⟨jn + 1, by omega, by go_num, ⟨lA', eA, oA.putOther (p := ⟨g, jn, none⟩) (fun x hx he => hdis x ⟨g, 0, none⟩ hx rfl he) _⟩, ⟨lC'.set jn (lC'[jn] + 1), Lib.hid (by rw [List.length_set]; exact eC.out), by rw [u8_succ']; exact oC.store jn _⟩, hmid.set hgl hgu _ _⟩
          case measure => simp [intOf]; omega
        · go_wp2_with fail
          go_roundw
          case rel => exact ⟨⟨⟨lA', eA, oA⟩, ⟨lC', eC, oC⟩, hmid⟩, .inr (.inr rfl)⟩
          case measure => (show 2 - (intOf _).toNat < 2 - (intOf _).toNat); simp only [intOf]; omega
    · have h10 := hmid.slb H10 (.inr z25)
      have h12 := hmid.slb H12 (.inr (Nat.le_trans z25 z56))
      have hab : Ab w wr := hmid.ab b08 z01
      have k3 : RB wr 0 A3 b3 := (hmid.rb hA3' (Nat.le_refl _)).zero
      have k4 : RB wr 0 A4 b3 := (hmid.rb hA4' (Nat.le_refl _)).zero
      have k5 : SlM wr 0 m5 r5 := (hmid.slm hM5' (Nat.le_refl _)).zero
      have k6 : SlM wr 0 m6 r5 := (hmid.slm hM6' (Nat.le_refl _)).zero
      clear hmid H10 H12 H3 hA3' hA4' hM5' hM6' oA oC eA eC hdis
      go_wp2_with fail
      refine (sameBytes_refl A3 A4 c3 c4 b3 _ k3 k4 (by omega)).mono ?_
      rintro e wa ⟨rfl, na, rfl⟩
      have hna : Ab wr (wr.drewN na) := (Ab.refl _).drewN _
      generalize wr.drewN na = wb at *
      obtain ⟨yq0, yq1, yq2, yq3, yq4, yq5, yq6, yq7, yq8, yg0, yg1, yg2, yg3, yg4, yg5, yg6, yg7, yg8⟩ := (h10.ab hna)
      (try simp only [AM.nil, Slots.zero, Disk.zero, List.length_nil] at yq0 yq1 yq2 yq3 yq4 yq5 yq6 yq7 yq8)
      obtain ⟨zq0, zq1, zq2, zq3, zq4, zq5, zq6, zq7, zq8, zg0, zg1, zg2, zg3, zg4, zg5, zg6, zg7, zg8⟩ := (h12.ab hna)
      (try simp only [AM.nil, Slots.zero, Disk.zero, List.length_nil] at zq0 zq1 zq2 zq3 zq4 zq5 zq6 zq7 zq8)
      go_wp2_with fail
      refine (ssame_true m5 m6 r5 _ (k5.ab hna) (k6.ab hna)).mono ?_
      rintro e wd ⟨rfl, hwd⟩
      go_wp2
      go_ret
      exact ⟨rfl, (hab.trans hna).trans hwd⟩
end Go.Proofs.Ytakgglpfgpkboaa
