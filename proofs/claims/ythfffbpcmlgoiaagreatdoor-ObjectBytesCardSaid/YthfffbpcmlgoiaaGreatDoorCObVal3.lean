/- The value of a commit, walked. Own work. -/
import Derived.Test.YthfffbpcmlgoiaaGreatDoorCObVal
set_option linter.unusedVariables false
set_option linter.unusedSimpArgs false
namespace Go.Proofs.YthfffbpcmlgoiaaGreatDoor
open Go.RowKit
open Codec (V)

theorem wp_run {o : Oper} {a : Act} {w : World} {K : Act → World → Prop} {Q : Exit → Act → World → Prop} (v : Value) (w' : World) (hv : (execOp a.eval o).run Tryz.prog w = .ok (.value v) w') (h : K (a.put o.dst v) w') : o.wp Tryz.prog a w K Q := by
  unfold Oper.wp
  rw [hv]
  exact h
def CM.zero : CM := ⟨List.replicate 32 0, none, [], 0, ByteArray.empty, 0⟩
/-- The variables of valueOf behind k parents. -/
structure Vp (w : World) (lo ob eb cb_ kb : Nat) (ms ks : List Value) (vs : List V) (A : Option Addr) (c : Nat) (ys : List VM) (w' : World) : Prop where
  ab : Ab w w'
  zz : lo ≤ w'.heap.size
  v : Hid (ys.map VM.v = vs)
  o : OwnVs 1 lo w' A c ys
  e : VB w' eb [.int .u8 3, .int .i64 0, .slice none 0 0, .slice A ys.length c]
  k : VB w' kb ks
  b : VB w' cb_ ms
  z : VB w' (ob + 1) VM.zero.cells
theorem Vp.keep {w w1 w2 : World} {lo ob eb cb_ kb : Nat} {ms ks : List Value} {vs : List V} {A : Option Addr} {c : Nat} {ys : List VM} (h : Vp w lo ob eb cb_ kb ms ks vs A c ys w1) (k : Ab w1 w2) : Vp w lo ob eb cb_ kb ms ks vs A c ys w2 :=
  ⟨h.ab.trans k, Nat.le_trans h.zz k.size, h.v, h.o.ab k, h.e.ab k, h.k.ab k, h.b.ab k, h.z.ab k⟩
set_option maxRecDepth 100000 in
set_option maxHeartbeats 40000000 in
theorem valueOf_3 (A : Option Addr) (t : List UInt8) (c : Nat) (E : Option Addr) (es : List EM) (d : Nat) (m : CM) (w : World) (h2 : m.ps.length ≤ 2) (h : OL w ⟨3, A, t, c, E, es, d, m⟩) :
    Calls Tryz.prog 50 #[.agg (OM.cells ⟨3, A, t, c, E, es, d, m⟩).toArray] w (RetVal w (Obj.L [Obj.N 3, Obj.B m.t, Obj.L (m.ps.map Obj.B), Obj.B m.note.data.toList, Obj.N m.tick])) := by
  have hm := h.m
  simp only at hm
  clear h
  go_enter Tryz.func50, Tryz.ntmps50
  have V0 : VB ((w.alloc (.cells (OM.cells ⟨3, A, t, c, E, es, d, m⟩).toArray 32)).alloc (.cells #[.int .u8 0, .int .i64 0, .slice none 0 0, .slice none 0 0] 88)) w.heap.size (OM.cells ⟨3, A, t, c, E, es, d, m⟩) := VB.box (xs := (OM.cells ⟨3, A, t, c, E, es, d, m⟩).toArray) (T := 32) (by (repeat (first | exact new_plain wnA | with_reducible refine old_alloc ?_ | with_reducible refine old_drew ?_ | with_reducible refine old_set ?_ wnA | with_reducible refine old_ab (by assumption) ?_)))
  have Z0 : VB ((w.alloc (.cells (OM.cells ⟨3, A, t, c, E, es, d, m⟩).toArray 32)).alloc (.cells #[.int .u8 0, .int .i64 0, .slice none 0 0, .slice none 0 0] 88)) (w.heap.size + 1) VM.zero.cells := VB.box (xs := #[.int .u8 0, .int .i64 0, .slice none 0 0, .slice none 0 0]) (T := 88) (by (repeat (first | exact new_plain wnA | with_reducible refine old_alloc ?_ | with_reducible refine old_drew ?_ | with_reducible refine old_set ?_ wnA | with_reducible refine old_ab (by assumption) ?_)))
  have b0 : Ab w ((w.alloc (.cells (OM.cells ⟨3, A, t, c, E, es, d, m⟩).toArray 32)).alloc (.cells #[.int .u8 0, .int .i64 0, .slice none 0 0, .slice none 0 0] 88)) := abA
  go_upto_region 1 with fail
  have z0 : w.heap.size + 1 < ((w.alloc (.cells (OM.cells ⟨3, A, t, c, E, es, d, m⟩).toArray 32)).alloc (.cells #[.int .u8 0, .int .i64 0, .slice none 0 0, .slice none 0 0] 88)).heap.size := by simp
  generalize ((w.alloc (.cells (OM.cells ⟨3, A, t, c, E, es, d, m⟩).toArray 32)).alloc (.cells #[.int .u8 0, .int .i64 0, .slice none 0 0, .slice none 0 0] 88)) = w0 at *
  have c0 := V0.at 0 (show (OM.cells ⟨3, A, t, c, E, es, d, m⟩)[0]? = some (.int .u8 3) from rfl)
  go_wp2_with fail
  refine (onumber_any 3 _).mono ?_
  rintro e w1 ⟨rfl, hb1⟩
  have Y1 : VB (w1.alloc (.cells #[.int .u8 0, .int .i64 0, .slice none 0 0, .slice none 0 0] 88)) w1.heap.size VM.zero.cells := VB.box (xs := #[.int .u8 0, .int .i64 0, .slice none 0 0, .slice none 0 0]) (T := 88) (by (repeat (first | exact new_plain wnA | with_reducible refine old_alloc ?_ | with_reducible refine old_drew ?_ | with_reducible refine old_set ?_ wnA | with_reducible refine old_ab (by assumption) ?_)))
  have z1 := hb1.size
  have V1 := V0.ab hb1
  have Z1 := Z0.ab hb1
  have b1 := b0.trans hb1
  clear V0 Z0 b0 hb1 c0
  go_upto_region 2 with (refine list_stV (o := ⟨none, _, _, _, _, _⟩) (us := (vmN 3).cells) _ infoVT rfl _ _ rfl rfl rfl Y1 rfl rfl rfl ?_; intro w2 h2)
  have hb2 : Ab w1 w2 := h2.ab w1 abA (Nat.le_refl _)
  have V2 := V1.ab hb2
  have Z2 := Z1.ab hb2
  have K2 := h2.v
  have b2 := b1.trans hb2
  have z2 : w1.heap.size < w2.heap.size := by have := h2.sz; simp at this; omega
  clear V1 Z1 b1 hb2 Y1 h2
  generalize w1.heap.size = kb at *
  have c0 := V2.at 0 (show (OM.cells ⟨3, A, t, c, E, es, d, m⟩)[0]? = some (.int .u8 3) from rfl)
  have R2 := range_m V2
  have hml := CM.len hm.t
  have mo := CM.one m
  obtain ⟨e32, e33, e34⟩ := cells_34 m hm.t
  have eid : ∀ (w : World) (b : Nat), VB w b m.cells → w.rangeAt b 0 (idc m.t) := fun w b k => cells_t m hm.t (VB.range k)
  have range_oc : ∀ w', VB w' w.heap.size (OM.cells ⟨3, A, t, c, E, es, d, m⟩) → w'.rangeAt w.heap.size 3 m.cells := fun w' k => range_m k
  generalize OM.cells ⟨3, A, t, c, E, es, d, m⟩ = oc at *
  obtain ⟨t', A', ps, c', note, tick⟩ := m
  simp only at hml mo e32 e33 e34 eid R2 h2 range_oc
  generalize CM.cells ⟨t', A', ps, c', note, tick⟩ = ms at *
  go_upto_region 13 with fail
  go_cut [7, 8] (fun p7 p8 wx => ∃ b7 b8 : Nat, p7 = .pointer (some ⟨b7, 0, none⟩) ∧ p8 = .pointer (some ⟨b8, 0, none⟩) ∧ b7 ≠ b8 ∧ VB wx b7 ms ∧ VB wx b8 [.int .u8 3, .int .i64 0, .slice none 0 0, .slice none 0 0] ∧ b7 < wx.heap.size ∧ b8 < wx.heap.size ∧ w2.heap.size ≤ b7 ∧ w2.heap.size ≤ b8 ∧ Ab w2 wx)
  case first =>
    refine wp_region_held_drew (by kernel_rfl) (S := fun w' => VB w' w.heap.size oc) ?_ (fun hHeld => ?_)
    · exact VB.ab V2 abA
    (refine rtA 0 ?_ ?_
     (try simp only [Act.put, stA, st0, st1]))
    (refine rtL 1 ms 3 (fun w hSw => range_oc w hSw) Tryz.underlying30 ?_ (hz := by rw [infoCM, hml])
     (try simp only [Act.put, stA, st0, st1]))
    (refine wpAnyH_ready (rs := [2, 3, 4]) (by kernel_rfl) (by simp) ?_)
    refine AllReadyH.cons rfl (fun K hK => ?_) (AllReadyH.cons rfl (fun K hK => ?_) (AllReadyH.cons rfl (fun K hK => ?_) AllReadyH.nil))
    · (go_simp
       (refine (olist_any none 0 0 w2.drew).mono ?_; rintro e wc0 ⟨rfl, hbc⟩)
       (try go_wp2_with fail)
       (refine hK.out _ _ ?_ (fun hHeld => ?_)
        · (try dsimp only); (exact (show VB w2.drew w.heap.size oc from VB.ab V2 (show Ab w2 w2.drew from abA)).ab hbc)
        clear hK K
        (try simp only [Act.put, stA, st0, st1])))
      have sc := hbc.size
      (try simp at sc)
      have sc2 : w2.heap.size ≤ wc0.heap.size := by omega
      have bc : Ab w2 wc0 := Ab.trans (show Ab w2 w2.drew from abA) hbc
      (refine wpAnyH_ready (rs := [3, 4]) (by kernel_rfl) (by simp) ?_)
      refine AllReadyH.cons rfl (fun K hK => ?_) (AllReadyH.cons rfl (fun K hK => ?_) AllReadyH.nil)
      · (go_simp
         (refine hK.out _ _ ?_ (fun hHeld => ?_)
          · (try dsimp only); (exact (show VB (wc0.alloc (.cells CM.zero.cells.toArray 30)) w.heap.size oc from VB.ab V2 (show Ab w2 (wc0.alloc (.cells CM.zero.cells.toArray 30)) from abA)))
          clear hK K
          (try simp only [Act.put, stA, st0, st1])))
        have V7_ : VB (wc0.alloc (.cells CM.zero.cells.toArray 30)) wc0.heap.size CM.zero.cells := VB.box (xs := CM.zero.cells.toArray) (T := 30) (by (repeat (first | exact new_plain wnA | with_reducible refine old_alloc ?_ | with_reducible refine old_drew ?_ | with_reducible refine old_set ?_ wnA | with_reducible refine old_ab (by assumption) ?_)))
        refine r1A 4 (fun K hK => ?_)
        (go_simp
         (refine hK.out _ _ ?_ (fun hHeld => ?_)
          · (try dsimp only); (exact (show VB ((wc0.alloc (.cells CM.zero.cells.toArray 30)).alloc (.cells #[.int .u8 0, .int .i64 0, .slice none 0 0, .slice none 0 0] 88)) w.heap.size oc from VB.ab V2 (show Ab w2 ((wc0.alloc (.cells CM.zero.cells.toArray 30)).alloc (.cells #[.int .u8 0, .int .i64 0, .slice none 0 0, .slice none 0 0] 88)) from abA)))
          clear hK K
          (try simp only [Act.put, stA, st0, st1])))
        have V8_ : VB ((wc0.alloc (.cells CM.zero.cells.toArray 30)).alloc (.cells #[.int .u8 0, .int .i64 0, .slice none 0 0, .slice none 0 0] 88)) (wc0.heap.size + 1) VM.zero.cells := VB.box (xs := #[.int .u8 0, .int .i64 0, .slice none 0 0, .slice none 0 0]) (T := 88) (by (repeat (first | exact new_plain wnA | with_reducible refine old_alloc ?_ | with_reducible refine old_drew ?_ | with_reducible refine old_set ?_ wnA | with_reducible refine old_ab (by assumption) ?_)))
        have v7_4 := (V7_).ab (show Ab _ ((wc0.alloc (.cells CM.zero.cells.toArray 30)).alloc (.cells #[.int .u8 0, .int .i64 0, .slice none 0 0, .slice none 0 0] 88)) from abA)
        have P7 := v7_4
        have P8 := V8_
        have hne : wc0.heap.size ≠ (wc0.heap.size + 1) := by omega
        have bz : Ab w2 ((wc0.alloc (.cells CM.zero.cells.toArray 30)).alloc (.cells #[.int .u8 0, .int .i64 0, .slice none 0 0, .slice none 0 0] 88)) := abA
        refine r1A 5 (fun K hK => ?_)
        (try simp only [Act.put, List.getElem_toArray, List.getElem_cons_succ, List.getElem_cons_zero, stA, st0, st1])
        refine if_go (by rfl) ?_
        refine wp_stV (us := ms) _ infoCM _ _ rfl rfl rfl (P7.ab (show Ab _ ((wc0.alloc (.cells CM.zero.cells.toArray 30)).alloc (.cells #[.int .u8 0, .int .i64 0, .slice none 0 0, .slice none 0 0] 88)) from abA)) (by rw [hml]; rfl) hml mo ?_
        intro w8 h8
        have b8 : Ab w2 w8 := h8.ab w2 bz (by omega)
        have P8' := h8.vb (P8.ab (show Ab _ ((wc0.alloc (.cells CM.zero.cells.toArray 30)).alloc (.cells #[.int .u8 0, .int .i64 0, .slice none 0 0, .slice none 0 0] 88)) from abA)) (Ne.symm hne)
        (refine hK.out _ _ ?_ (fun hHeld => ?_)
         · (try dsimp only); exact V2.ab b8
         clear hK K
         (try simp only [Act.put, stA, st0, st1]))
        refine r1A 6 (fun K hK => ?_)
        (try simp only [Act.put, List.getElem_toArray, List.getElem_cons_succ, List.getElem_cons_zero, stA, st0, st1])
        refine if_go (by rfl) ?_
        refine wp_stV (us := [.int .u8 3, .int .i64 0, .slice none 0 0, .slice none 0 0]) _ infoVT _ _ rfl rfl rfl P8' rfl rfl rfl ?_
        intro w9 h9
        have b9 : Ab w2 w9 := h9.ab w2 b8 (by omega)
        have Q7 := h9.vb h8.v hne
        (refine hK.out _ _ ?_ (fun hHeld => ?_)
         · (try dsimp only); exact V2.ab b9
         clear hK K
         (try simp only [Act.put, stA, st0, st1]))
        refine wpAnyH_done (by kernel_rfl) ?_ _
        go_wp2_with fail
        go_meet
        exact ⟨wc0.heap.size, (wc0.heap.size + 1), rfl, rfl, hne, Q7, h9.v, by have := Q7.lt; exact this, by have := h9.v.lt; exact this, by omega, by omega, b9⟩
      · (go_simp
         (refine hK.out _ _ ?_ (fun hHeld => ?_)
          · (try dsimp only); (exact (show VB (wc0.alloc (.cells #[.int .u8 0, .int .i64 0, .slice none 0 0, .slice none 0 0] 88)) w.heap.size oc from VB.ab V2 (show Ab w2 (wc0.alloc (.cells #[.int .u8 0, .int .i64 0, .slice none 0 0, .slice none 0 0] 88)) from abA)))
          clear hK K
          (try simp only [Act.put, stA, st0, st1])))
        have V8_ : VB (wc0.alloc (.cells #[.int .u8 0, .int .i64 0, .slice none 0 0, .slice none 0 0] 88)) wc0.heap.size VM.zero.cells := VB.box (xs := #[.int .u8 0, .int .i64 0, .slice none 0 0, .slice none 0 0]) (T := 88) (by (repeat (first | exact new_plain wnA | with_reducible refine old_alloc ?_ | with_reducible refine old_drew ?_ | with_reducible refine old_set ?_ wnA | with_reducible refine old_ab (by assumption) ?_)))
        refine r1A 3 (fun K hK => ?_)
        (go_simp
         (refine hK.out _ _ ?_ (fun hHeld => ?_)
          · (try dsimp only); (exact (show VB ((wc0.alloc (.cells #[.int .u8 0, .int .i64 0, .slice none 0 0, .slice none 0 0] 88)).alloc (.cells CM.zero.cells.toArray 30)) w.heap.size oc from VB.ab V2 (show Ab w2 ((wc0.alloc (.cells #[.int .u8 0, .int .i64 0, .slice none 0 0, .slice none 0 0] 88)).alloc (.cells CM.zero.cells.toArray 30)) from abA)))
          clear hK K
          (try simp only [Act.put, stA, st0, st1])))
        have V7_ : VB ((wc0.alloc (.cells #[.int .u8 0, .int .i64 0, .slice none 0 0, .slice none 0 0] 88)).alloc (.cells CM.zero.cells.toArray 30)) (wc0.heap.size + 1) CM.zero.cells := VB.box (xs := CM.zero.cells.toArray) (T := 30) (by (repeat (first | exact new_plain wnA | with_reducible refine old_alloc ?_ | with_reducible refine old_drew ?_ | with_reducible refine old_set ?_ wnA | with_reducible refine old_ab (by assumption) ?_)))
        have v8_3 := (V8_).ab (show Ab _ ((wc0.alloc (.cells #[.int .u8 0, .int .i64 0, .slice none 0 0, .slice none 0 0] 88)).alloc (.cells CM.zero.cells.toArray 30)) from abA)
        have P7 := V7_
        have P8 := v8_3
        have hne : (wc0.heap.size + 1) ≠ wc0.heap.size := by omega
        have bz : Ab w2 ((wc0.alloc (.cells #[.int .u8 0, .int .i64 0, .slice none 0 0, .slice none 0 0] 88)).alloc (.cells CM.zero.cells.toArray 30)) := abA
        refine r1A 5 (fun K hK => ?_)
        (try simp only [Act.put, List.getElem_toArray, List.getElem_cons_succ, List.getElem_cons_zero, stA, st0, st1])
        refine if_go (by rfl) ?_
        refine wp_stV (us := ms) _ infoCM _ _ rfl rfl rfl (P7.ab (show Ab _ ((wc0.alloc (.cells #[.int .u8 0, .int .i64 0, .slice none 0 0, .slice none 0 0] 88)).alloc (.cells CM.zero.cells.toArray 30)) from abA)) (by rw [hml]; rfl) hml mo ?_
        intro w8 h8
        have b8 : Ab w2 w8 := h8.ab w2 bz (by omega)
        have P8' := h8.vb (P8.ab (show Ab _ ((wc0.alloc (.cells #[.int .u8 0, .int .i64 0, .slice none 0 0, .slice none 0 0] 88)).alloc (.cells CM.zero.cells.toArray 30)) from abA)) (Ne.symm hne)
        (refine hK.out _ _ ?_ (fun hHeld => ?_)
         · (try dsimp only); exact V2.ab b8
         clear hK K
         (try simp only [Act.put, stA, st0, st1]))
        refine r1A 6 (fun K hK => ?_)
        (try simp only [Act.put, List.getElem_toArray, List.getElem_cons_succ, List.getElem_cons_zero, stA, st0, st1])
        refine if_go (by rfl) ?_
        refine wp_stV (us := [.int .u8 3, .int .i64 0, .slice none 0 0, .slice none 0 0]) _ infoVT _ _ rfl rfl rfl P8' rfl rfl rfl ?_
        intro w9 h9
        have b9 : Ab w2 w9 := h9.ab w2 b8 (by omega)
        have Q7 := h9.vb h8.v hne
        (refine hK.out _ _ ?_ (fun hHeld => ?_)
         · (try dsimp only); exact V2.ab b9
         clear hK K
         (try simp only [Act.put, stA, st0, st1]))
        refine wpAnyH_done (by kernel_rfl) ?_ _
        go_wp2_with fail
        go_meet
        exact ⟨(wc0.heap.size + 1), wc0.heap.size, rfl, rfl, hne, Q7, h9.v, by have := Q7.lt; exact this, by have := h9.v.lt; exact this, by omega, by omega, b9⟩
    · (go_simp
       (refine hK.out _ _ ?_ (fun hHeld => ?_)
        · (try dsimp only); (exact (show VB (w2.drew.alloc (.cells CM.zero.cells.toArray 30)) w.heap.size oc from VB.ab V2 (show Ab w2 (w2.drew.alloc (.cells CM.zero.cells.toArray 30)) from abA)))
        clear hK K
        (try simp only [Act.put, stA, st0, st1])))
      have V7_ : VB (w2.drew.alloc (.cells CM.zero.cells.toArray 30)) w2.heap.size CM.zero.cells := VB.box (xs := CM.zero.cells.toArray) (T := 30) (by (repeat (first | exact new_plain wnA | with_reducible refine old_alloc ?_ | with_reducible refine old_drew ?_ | with_reducible refine old_set ?_ wnA | with_reducible refine old_ab (by assumption) ?_)))
      (refine wpAnyH_ready (rs := [2, 4]) (by kernel_rfl) (by simp) ?_)
      refine AllReadyH.cons rfl (fun K hK => ?_) (AllReadyH.cons rfl (fun K hK => ?_) AllReadyH.nil)
      · (go_simp
         (refine (olist_any none 0 0 (w2.drew.alloc (.cells CM.zero.cells.toArray 30))).mono ?_; rintro e wc1 ⟨rfl, hbc⟩)
         (try go_wp2_with fail)
         (refine hK.out _ _ ?_ (fun hHeld => ?_)
          · (try dsimp only); (exact (show VB (w2.drew.alloc (.cells CM.zero.cells.toArray 30)) w.heap.size oc from VB.ab V2 (show Ab w2 (w2.drew.alloc (.cells CM.zero.cells.toArray 30)) from abA)).ab hbc)
          clear hK K
          (try simp only [Act.put, stA, st0, st1])))
        have sc := hbc.size
        (try simp at sc)
        have sc2 : w2.heap.size ≤ wc1.heap.size := by omega
        have v7c := (V7_).ab hbc
        have bc : Ab w2 wc1 := Ab.trans (show Ab w2 (w2.drew.alloc (.cells CM.zero.cells.toArray 30)) from abA) hbc
        refine r1A 4 (fun K hK => ?_)
        (go_simp
         (refine hK.out _ _ ?_ (fun hHeld => ?_)
          · (try dsimp only); (exact (show VB (wc1.alloc (.cells #[.int .u8 0, .int .i64 0, .slice none 0 0, .slice none 0 0] 88)) w.heap.size oc from VB.ab V2 (show Ab w2 (wc1.alloc (.cells #[.int .u8 0, .int .i64 0, .slice none 0 0, .slice none 0 0] 88)) from abA)))
          clear hK K
          (try simp only [Act.put, stA, st0, st1])))
        have V8_ : VB (wc1.alloc (.cells #[.int .u8 0, .int .i64 0, .slice none 0 0, .slice none 0 0] 88)) wc1.heap.size VM.zero.cells := VB.box (xs := #[.int .u8 0, .int .i64 0, .slice none 0 0, .slice none 0 0]) (T := 88) (by (repeat (first | exact new_plain wnA | with_reducible refine old_alloc ?_ | with_reducible refine old_drew ?_ | with_reducible refine old_set ?_ wnA | with_reducible refine old_ab (by assumption) ?_)))
        have v7_4 := (v7c).ab (show Ab _ (wc1.alloc (.cells #[.int .u8 0, .int .i64 0, .slice none 0 0, .slice none 0 0] 88)) from abA)
        have P7 := v7_4
        have P8 := V8_
        have hne : w2.heap.size ≠ wc1.heap.size := by omega
        have bz : Ab w2 (wc1.alloc (.cells #[.int .u8 0, .int .i64 0, .slice none 0 0, .slice none 0 0] 88)) := abA
        refine r1A 5 (fun K hK => ?_)
        (try simp only [Act.put, List.getElem_toArray, List.getElem_cons_succ, List.getElem_cons_zero, stA, st0, st1])
        refine if_go (by rfl) ?_
        refine wp_stV (us := ms) _ infoCM _ _ rfl rfl rfl (P7.ab (show Ab _ (wc1.alloc (.cells #[.int .u8 0, .int .i64 0, .slice none 0 0, .slice none 0 0] 88)) from abA)) (by rw [hml]; rfl) hml mo ?_
        intro w8 h8
        have b8 : Ab w2 w8 := h8.ab w2 bz (by omega)
        have P8' := h8.vb (P8.ab (show Ab _ (wc1.alloc (.cells #[.int .u8 0, .int .i64 0, .slice none 0 0, .slice none 0 0] 88)) from abA)) (Ne.symm hne)
        (refine hK.out _ _ ?_ (fun hHeld => ?_)
         · (try dsimp only); exact V2.ab b8
         clear hK K
         (try simp only [Act.put, stA, st0, st1]))
        refine r1A 6 (fun K hK => ?_)
        (try simp only [Act.put, List.getElem_toArray, List.getElem_cons_succ, List.getElem_cons_zero, stA, st0, st1])
        refine if_go (by rfl) ?_
        refine wp_stV (us := [.int .u8 3, .int .i64 0, .slice none 0 0, .slice none 0 0]) _ infoVT _ _ rfl rfl rfl P8' rfl rfl rfl ?_
        intro w9 h9
        have b9 : Ab w2 w9 := h9.ab w2 b8 (by omega)
        have Q7 := h9.vb h8.v hne
        (refine hK.out _ _ ?_ (fun hHeld => ?_)
         · (try dsimp only); exact V2.ab b9
         clear hK K
         (try simp only [Act.put, stA, st0, st1]))
        refine wpAnyH_done (by kernel_rfl) ?_ _
        go_wp2_with fail
        go_meet
        exact ⟨w2.heap.size, wc1.heap.size, rfl, rfl, hne, Q7, h9.v, by have := Q7.lt; exact this, by have := h9.v.lt; exact this, by omega, by omega, b9⟩
      · (go_simp
         (refine hK.out _ _ ?_ (fun hHeld => ?_)
          · (try dsimp only); (exact (show VB ((w2.drew.alloc (.cells CM.zero.cells.toArray 30)).alloc (.cells #[.int .u8 0, .int .i64 0, .slice none 0 0, .slice none 0 0] 88)) w.heap.size oc from VB.ab V2 (show Ab w2 ((w2.drew.alloc (.cells CM.zero.cells.toArray 30)).alloc (.cells #[.int .u8 0, .int .i64 0, .slice none 0 0, .slice none 0 0] 88)) from abA)))
          clear hK K
          (try simp only [Act.put, stA, st0, st1])))
        have V8_ : VB ((w2.drew.alloc (.cells CM.zero.cells.toArray 30)).alloc (.cells #[.int .u8 0, .int .i64 0, .slice none 0 0, .slice none 0 0] 88)) (w2.heap.size + 1) VM.zero.cells := VB.box (xs := #[.int .u8 0, .int .i64 0, .slice none 0 0, .slice none 0 0]) (T := 88) (by (repeat (first | exact new_plain wnA | with_reducible refine old_alloc ?_ | with_reducible refine old_drew ?_ | with_reducible refine old_set ?_ wnA | with_reducible refine old_ab (by assumption) ?_)))
        have v7_4 := (V7_).ab (show Ab _ ((w2.drew.alloc (.cells CM.zero.cells.toArray 30)).alloc (.cells #[.int .u8 0, .int .i64 0, .slice none 0 0, .slice none 0 0] 88)) from abA)
        refine r1A 2 (fun K hK => ?_)
        (go_simp
         (refine (olist_any none 0 0 ((w2.drew.alloc (.cells CM.zero.cells.toArray 30)).alloc (.cells #[.int .u8 0, .int .i64 0, .slice none 0 0, .slice none 0 0] 88))).mono ?_; rintro e wc2 ⟨rfl, hbc⟩)
         (try go_wp2_with fail)
         (refine hK.out _ _ ?_ (fun hHeld => ?_)
          · (try dsimp only); (exact (show VB ((w2.drew.alloc (.cells CM.zero.cells.toArray 30)).alloc (.cells #[.int .u8 0, .int .i64 0, .slice none 0 0, .slice none 0 0] 88)) w.heap.size oc from VB.ab V2 (show Ab w2 ((w2.drew.alloc (.cells CM.zero.cells.toArray 30)).alloc (.cells #[.int .u8 0, .int .i64 0, .slice none 0 0, .slice none 0 0] 88)) from abA)).ab hbc)
          clear hK K
          (try simp only [Act.put, stA, st0, st1])))
        have sc := hbc.size
        (try simp at sc)
        have sc2 : w2.heap.size ≤ wc2.heap.size := by omega
        have v7c := (v7_4).ab hbc
        have v8c := (V8_).ab hbc
        have bc : Ab w2 wc2 := Ab.trans (show Ab w2 ((w2.drew.alloc (.cells CM.zero.cells.toArray 30)).alloc (.cells #[.int .u8 0, .int .i64 0, .slice none 0 0, .slice none 0 0] 88)) from abA) hbc
        have P7 := v7c
        have P8 := v8c
        have hne : w2.heap.size ≠ (w2.heap.size + 1) := by omega
        have bz : Ab w2 wc2 := abA
        refine r1A 5 (fun K hK => ?_)
        (try simp only [Act.put, List.getElem_toArray, List.getElem_cons_succ, List.getElem_cons_zero, stA, st0, st1])
        refine if_go (by rfl) ?_
        refine wp_stV (us := ms) _ infoCM _ _ rfl rfl rfl (P7.ab (show Ab _ wc2 from abA)) (by rw [hml]; rfl) hml mo ?_
        intro w8 h8
        have b8 : Ab w2 w8 := h8.ab w2 bz (by omega)
        have P8' := h8.vb (P8.ab (show Ab _ wc2 from abA)) (Ne.symm hne)
        (refine hK.out _ _ ?_ (fun hHeld => ?_)
         · (try dsimp only); exact V2.ab b8
         clear hK K
         (try simp only [Act.put, stA, st0, st1]))
        refine r1A 6 (fun K hK => ?_)
        (try simp only [Act.put, List.getElem_toArray, List.getElem_cons_succ, List.getElem_cons_zero, stA, st0, st1])
        refine if_go (by rfl) ?_
        refine wp_stV (us := [.int .u8 3, .int .i64 0, .slice none 0 0, .slice none 0 0]) _ infoVT _ _ rfl rfl rfl P8' rfl rfl rfl ?_
        intro w9 h9
        have b9 : Ab w2 w9 := h9.ab w2 b8 (by omega)
        have Q7 := h9.vb h8.v hne
        (refine hK.out _ _ ?_ (fun hHeld => ?_)
         · (try dsimp only); exact V2.ab b9
         clear hK K
         (try simp only [Act.put, stA, st0, st1]))
        refine wpAnyH_done (by kernel_rfl) ?_ _
        go_wp2_with fail
        go_meet
        exact ⟨w2.heap.size, (w2.heap.size + 1), rfl, rfl, hne, Q7, h9.v, by have := Q7.lt; exact this, by have := h9.v.lt; exact this, by omega, by omega, b9⟩
    · (go_simp
       (refine hK.out _ _ ?_ (fun hHeld => ?_)
        · (try dsimp only); (exact (show VB (w2.drew.alloc (.cells #[.int .u8 0, .int .i64 0, .slice none 0 0, .slice none 0 0] 88)) w.heap.size oc from VB.ab V2 (show Ab w2 (w2.drew.alloc (.cells #[.int .u8 0, .int .i64 0, .slice none 0 0, .slice none 0 0] 88)) from abA)))
        clear hK K
        (try simp only [Act.put, stA, st0, st1])))
      have V8_ : VB (w2.drew.alloc (.cells #[.int .u8 0, .int .i64 0, .slice none 0 0, .slice none 0 0] 88)) w2.heap.size VM.zero.cells := VB.box (xs := #[.int .u8 0, .int .i64 0, .slice none 0 0, .slice none 0 0]) (T := 88) (by (repeat (first | exact new_plain wnA | with_reducible refine old_alloc ?_ | with_reducible refine old_drew ?_ | with_reducible refine old_set ?_ wnA | with_reducible refine old_ab (by assumption) ?_)))
      (refine wpAnyH_ready (rs := [2, 3]) (by kernel_rfl) (by simp) ?_)
      refine AllReadyH.cons rfl (fun K hK => ?_) (AllReadyH.cons rfl (fun K hK => ?_) AllReadyH.nil)
      · (go_simp
         (refine (olist_any none 0 0 (w2.drew.alloc (.cells #[.int .u8 0, .int .i64 0, .slice none 0 0, .slice none 0 0] 88))).mono ?_; rintro e wc1 ⟨rfl, hbc⟩)
         (try go_wp2_with fail)
         (refine hK.out _ _ ?_ (fun hHeld => ?_)
          · (try dsimp only); (exact (show VB (w2.drew.alloc (.cells #[.int .u8 0, .int .i64 0, .slice none 0 0, .slice none 0 0] 88)) w.heap.size oc from VB.ab V2 (show Ab w2 (w2.drew.alloc (.cells #[.int .u8 0, .int .i64 0, .slice none 0 0, .slice none 0 0] 88)) from abA)).ab hbc)
          clear hK K
          (try simp only [Act.put, stA, st0, st1])))
        have sc := hbc.size
        (try simp at sc)
        have sc2 : w2.heap.size ≤ wc1.heap.size := by omega
        have v8c := (V8_).ab hbc
        have bc : Ab w2 wc1 := Ab.trans (show Ab w2 (w2.drew.alloc (.cells #[.int .u8 0, .int .i64 0, .slice none 0 0, .slice none 0 0] 88)) from abA) hbc
        refine r1A 3 (fun K hK => ?_)
        (go_simp
         (refine hK.out _ _ ?_ (fun hHeld => ?_)
          · (try dsimp only); (exact (show VB (wc1.alloc (.cells CM.zero.cells.toArray 30)) w.heap.size oc from VB.ab V2 (show Ab w2 (wc1.alloc (.cells CM.zero.cells.toArray 30)) from abA)))
          clear hK K
          (try simp only [Act.put, stA, st0, st1])))
        have V7_ : VB (wc1.alloc (.cells CM.zero.cells.toArray 30)) wc1.heap.size CM.zero.cells := VB.box (xs := CM.zero.cells.toArray) (T := 30) (by (repeat (first | exact new_plain wnA | with_reducible refine old_alloc ?_ | with_reducible refine old_drew ?_ | with_reducible refine old_set ?_ wnA | with_reducible refine old_ab (by assumption) ?_)))
        have v8_3 := (v8c).ab (show Ab _ (wc1.alloc (.cells CM.zero.cells.toArray 30)) from abA)
        have P7 := V7_
        have P8 := v8_3
        have hne : wc1.heap.size ≠ w2.heap.size := by omega
        have bz : Ab w2 (wc1.alloc (.cells CM.zero.cells.toArray 30)) := abA
        refine r1A 5 (fun K hK => ?_)
        (try simp only [Act.put, List.getElem_toArray, List.getElem_cons_succ, List.getElem_cons_zero, stA, st0, st1])
        refine if_go (by rfl) ?_
        refine wp_stV (us := ms) _ infoCM _ _ rfl rfl rfl (P7.ab (show Ab _ (wc1.alloc (.cells CM.zero.cells.toArray 30)) from abA)) (by rw [hml]; rfl) hml mo ?_
        intro w8 h8
        have b8 : Ab w2 w8 := h8.ab w2 bz (by omega)
        have P8' := h8.vb (P8.ab (show Ab _ (wc1.alloc (.cells CM.zero.cells.toArray 30)) from abA)) (Ne.symm hne)
        (refine hK.out _ _ ?_ (fun hHeld => ?_)
         · (try dsimp only); exact V2.ab b8
         clear hK K
         (try simp only [Act.put, stA, st0, st1]))
        refine r1A 6 (fun K hK => ?_)
        (try simp only [Act.put, List.getElem_toArray, List.getElem_cons_succ, List.getElem_cons_zero, stA, st0, st1])
        refine if_go (by rfl) ?_
        refine wp_stV (us := [.int .u8 3, .int .i64 0, .slice none 0 0, .slice none 0 0]) _ infoVT _ _ rfl rfl rfl P8' rfl rfl rfl ?_
        intro w9 h9
        have b9 : Ab w2 w9 := h9.ab w2 b8 (by omega)
        have Q7 := h9.vb h8.v hne
        (refine hK.out _ _ ?_ (fun hHeld => ?_)
         · (try dsimp only); exact V2.ab b9
         clear hK K
         (try simp only [Act.put, stA, st0, st1]))
        refine wpAnyH_done (by kernel_rfl) ?_ _
        go_wp2_with fail
        go_meet
        exact ⟨wc1.heap.size, w2.heap.size, rfl, rfl, hne, Q7, h9.v, by have := Q7.lt; exact this, by have := h9.v.lt; exact this, by omega, by omega, b9⟩
      · (go_simp
         (refine hK.out _ _ ?_ (fun hHeld => ?_)
          · (try dsimp only); (exact (show VB ((w2.drew.alloc (.cells #[.int .u8 0, .int .i64 0, .slice none 0 0, .slice none 0 0] 88)).alloc (.cells CM.zero.cells.toArray 30)) w.heap.size oc from VB.ab V2 (show Ab w2 ((w2.drew.alloc (.cells #[.int .u8 0, .int .i64 0, .slice none 0 0, .slice none 0 0] 88)).alloc (.cells CM.zero.cells.toArray 30)) from abA)))
          clear hK K
          (try simp only [Act.put, stA, st0, st1])))
        have V7_ : VB ((w2.drew.alloc (.cells #[.int .u8 0, .int .i64 0, .slice none 0 0, .slice none 0 0] 88)).alloc (.cells CM.zero.cells.toArray 30)) (w2.heap.size + 1) CM.zero.cells := VB.box (xs := CM.zero.cells.toArray) (T := 30) (by (repeat (first | exact new_plain wnA | with_reducible refine old_alloc ?_ | with_reducible refine old_drew ?_ | with_reducible refine old_set ?_ wnA | with_reducible refine old_ab (by assumption) ?_)))
        have v8_3 := (V8_).ab (show Ab _ ((w2.drew.alloc (.cells #[.int .u8 0, .int .i64 0, .slice none 0 0, .slice none 0 0] 88)).alloc (.cells CM.zero.cells.toArray 30)) from abA)
        refine r1A 2 (fun K hK => ?_)
        (go_simp
         (refine (olist_any none 0 0 ((w2.drew.alloc (.cells #[.int .u8 0, .int .i64 0, .slice none 0 0, .slice none 0 0] 88)).alloc (.cells CM.zero.cells.toArray 30))).mono ?_; rintro e wc2 ⟨rfl, hbc⟩)
         (try go_wp2_with fail)
         (refine hK.out _ _ ?_ (fun hHeld => ?_)
          · (try dsimp only); (exact (show VB ((w2.drew.alloc (.cells #[.int .u8 0, .int .i64 0, .slice none 0 0, .slice none 0 0] 88)).alloc (.cells CM.zero.cells.toArray 30)) w.heap.size oc from VB.ab V2 (show Ab w2 ((w2.drew.alloc (.cells #[.int .u8 0, .int .i64 0, .slice none 0 0, .slice none 0 0] 88)).alloc (.cells CM.zero.cells.toArray 30)) from abA)).ab hbc)
          clear hK K
          (try simp only [Act.put, stA, st0, st1])))
        have sc := hbc.size
        (try simp at sc)
        have sc2 : w2.heap.size ≤ wc2.heap.size := by omega
        have v7c := (V7_).ab hbc
        have v8c := (v8_3).ab hbc
        have bc : Ab w2 wc2 := Ab.trans (show Ab w2 ((w2.drew.alloc (.cells #[.int .u8 0, .int .i64 0, .slice none 0 0, .slice none 0 0] 88)).alloc (.cells CM.zero.cells.toArray 30)) from abA) hbc
        have P7 := v7c
        have P8 := v8c
        have hne : (w2.heap.size + 1) ≠ w2.heap.size := by omega
        have bz : Ab w2 wc2 := abA
        refine r1A 5 (fun K hK => ?_)
        (try simp only [Act.put, List.getElem_toArray, List.getElem_cons_succ, List.getElem_cons_zero, stA, st0, st1])
        refine if_go (by rfl) ?_
        refine wp_stV (us := ms) _ infoCM _ _ rfl rfl rfl (P7.ab (show Ab _ wc2 from abA)) (by rw [hml]; rfl) hml mo ?_
        intro w8 h8
        have b8 : Ab w2 w8 := h8.ab w2 bz (by omega)
        have P8' := h8.vb (P8.ab (show Ab _ wc2 from abA)) (Ne.symm hne)
        (refine hK.out _ _ ?_ (fun hHeld => ?_)
         · (try dsimp only); exact V2.ab b8
         clear hK K
         (try simp only [Act.put, stA, st0, st1]))
        refine r1A 6 (fun K hK => ?_)
        (try simp only [Act.put, List.getElem_toArray, List.getElem_cons_succ, List.getElem_cons_zero, stA, st0, st1])
        refine if_go (by rfl) ?_
        refine wp_stV (us := [.int .u8 3, .int .i64 0, .slice none 0 0, .slice none 0 0]) _ infoVT _ _ rfl rfl rfl P8' rfl rfl rfl ?_
        intro w9 h9
        have b9 : Ab w2 w9 := h9.ab w2 b8 (by omega)
        have Q7 := h9.vb h8.v hne
        (refine hK.out _ _ ?_ (fun hHeld => ?_)
         · (try dsimp only); exact V2.ab b9
         clear hK K
         (try simp only [Act.put, stA, st0, st1]))
        refine wpAnyH_done (by kernel_rfl) ?_ _
        go_wp2_with fail
        go_meet
        exact ⟨(w2.heap.size + 1), w2.heap.size, rfl, rfl, hne, Q7, h9.v, by have := Q7.lt; exact this, by have := h9.v.lt; exact this, by omega, by omega, b9⟩
  obtain ⟨b7, b8, rfl, rfl, hne, C7, L8, s7, s8, l7, l8, hbc⟩ := hcut
  rename World => w4
  have K4 := K2.ab hbc
  have Z4 := Z2.ab hbc
  have b4 := b2.trans hbc
  clear K2 Z2 V2 b2 hbc R2 range_oc
  have c1 := C7.at 32 e32
  go_wp2_with fail
  go_loopw [60] (fun i w' => ∃ (k : Nat) (B : Option Addr) (cb_ : Nat) (ys : List VM), k ≤ ps.length ∧ i = .int .i64 k ∧ ys.length = k ∧ Vp w w4.heap.size w.heap.size b8 b7 kb ms (vmN 3).cells ((ps.take k).map Obj.B) B cb_ ys w') (fun i _ => ps.length - (intOf i).toNat)
  case atStart => exact ⟨0, none, 0, [], Nat.zero_le _, rfl, rfl, ⟨b4, Nat.le_refl _, Lib.hid rfl, OwnVs.nil, L8, K4, C7, Z4⟩⟩
  case round =>
    obtain ⟨k, B, cb_, ys, hk, rfl, hyl, hV⟩ := hrel
    have hyl' : k = ys.length := hyl.symm
    subst hyl'
    clear hyl
    rename World => w5
    by_cases hlt : ys.length < ps.length
    · have hT : (ys.length : Int) < ps.length := by omega
      obtain ⟨g, o, rfl, hR⟩ := hm.r (by simp; omega)
      have hp := hm.l ps[ys.length] (List.getElem_mem hlt)
      have hR1 := hR ys.length (by simpa using hlt)
      rw [List.getElem_map] at hR1
      have hR2 : w5.rangeAt g (o + ys.length * 32) (idc ps[ys.length]) := fun j u hu => hV.ab.at (hR1 j u hu)
      have hpl := idc_len hp
      have HS : Hid ((ps.take (ys.length + 1)).map Obj.B = (ps.take ys.length).map Obj.B ++ [Obj.B ps[ys.length]]) := by
        unfold Hid
        rw [List.take_add_one, List.getElem?_eq_getElem hlt]
        simp only [Option.toList_some, List.map_append, List.map_cons, List.map_nil]
      have Z6 : VB (w5.alloc (.cells (idc (List.replicate 32 0)).toArray 27)) w5.heap.size (idc (List.replicate 32 0)) := VB.box (xs := (idc (List.replicate 32 0)).toArray) (T := 27) (by (repeat (first | exact new_plain wnA | with_reducible refine old_alloc ?_ | with_reducible refine old_drew ?_ | with_reducible refine old_set ?_ wnA | with_reducible refine old_ab (by assumption) ?_)))
      generalize ps[ys.length] = p at *
      clear hR hR1
      go_upto_region 17 with (first
        | (refine list_ldM (o := ⟨some 63, _, _, _, _, _⟩) _ (o + ys.length * 32) (idc p) hR2 infoIdT Tryz.underlying27 rfl (by kernel_rfl) _ rfl rfl hpl ?_)
        | (refine list_stV (o := ⟨none, _, _, _, _, _⟩) (us := idc p) _ infoIdT rfl _ _ rfl rfl rfl Z6 (by rw [hpl]; rfl) hpl (idc_one p) ?_
           intro w6 h6))
      have hb6 : Ab w5 w6 := h6.ab w5 abA (Nat.le_refl _)
      have hV6 := hV.keep hb6
      have X6 := h6.v
      have z6 : w5.heap.size < w6.heap.size := by have := h6.sz; simp at this; omega
      have zB : ∀ g', B.map (·.block) = some g' → g' < w5.heap.size := fun g' e => hV.o.lt e
      have zL : ∀ g', B.map (·.block) = some g' → w4.heap.size ≤ g' := fun g' e => hV.o.low e
      have z5 := hV.zz
      clear hV hR2 Z6 h6 hb6
      generalize w5.heap.size = tb at *
      refine region_last 7 (by kernel_rfl) (by kernel_rfl) rfl (S := fun w' => VB w' b8 [.int .u8 3, .int .i64 0, .slice none 0 0, .slice B ys.length cb_]) ?_ (fun hHeld => ?_)
      · exact VB.ab hV6.e abA
      (refine rtA 0 ?_ ?_
       (try simp only [Act.put, stA, st0, st1]))
      (refine rtA 1 (.slice B ys.length cb_) ?_ (hy := by intro w hSw; have z0 := hSw.at 3 rfl; go_simp; (try with_reducible rfl)); (try simp only [Act.put, stA, st0, st1]))
      (refine rtA 2 ?_ ?_
       (try simp only [Act.put, stA, st0, st1]))
      refine r1A 3 (fun K hK => ?_)
      (go_simp
       (refine (odata_any (some ⟨tb, 0, none⟩) 32 32 _).mono ?_; rintro e w9 ⟨rfl, hb9⟩)
       (try go_wp2_with fail)
       (refine hK.out _ _ ?_ (fun hHeld => ?_)
        · (try dsimp only); exact (VB.ab hV6.e (show Ab w6 w6.drew from abA)).ab hb9
        clear hK K
        (try simp only [Act.put, stA, st0, st1])))
      have b9 : Ab w6 w9 := Ab.trans (by exact abA) hb9
      have X9 := X6.ab b9
      have hV9 := hV6.keep b9
      have s9 := b9.size
      clear hb9 X6 hV6
      have b12 : Ab w9 (w9.alloc (.cells #[.int .u8 2, .int .i64 0, .slice (some ⟨tb, 0, none⟩) 32 32, .slice none 0 0] 88)) := abA
      refine r1A 4 (fun K hK => ?_)
      (go_simp
       (refine hK.out _ _ ?_ (fun hHeld => ?_)
        · (try dsimp only); exact (show VB (w9.alloc (.cells #[.int .u8 2, .int .i64 0, .slice (some ⟨tb, 0, none⟩) 32 32, .slice none 0 0] 88)) b8 _ from hV9.e.ab b12)
        clear hK K
        (try simp only [Act.put, stA, st0, st1])))
      have XV : VL 1 (w9.alloc (.cells #[.int .u8 2, .int .i64 0, .slice (some ⟨tb, 0, none⟩) 32 32, .slice none 0 0] 88)) (fun g => w4.heap.size ≤ g ∧ B.map (·.block) ≠ some g) (vmB (some ⟨tb, 0, none⟩) p 32) := by
        have hB : ∀ g', tb ≤ g' → B.map (·.block) ≠ some g' := fun g' h e => by have := zB g' e; omega
        refine vl_B (fun hn => ⟨⟨tb, 0, none⟩, rfl, ⟨by show w4.heap.size ≤ tb; omega, hB _ (Nat.le_refl _)⟩, fun i hi => ?_⟩) (by omega) (by omega)
        rw [Addr.add_mid, Nat.zero_add]
        exact (X9.ab b12).at i (idc_at hi)
      have zsz : w4.heap.size ≤ ((w9.alloc (.cells #[.int .u8 2, .int .i64 0, .slice (some ⟨tb, 0, none⟩) 32 32, .slice none 0 0] 88))).heap.size := by have := (hV9.keep b12).zz; exact this
      have hnew : ((w9.alloc (.cells #[.int .u8 2, .int .i64 0, .slice (some ⟨tb, 0, none⟩) 32 32, .slice none 0 0] 88))).heap[w9.heap.size]? = some (.cells (vmB (some ⟨tb, 0, none⟩) p 32).cells.toArray 88 (0, 0)) := by
        have : ((w9.alloc (.cells #[.int .u8 2, .int .i64 0, .slice (some ⟨tb, 0, none⟩) 32 32, .slice none 0 0] 88))).heap[w9.heap.size]? = some (.cells #[.int .u8 2, .int .i64 0, .slice (some ⟨tb, 0, none⟩) 32 32, .slice none 0 0] 88 (0, 0)) := by (repeat (first | exact new_plain wnA | with_reducible refine old_alloc ?_ | with_reducible refine old_drew ?_ | with_reducible refine old_set ?_ wnA | with_reducible refine old_ab (by assumption) ?_))
        rw [this]
        simp [vmB, VM.cells, hp]
      refine r1A 5 (fun K hK => ?_)
      (try simp only [Act.put, List.getElem_toArray, List.getElem_cons_succ, List.getElem_cons_zero, stA, st0, st1])
      refine if_go (by rfl) ?_
      refine wp_appVs (x := vmB (some ⟨tb, 0, none⟩) p 32) _ _ rfl rfl rfl (hV9.o.ab b12) zsz hnew XV (by omega) ?_
      intro g' c9 w13 zs ez O13 hg13 hk13
      have E13 := (hV9.e.ab b12).grw hg13 (fun e => by have := zL b8 e; omega)
      have K13 := (hV9.k.ab b12).grw hg13 (fun e => by have := zL kb e; omega)
      have B13 := (hV9.b.ab b12).grw hg13 (fun e => by have := zL b7 e; omega)
      have Z13 := (hV9.z.ab b12).grw hg13 (fun e => by have := zL (w.heap.size + 1) e; omega)
      have b13 : Ab w w13 := grown_ab (hV9.ab.trans b12) hg13 (fun g e => by have := zL g e; omega)
      have z13 : w4.heap.size ≤ w13.heap.size := Nat.le_trans zsz hg13.size
      have v13 : Hid (zs.map VM.v = (ps.take (ys.length + 1)).map Obj.B) := by
        unfold Hid
        rw [ez.out, List.map_append, hV9.v.out, HS.out]
        rfl
      have l13 : zs.length = ys.length + 1 := by rw [ez.out]; simp
      (refine hK.out _ _ ?_ (fun hHeld => ?_)
       · (try dsimp only); exact E13
       clear hK K
       (try simp only [Act.put, stA, st0, st1]))
      clear XV hV9 hnew X9 hg13 b12 ez hk13
      (refine rtA 6 ?_ ?_
       (try simp only [Act.put, stA, st0, st1]))
      refine wpAnyH_done (by kernel_rfl) ?_ _
      refine last_then ?_
      refine wpOp_step rfl (fun K hK => ?_)
      have q13 := E13.q 3 (.slice B ys.length cb_) rfl
      have g13 := E13.g 3
      go_simp
      refine hK _ _ ?_
      clear hK K
      go_wp2
      go_roundw
      case rel => exact ⟨ys.length + 1, some ⟨g', 0, none⟩, c9, zs, by omega, by go_num, l13, ⟨Ab.set b13 (by show w.heap.size ≤ b8; omega) _, by simpa using z13, v13, O13.keep (fun g hg _ => Below.heap_setCell _ _ _ g (by show g ≠ b8; omega)), by rw [l13]; exact E13.set 3 (by simp) _, K13.other (by show b8 ≠ kb; omega) _, B13.other (by show b8 ≠ b7; omega) _, Z13.other (by show b8 ≠ w.heap.size + 1; omega) _⟩⟩
      case measure => simp [intOf] <;> omega
    · have hke : ys.length = ps.length := by omega
      have hT : ¬ ((ys.length : Nat) : Int) < (ps.length : Int) := by omega
      have hvs : ys.map VM.v = ps.map Obj.B := by rw [hV.v.out, List.take_of_length_le (by omega)]
      have HKE := Lib.hid hke
      have hl5 := hV.zz
      have hmt : t'.length = 32 := hm.t
      have hms : note.size ≤ 9223372036854775807 := hm.s
      have hk0 : -9223372036854775808 ≤ tick := hm.k0
      have hk1 : tick ≤ 9223372036854775807 := hm.k1
      clear hke
      obtain ⟨nl, hnl⟩ : ∃ l : List UInt8, note = ⟨l.toArray⟩ := ⟨note.data.toList, by simp⟩
      subst hnl
      have hnll : nl.length ≤ 9223372036854775807 := hms
      go_upto_region 19 with fail
      refine wp_region_held_drew (by kernel_rfl) (S := fun w' => VB w' kb (vmN 3).cells ∧ VB w' b8 [.int .u8 3, .int .i64 0, .slice none 0 0, .slice B ys.length cb_] ∧ VB w' b7 ms) ?_ (fun hHeld => ?_)
      · exact ⟨VB.ab hV.k abA, VB.ab hV.e abA, VB.ab hV.b abA⟩
      (refine rtL 0 (vmN 3).cells 0 (fun w hSw => VB.range (hSw.1)) Tryz.underlying88 ?_
       (try simp only [Act.put, stA, st0, st1]))
      (refine rtA 1 ?_ ?_
       (try simp only [Act.put, stA, st0, st1]))
      (refine rtA 2 ?_ ?_
       (try simp only [Act.put, stA, st0, st1]))
      (refine rtL 4 [.int .u8 3, .int .i64 0, .slice none 0 0, .slice B ys.length cb_] 0 (fun w hSw => VB.range (hSw.2.1)) Tryz.underlying88 ?_
       (try simp only [Act.put, stA, st0, st1]))
      (refine rtA 5 ?_ ?_
       (try simp only [Act.put, stA, st0, st1]))
      (refine rtA 6 (.string ⟨nl.toArray⟩) ?_ (hy := by intro w hSw; have z0 := hSw.2.2.at 33 e33; go_simp; (try with_reducible rfl)); (try simp only [Act.put, stA, st0, st1]))
      (refine rtA 9 ?_ ?_
       (try simp only [Act.put, stA, st0, st1]))
      (refine rtA 10 (.int .i64 tick) ?_ (hy := by intro w hSw; have z0 := hSw.2.2.at 34 e34; go_simp; (try with_reducible rfl)); (try simp only [Act.put, stA, st0, st1]))
      (refine wpAnyH_ready (rs := [3, 7]) (by kernel_rfl) (by simp) ?_)
      refine AllReadyH.cons rfl (fun K hK => ?_) (AllReadyH.cons rfl (fun K hK => ?_) AllReadyH.nil)
      · (go_simp
         (refine (odata_any (some ⟨b7, 0, none⟩) 32 32 _).mono ?_; rintro e wa ⟨rfl, hba⟩)
         (try go_wp2_with fail)
         (refine hK.out _ _ ?_ (fun hHeld => ?_)
          · (try dsimp only); exact ⟨(VB.ab hV.k (show Ab w5 w5.drew from abA)).ab hba, (VB.ab hV.e (show Ab w5 w5.drew from abA)).ab hba, (VB.ab hV.b (show Ab w5 w5.drew from abA)).ab hba⟩
          clear hK K
          (try simp only [Act.put, stA, st0, st1])))
        have ba : Ab w5 wa := Ab.trans (by exact abA) hba
        clear hba
        have hcv := conv_bytes wa nl
        have hge := grownCap_ge wa nl.length 0 5
        generalize grownCap wa nl.length 0 5 = cp at *
        have hcp : nl.length ≤ cp := by omega
        have bx0 : Ab wa (((wa.alloc (.cells (bytesRow ⟨nl.toArray⟩ cp) 5 ((bytesRow ⟨nl.toArray⟩ cp).size, (bytesRow ⟨nl.toArray⟩ cp).size + 1))).drew)) := abA
        have bx := ba.trans bx0
        refine r1A 7 (fun K hK => ?_)
        (go_simp
         (refine hK.out _ _ ?_ (fun hHeld => ?_)
          · (try dsimp only); exact (show VB (((wa.alloc (.cells (bytesRow ⟨nl.toArray⟩ cp) 5 ((bytesRow ⟨nl.toArray⟩ cp).size, (bytesRow ⟨nl.toArray⟩ cp).size + 1))).drew)) kb _ ∧ VB (((wa.alloc (.cells (bytesRow ⟨nl.toArray⟩ cp) 5 ((bytesRow ⟨nl.toArray⟩ cp).size, (bytesRow ⟨nl.toArray⟩ cp).size + 1))).drew)) b8 _ ∧ VB (((wa.alloc (.cells (bytesRow ⟨nl.toArray⟩ cp) 5 ((bytesRow ⟨nl.toArray⟩ cp).size, (bytesRow ⟨nl.toArray⟩ cp).size + 1))).drew)) b7 _ from ⟨hV.k.ab bx, hV.e.ab bx, hV.b.ab bx⟩)
          clear hK K
          (try simp only [Act.put, stA, st0, st1])))
        have Rx : RB (((wa.alloc (.cells (bytesRow ⟨nl.toArray⟩ cp) 5 ((bytesRow ⟨nl.toArray⟩ cp).size, (bytesRow ⟨nl.toArray⟩ cp).size + 1))).drew)) 0 (some ⟨wa.heap.size, 0, none⟩) nl := rb_row (c := cp) (by (repeat (first | exact new_plain wnA | with_reducible refine old_alloc ?_ | with_reducible refine old_drew ?_ | with_reducible refine old_set ?_ wnA | with_reducible refine old_ab (by assumption) ?_)))
        have zsb := ba.size
        generalize wa.heap.size = sb at *
        refine r1A 8 (fun K hK => ?_)
        (go_simp
         (refine (odata_any (some ⟨sb, 0, none⟩) nl.length cp _).mono ?_; rintro e w8 ⟨rfl, hb8⟩)
         (try go_wp2_with fail)
         (refine hK.out _ _ ?_ (fun hHeld => ?_)
          · (try dsimp only); exact ⟨hV.k.ab (bx.trans hb8), hV.e.ab (bx.trans hb8), hV.b.ab (bx.trans hb8)⟩
          clear hK K
          (try simp only [Act.put, stA, st0, st1])))
        have b8_ := bx.trans hb8
        have R8 := Rx.ab hb8
        clear hb8 Rx bx
        refine r1A 11 (fun K hK => ?_)
        (go_simp
         (refine (onumber_any tick _).mono ?_; rintro e w11 ⟨rfl, hb11⟩)
         (try go_wp2_with fail)
         (refine hK.out _ _ ?_ (fun hHeld => ?_)
          · (try dsimp only); exact ⟨hV.k.ab (b8_.trans hb11), hV.e.ab (b8_.trans hb11), hV.b.ab (b8_.trans hb11)⟩
          clear hK K
          (try simp only [Act.put, stA, st0, st1])))
        have b11 := b8_.trans hb11
        have R11 := R8.ab hb11
        clear hb11 R8 b8_
        have b12 : Ab w11 (w11.alloc (.cells #[.int .u8 1, .int .i64 3, .slice none 0 0, .slice none 0 0, .int .u8 2, .int .i64 0, .slice (some ⟨b7, 0, none⟩) 32 32, .slice none 0 0, .int .u8 3, .int .i64 0, .slice none 0 0, .slice B ys.length cb_, .int .u8 2, .int .i64 0, .slice (some ⟨sb, 0, none⟩) nl.length cp, .slice none 0 0, .int .u8 1, .int .i64 tick, .slice none 0 0, .slice none 0 0] 88)) := abA
        have c12 := b11.trans b12
        have z11 := b11.size
        refine r1A 12 (fun K hK => ?_)
        (try simp only [Act.put, List.getElem_toArray, List.getElem_cons_succ, List.getElem_cons_zero, stA, st0, st1])
        refine if_go (by rfl) ?_
        refine wp_run (.slice (some ⟨w11.heap.size, 0, none⟩) 5 5) (w11.alloc (.cells #[.int .u8 1, .int .i64 3, .slice none 0 0, .slice none 0 0, .int .u8 2, .int .i64 0, .slice (some ⟨b7, 0, none⟩) 32 32, .slice none 0 0, .int .u8 3, .int .i64 0, .slice none 0 0, .slice B ys.length cb_, .int .u8 2, .int .i64 0, .slice (some ⟨sb, 0, none⟩) nl.length cp, .slice none 0 0, .int .u8 1, .int .i64 tick, .slice none 0 0, .slice none 0 0] 88)) (by kernel_rfl) ?_
        (refine hK.out _ _ ?_ (fun hHeld => ?_)
         · (try dsimp only); exact (show VB (w11.alloc (.cells #[.int .u8 1, .int .i64 3, .slice none 0 0, .slice none 0 0, .int .u8 2, .int .i64 0, .slice (some ⟨b7, 0, none⟩) 32 32, .slice none 0 0, .int .u8 3, .int .i64 0, .slice none 0 0, .slice B ys.length cb_, .int .u8 2, .int .i64 0, .slice (some ⟨sb, 0, none⟩) nl.length cp, .slice none 0 0, .int .u8 1, .int .i64 tick, .slice none 0 0, .slice none 0 0] 88)) kb _ ∧ VB (w11.alloc (.cells #[.int .u8 1, .int .i64 3, .slice none 0 0, .slice none 0 0, .int .u8 2, .int .i64 0, .slice (some ⟨b7, 0, none⟩) 32 32, .slice none 0 0, .int .u8 3, .int .i64 0, .slice none 0 0, .slice B ys.length cb_, .int .u8 2, .int .i64 0, .slice (some ⟨sb, 0, none⟩) nl.length cp, .slice none 0 0, .int .u8 1, .int .i64 tick, .slice none 0 0, .slice none 0 0] 88)) b8 _ ∧ VB (w11.alloc (.cells #[.int .u8 1, .int .i64 3, .slice none 0 0, .slice none 0 0, .int .u8 2, .int .i64 0, .slice (some ⟨b7, 0, none⟩) 32 32, .slice none 0 0, .int .u8 3, .int .i64 0, .slice none 0 0, .slice B ys.length cb_, .int .u8 2, .int .i64 0, .slice (some ⟨sb, 0, none⟩) nl.length cp, .slice none 0 0, .int .u8 1, .int .i64 tick, .slice none 0 0, .slice none 0 0] 88)) b7 _ from ⟨hV.k.ab c12, hV.e.ab c12, hV.b.ab c12⟩)
         clear hK K
         (try simp only [Act.put, stA, st0, st1]))
        have G12 : VB (w11.alloc (.cells #[.int .u8 1, .int .i64 3, .slice none 0 0, .slice none 0 0, .int .u8 2, .int .i64 0, .slice (some ⟨b7, 0, none⟩) 32 32, .slice none 0 0, .int .u8 3, .int .i64 0, .slice none 0 0, .slice B ys.length cb_, .int .u8 2, .int .i64 0, .slice (some ⟨sb, 0, none⟩) nl.length cp, .slice none 0 0, .int .u8 1, .int .i64 tick, .slice none 0 0, .slice none 0 0] 88)) w11.heap.size (vcells [vmN 3, vmB (some ⟨b7, 0, none⟩) t' 32, vmL B (ps.map Obj.B) cb_, vmB (some ⟨sb, 0, none⟩) nl cp, vmN tick]) := by
          have : VB (w11.alloc (.cells #[.int .u8 1, .int .i64 3, .slice none 0 0, .slice none 0 0, .int .u8 2, .int .i64 0, .slice (some ⟨b7, 0, none⟩) 32 32, .slice none 0 0, .int .u8 3, .int .i64 0, .slice none 0 0, .slice B ys.length cb_, .int .u8 2, .int .i64 0, .slice (some ⟨sb, 0, none⟩) nl.length cp, .slice none 0 0, .int .u8 1, .int .i64 tick, .slice none 0 0, .slice none 0 0] 88)) w11.heap.size [.int .u8 1, .int .i64 3, .slice none 0 0, .slice none 0 0, .int .u8 2, .int .i64 0, .slice (some ⟨b7, 0, none⟩) 32 32, .slice none 0 0, .int .u8 3, .int .i64 0, .slice none 0 0, .slice B ys.length cb_, .int .u8 2, .int .i64 0, .slice (some ⟨sb, 0, none⟩) nl.length cp, .slice none 0 0, .int .u8 1, .int .i64 tick, .slice none 0 0, .slice none 0 0] := VB.box (xs := #[.int .u8 1, .int .i64 3, .slice none 0 0, .slice none 0 0, .int .u8 2, .int .i64 0, .slice (some ⟨b7, 0, none⟩) 32 32, .slice none 0 0, .int .u8 3, .int .i64 0, .slice none 0 0, .slice B ys.length cb_, .int .u8 2, .int .i64 0, .slice (some ⟨sb, 0, none⟩) nl.length cp, .slice none 0 0, .int .u8 1, .int .i64 tick, .slice none 0 0, .slice none 0 0]) (T := 88) (by (repeat (first | exact new_plain wnA | with_reducible refine old_alloc ?_ | with_reducible refine old_drew ?_ | with_reducible refine old_set ?_ wnA | with_reducible refine old_ab (by assumption) ?_)))
          show VB (w11.alloc (.cells #[.int .u8 1, .int .i64 3, .slice none 0 0, .slice none 0 0, .int .u8 2, .int .i64 0, .slice (some ⟨b7, 0, none⟩) 32 32, .slice none 0 0, .int .u8 3, .int .i64 0, .slice none 0 0, .slice B ys.length cb_, .int .u8 2, .int .i64 0, .slice (some ⟨sb, 0, none⟩) nl.length cp, .slice none 0 0, .int .u8 1, .int .i64 tick, .slice none 0 0, .slice none 0 0] 88)) w11.heap.size [.int .u8 1, .int .i64 3, .slice none 0 0, .slice none 0 0, .int .u8 2, .int .i64 0, .slice (some ⟨b7, 0, none⟩) t'.length 32, .slice none 0 0, .int .u8 3, .int .i64 0, .slice none 0 0, .slice B (ps.map Obj.B).length cb_, .int .u8 2, .int .i64 0, .slice (some ⟨sb, 0, none⟩) nl.length cp, .slice none 0 0, .int .u8 1, .int .i64 tick, .slice none 0 0, .slice none 0 0]
          rw [List.length_map, ← HKE.out, hmt]; exact this
        refine r1A 13 (fun K hK => ?_)
        (go_simp
         (refine (olist_any (some ⟨w11.heap.size, 0, none⟩) 5 5 (w11.alloc (.cells #[.int .u8 1, .int .i64 3, .slice none 0 0, .slice none 0 0, .int .u8 2, .int .i64 0, .slice (some ⟨b7, 0, none⟩) 32 32, .slice none 0 0, .int .u8 3, .int .i64 0, .slice none 0 0, .slice B ys.length cb_, .int .u8 2, .int .i64 0, .slice (some ⟨sb, 0, none⟩) nl.length cp, .slice none 0 0, .int .u8 1, .int .i64 tick, .slice none 0 0, .slice none 0 0] 88))).mono ?_; rintro e w13 ⟨rfl, hb13⟩)
         (try go_wp2_with fail)
         (refine hK.out _ _ ?_ (fun hHeld => ?_)
          · (try dsimp only); exact ⟨hV.k.ab (c12.trans hb13), hV.e.ab (c12.trans hb13), hV.b.ab (c12.trans hb13)⟩
          clear hK K
          (try simp only [Act.put, stA, st0, st1])))
        have c13 := c12.trans hb13
        have G13 := G12.ab hb13
        have R13 := (R11.ab b12).ab hb13
        have Z13 := hV.z.ab c13
        have O13 := hV.o.ab c13
        have C13 := hV.b.ab c13
        have K13 := hV.k.ab c13
        have E13 := hV.e.ab c13
        have b13 := hV.ab.trans c13
        clear G12 R11 hb13 c12 b12 b11 hV
        refine r1A 14 (fun K hK => ?_)
        (try simp only [Act.put, List.getElem_toArray, List.getElem_cons_succ, List.getElem_cons_zero, stA, st0, st1])
        refine if_go (by rfl) ?_
        refine wp_stV (us := [.int .u8 3, .int .i64 0, .slice none 0 0, .slice (some ⟨w11.heap.size, 0, none⟩) 5 5]) _ infoVT _ _ rfl rfl rfl Z13 rfl rfl rfl ?_
        intro w9 h9
        (refine hK.out _ _ ?_ (fun hHeld => ?_)
         · (try dsimp only); exact ⟨h9.vb K13 (by omega), h9.vb E13 (by omega), h9.vb C13 (by omega)⟩
         clear hK K
         (try simp only [Act.put, stA, st0, st1]))
        refine wpAnyH_done (by kernel_rfl) ?_ _
        go_wp2
        refine bodyPost_ret (res_V1 _ infoVT Tryz.underlying88 rfl Tryz.results50 _ rfl h9.v rfl) rfl ?_
        have b9 : Ab w w9 := h9.ab w b13 (by omega)
        have G9 := h9.vb G13 (by omega)
        have C9 := h9.vb C13 (by omega)
        have O9 : OwnVs 1 w4.heap.size w9 B cb_ ys := O13.keep (fun g hg _ => h9.blk g (by omega))
        have R9 : RB w9 0 (some ⟨sb, 0, none⟩) nl := fun hn => by
          obtain ⟨ad, h1, h2, h3⟩ := R13 hn
          cases h1
          refine ⟨_, rfl, Nat.zero_le _, fun i hi => (World.cell?_of_block (h9.blk _ ?_)).trans (h3 i hi)⟩
          rw [addr_add_block]
          show sb ≠ w.heap.size + 1
          omega
        have hle := O9.le
        exact ⟨vmL (some ⟨w11.heap.size, 0, none⟩) [Obj.N 3, Obj.B t', Obj.L (ps.map Obj.B), Obj.B nl, Obj.N tick] 5, rfl, Lib.hid (by simp [vmL, VM.v, Obj.L]), vl_list (d := 3) [vmN 3, vmB (some ⟨b7, 0, none⟩) t' 32, vmL B (ps.map Obj.B) cb_, vmB (some ⟨sb, 0, none⟩) nl cp, vmN tick] G9 trivial (fun y hy => by
          simp only [List.mem_cons, List.not_mem_nil, or_false] at hy
          rcases hy with rfl | rfl | rfl | rfl | rfl
          · exact VL.le (vl_N (by omega) (by omega)) (by omega)
          · refine VL.le (vl_B (fun hn => ⟨⟨b7, 0, none⟩, rfl, trivial, fun i hi => ?_⟩) (by omega) (by omega)) (by omega)
            rw [Addr.add_mid]
            exact eid _ _ C9 i _ (idc_at hi)
          · refine VL.le (d := 2) ?_ (by omega)
            exact ⟨⟨by simp [vmL], by simp [vmL], by simp [vmL], by simp [vmL], by simp [vmL], by simp [vmL]; have := HKE.out; omega, by simp [vmL]; omega⟩, RS.nil, fun hn => by
              obtain ⟨g, o, h1, _, h2⟩ := (O9.vls hvs) hn
              exact ⟨g, o, h1, trivial, fun i hi => by
                obtain ⟨y, y1, y2, y3⟩ := h2 i hi
                exact ⟨y, y1, y2, y3.mono fun _ _ => trivial⟩⟩⟩
          · exact VL.le (vl_B (R9.rs fun _ _ => trivial) hcp hnll) (by omega)
          · exact VL.le (vl_N hk0 hk1) (by omega)) (Nat.le_refl _) (by simp), b9⟩
      · have hcv := conv_bytes w5.drew nl
        have hge := grownCap_ge w5.drew nl.length 0 5
        generalize grownCap w5.drew nl.length 0 5 = cp at *
        have hcp : nl.length ≤ cp := by omega
        have ba : Ab w5 (((w5.alloc (.cells (bytesRow ⟨nl.toArray⟩ cp) 5 ((bytesRow ⟨nl.toArray⟩ cp).size, (bytesRow ⟨nl.toArray⟩ cp).size + 1))).drew.drew)) := abA
        (go_simp
         (refine hK.out _ _ ?_ (fun hHeld => ?_)
          · (try dsimp only); exact (show VB (((w5.alloc (.cells (bytesRow ⟨nl.toArray⟩ cp) 5 ((bytesRow ⟨nl.toArray⟩ cp).size, (bytesRow ⟨nl.toArray⟩ cp).size + 1))).drew.drew)) kb _ ∧ VB (((w5.alloc (.cells (bytesRow ⟨nl.toArray⟩ cp) 5 ((bytesRow ⟨nl.toArray⟩ cp).size, (bytesRow ⟨nl.toArray⟩ cp).size + 1))).drew.drew)) b8 _ ∧ VB (((w5.alloc (.cells (bytesRow ⟨nl.toArray⟩ cp) 5 ((bytesRow ⟨nl.toArray⟩ cp).size, (bytesRow ⟨nl.toArray⟩ cp).size + 1))).drew.drew)) b7 _ from ⟨hV.k.ab ba, hV.e.ab ba, hV.b.ab ba⟩)
          clear hK K
          (try simp only [Act.put, stA, st0, st1])))
        have Rx0 : RB (((w5.alloc (.cells (bytesRow ⟨nl.toArray⟩ cp) 5 ((bytesRow ⟨nl.toArray⟩ cp).size, (bytesRow ⟨nl.toArray⟩ cp).size + 1))).drew.drew)) 0 (some ⟨w5.heap.size, 0, none⟩) nl := rb_row (c := cp) (by (repeat (first | exact new_plain wnA | with_reducible refine old_alloc ?_ | with_reducible refine old_drew ?_ | with_reducible refine old_set ?_ wnA | with_reducible refine old_ab (by assumption) ?_)))
        refine r1A 3 (fun K hK => ?_)
        (go_simp
         (refine (odata_any (some ⟨b7, 0, none⟩) 32 32 _).mono ?_; rintro e wa ⟨rfl, hba⟩)
         (try go_wp2_with fail)
         (refine hK.out _ _ ?_ (fun hHeld => ?_)
          · (try dsimp only); exact ⟨hV.k.ab (ba.trans hba), hV.e.ab (ba.trans hba), hV.b.ab (ba.trans hba)⟩
          clear hK K
          (try simp only [Act.put, stA, st0, st1])))
        have bx := ba.trans hba
        have Rx := Rx0.ab hba
        clear hba ba Rx0
        refine r1A 8 (fun K hK => ?_)
        (go_simp
         (refine (odata_any (some ⟨w5.heap.size, 0, none⟩) nl.length cp _).mono ?_; rintro e w8 ⟨rfl, hb8⟩)
         (try go_wp2_with fail)
         (refine hK.out _ _ ?_ (fun hHeld => ?_)
          · (try dsimp only); exact ⟨hV.k.ab (bx.trans hb8), hV.e.ab (bx.trans hb8), hV.b.ab (bx.trans hb8)⟩
          clear hK K
          (try simp only [Act.put, stA, st0, st1])))
        have b8_ := bx.trans hb8
        have R8 := Rx.ab hb8
        clear hb8 Rx bx
        refine r1A 11 (fun K hK => ?_)
        (go_simp
         (refine (onumber_any tick _).mono ?_; rintro e w11 ⟨rfl, hb11⟩)
         (try go_wp2_with fail)
         (refine hK.out _ _ ?_ (fun hHeld => ?_)
          · (try dsimp only); exact ⟨hV.k.ab (b8_.trans hb11), hV.e.ab (b8_.trans hb11), hV.b.ab (b8_.trans hb11)⟩
          clear hK K
          (try simp only [Act.put, stA, st0, st1])))
        have b11 := b8_.trans hb11
        have R11 := R8.ab hb11
        clear hb11 R8 b8_
        have b12 : Ab w11 (w11.alloc (.cells #[.int .u8 1, .int .i64 3, .slice none 0 0, .slice none 0 0, .int .u8 2, .int .i64 0, .slice (some ⟨b7, 0, none⟩) 32 32, .slice none 0 0, .int .u8 3, .int .i64 0, .slice none 0 0, .slice B ys.length cb_, .int .u8 2, .int .i64 0, .slice (some ⟨w5.heap.size, 0, none⟩) nl.length cp, .slice none 0 0, .int .u8 1, .int .i64 tick, .slice none 0 0, .slice none 0 0] 88)) := abA
        have c12 := b11.trans b12
        have z11 := b11.size
        refine r1A 12 (fun K hK => ?_)
        (try simp only [Act.put, List.getElem_toArray, List.getElem_cons_succ, List.getElem_cons_zero, stA, st0, st1])
        refine if_go (by rfl) ?_
        refine wp_run (.slice (some ⟨w11.heap.size, 0, none⟩) 5 5) (w11.alloc (.cells #[.int .u8 1, .int .i64 3, .slice none 0 0, .slice none 0 0, .int .u8 2, .int .i64 0, .slice (some ⟨b7, 0, none⟩) 32 32, .slice none 0 0, .int .u8 3, .int .i64 0, .slice none 0 0, .slice B ys.length cb_, .int .u8 2, .int .i64 0, .slice (some ⟨w5.heap.size, 0, none⟩) nl.length cp, .slice none 0 0, .int .u8 1, .int .i64 tick, .slice none 0 0, .slice none 0 0] 88)) (by kernel_rfl) ?_
        (refine hK.out _ _ ?_ (fun hHeld => ?_)
         · (try dsimp only); exact (show VB (w11.alloc (.cells #[.int .u8 1, .int .i64 3, .slice none 0 0, .slice none 0 0, .int .u8 2, .int .i64 0, .slice (some ⟨b7, 0, none⟩) 32 32, .slice none 0 0, .int .u8 3, .int .i64 0, .slice none 0 0, .slice B ys.length cb_, .int .u8 2, .int .i64 0, .slice (some ⟨w5.heap.size, 0, none⟩) nl.length cp, .slice none 0 0, .int .u8 1, .int .i64 tick, .slice none 0 0, .slice none 0 0] 88)) kb _ ∧ VB (w11.alloc (.cells #[.int .u8 1, .int .i64 3, .slice none 0 0, .slice none 0 0, .int .u8 2, .int .i64 0, .slice (some ⟨b7, 0, none⟩) 32 32, .slice none 0 0, .int .u8 3, .int .i64 0, .slice none 0 0, .slice B ys.length cb_, .int .u8 2, .int .i64 0, .slice (some ⟨w5.heap.size, 0, none⟩) nl.length cp, .slice none 0 0, .int .u8 1, .int .i64 tick, .slice none 0 0, .slice none 0 0] 88)) b8 _ ∧ VB (w11.alloc (.cells #[.int .u8 1, .int .i64 3, .slice none 0 0, .slice none 0 0, .int .u8 2, .int .i64 0, .slice (some ⟨b7, 0, none⟩) 32 32, .slice none 0 0, .int .u8 3, .int .i64 0, .slice none 0 0, .slice B ys.length cb_, .int .u8 2, .int .i64 0, .slice (some ⟨w5.heap.size, 0, none⟩) nl.length cp, .slice none 0 0, .int .u8 1, .int .i64 tick, .slice none 0 0, .slice none 0 0] 88)) b7 _ from ⟨hV.k.ab c12, hV.e.ab c12, hV.b.ab c12⟩)
         clear hK K
         (try simp only [Act.put, stA, st0, st1]))
        have G12 : VB (w11.alloc (.cells #[.int .u8 1, .int .i64 3, .slice none 0 0, .slice none 0 0, .int .u8 2, .int .i64 0, .slice (some ⟨b7, 0, none⟩) 32 32, .slice none 0 0, .int .u8 3, .int .i64 0, .slice none 0 0, .slice B ys.length cb_, .int .u8 2, .int .i64 0, .slice (some ⟨w5.heap.size, 0, none⟩) nl.length cp, .slice none 0 0, .int .u8 1, .int .i64 tick, .slice none 0 0, .slice none 0 0] 88)) w11.heap.size (vcells [vmN 3, vmB (some ⟨b7, 0, none⟩) t' 32, vmL B (ps.map Obj.B) cb_, vmB (some ⟨w5.heap.size, 0, none⟩) nl cp, vmN tick]) := by
          have : VB (w11.alloc (.cells #[.int .u8 1, .int .i64 3, .slice none 0 0, .slice none 0 0, .int .u8 2, .int .i64 0, .slice (some ⟨b7, 0, none⟩) 32 32, .slice none 0 0, .int .u8 3, .int .i64 0, .slice none 0 0, .slice B ys.length cb_, .int .u8 2, .int .i64 0, .slice (some ⟨w5.heap.size, 0, none⟩) nl.length cp, .slice none 0 0, .int .u8 1, .int .i64 tick, .slice none 0 0, .slice none 0 0] 88)) w11.heap.size [.int .u8 1, .int .i64 3, .slice none 0 0, .slice none 0 0, .int .u8 2, .int .i64 0, .slice (some ⟨b7, 0, none⟩) 32 32, .slice none 0 0, .int .u8 3, .int .i64 0, .slice none 0 0, .slice B ys.length cb_, .int .u8 2, .int .i64 0, .slice (some ⟨w5.heap.size, 0, none⟩) nl.length cp, .slice none 0 0, .int .u8 1, .int .i64 tick, .slice none 0 0, .slice none 0 0] := VB.box (xs := #[.int .u8 1, .int .i64 3, .slice none 0 0, .slice none 0 0, .int .u8 2, .int .i64 0, .slice (some ⟨b7, 0, none⟩) 32 32, .slice none 0 0, .int .u8 3, .int .i64 0, .slice none 0 0, .slice B ys.length cb_, .int .u8 2, .int .i64 0, .slice (some ⟨w5.heap.size, 0, none⟩) nl.length cp, .slice none 0 0, .int .u8 1, .int .i64 tick, .slice none 0 0, .slice none 0 0]) (T := 88) (by (repeat (first | exact new_plain wnA | with_reducible refine old_alloc ?_ | with_reducible refine old_drew ?_ | with_reducible refine old_set ?_ wnA | with_reducible refine old_ab (by assumption) ?_)))
          show VB (w11.alloc (.cells #[.int .u8 1, .int .i64 3, .slice none 0 0, .slice none 0 0, .int .u8 2, .int .i64 0, .slice (some ⟨b7, 0, none⟩) 32 32, .slice none 0 0, .int .u8 3, .int .i64 0, .slice none 0 0, .slice B ys.length cb_, .int .u8 2, .int .i64 0, .slice (some ⟨w5.heap.size, 0, none⟩) nl.length cp, .slice none 0 0, .int .u8 1, .int .i64 tick, .slice none 0 0, .slice none 0 0] 88)) w11.heap.size [.int .u8 1, .int .i64 3, .slice none 0 0, .slice none 0 0, .int .u8 2, .int .i64 0, .slice (some ⟨b7, 0, none⟩) t'.length 32, .slice none 0 0, .int .u8 3, .int .i64 0, .slice none 0 0, .slice B (ps.map Obj.B).length cb_, .int .u8 2, .int .i64 0, .slice (some ⟨w5.heap.size, 0, none⟩) nl.length cp, .slice none 0 0, .int .u8 1, .int .i64 tick, .slice none 0 0, .slice none 0 0]
          rw [List.length_map, ← HKE.out, hmt]; exact this
        refine r1A 13 (fun K hK => ?_)
        (go_simp
         (refine (olist_any (some ⟨w11.heap.size, 0, none⟩) 5 5 (w11.alloc (.cells #[.int .u8 1, .int .i64 3, .slice none 0 0, .slice none 0 0, .int .u8 2, .int .i64 0, .slice (some ⟨b7, 0, none⟩) 32 32, .slice none 0 0, .int .u8 3, .int .i64 0, .slice none 0 0, .slice B ys.length cb_, .int .u8 2, .int .i64 0, .slice (some ⟨w5.heap.size, 0, none⟩) nl.length cp, .slice none 0 0, .int .u8 1, .int .i64 tick, .slice none 0 0, .slice none 0 0] 88))).mono ?_; rintro e w13 ⟨rfl, hb13⟩)
         (try go_wp2_with fail)
         (refine hK.out _ _ ?_ (fun hHeld => ?_)
          · (try dsimp only); exact ⟨hV.k.ab (c12.trans hb13), hV.e.ab (c12.trans hb13), hV.b.ab (c12.trans hb13)⟩
          clear hK K
          (try simp only [Act.put, stA, st0, st1])))
        have c13 := c12.trans hb13
        have G13 := G12.ab hb13
        have R13 := (R11.ab b12).ab hb13
        have Z13 := hV.z.ab c13
        have O13 := hV.o.ab c13
        have C13 := hV.b.ab c13
        have K13 := hV.k.ab c13
        have E13 := hV.e.ab c13
        have b13 := hV.ab.trans c13
        clear G12 R11 hb13 c12 b12 b11 hV
        refine r1A 14 (fun K hK => ?_)
        (try simp only [Act.put, List.getElem_toArray, List.getElem_cons_succ, List.getElem_cons_zero, stA, st0, st1])
        refine if_go (by rfl) ?_
        refine wp_stV (us := [.int .u8 3, .int .i64 0, .slice none 0 0, .slice (some ⟨w11.heap.size, 0, none⟩) 5 5]) _ infoVT _ _ rfl rfl rfl Z13 rfl rfl rfl ?_
        intro w9 h9
        (refine hK.out _ _ ?_ (fun hHeld => ?_)
         · (try dsimp only); exact ⟨h9.vb K13 (by omega), h9.vb E13 (by omega), h9.vb C13 (by omega)⟩
         clear hK K
         (try simp only [Act.put, stA, st0, st1]))
        refine wpAnyH_done (by kernel_rfl) ?_ _
        go_wp2
        refine bodyPost_ret (res_V1 _ infoVT Tryz.underlying88 rfl Tryz.results50 _ rfl h9.v rfl) rfl ?_
        have b9 : Ab w w9 := h9.ab w b13 (by omega)
        have G9 := h9.vb G13 (by omega)
        have C9 := h9.vb C13 (by omega)
        have O9 : OwnVs 1 w4.heap.size w9 B cb_ ys := O13.keep (fun g hg _ => h9.blk g (by omega))
        have R9 : RB w9 0 (some ⟨w5.heap.size, 0, none⟩) nl := fun hn => by
          obtain ⟨ad, h1, h2, h3⟩ := R13 hn
          cases h1
          refine ⟨_, rfl, Nat.zero_le _, fun i hi => (World.cell?_of_block (h9.blk _ ?_)).trans (h3 i hi)⟩
          rw [addr_add_block]
          show w5.heap.size ≠ w.heap.size + 1
          omega
        have hle := O9.le
        exact ⟨vmL (some ⟨w11.heap.size, 0, none⟩) [Obj.N 3, Obj.B t', Obj.L (ps.map Obj.B), Obj.B nl, Obj.N tick] 5, rfl, Lib.hid (by simp [vmL, VM.v, Obj.L]), vl_list (d := 3) [vmN 3, vmB (some ⟨b7, 0, none⟩) t' 32, vmL B (ps.map Obj.B) cb_, vmB (some ⟨w5.heap.size, 0, none⟩) nl cp, vmN tick] G9 trivial (fun y hy => by
          simp only [List.mem_cons, List.not_mem_nil, or_false] at hy
          rcases hy with rfl | rfl | rfl | rfl | rfl
          · exact VL.le (vl_N (by omega) (by omega)) (by omega)
          · refine VL.le (vl_B (fun hn => ⟨⟨b7, 0, none⟩, rfl, trivial, fun i hi => ?_⟩) (by omega) (by omega)) (by omega)
            rw [Addr.add_mid]
            exact eid _ _ C9 i _ (idc_at hi)
          · refine VL.le (d := 2) ?_ (by omega)
            exact ⟨⟨by simp [vmL], by simp [vmL], by simp [vmL], by simp [vmL], by simp [vmL], by simp [vmL]; have := HKE.out; omega, by simp [vmL]; omega⟩, RS.nil, fun hn => by
              obtain ⟨g, o, h1, _, h2⟩ := (O9.vls hvs) hn
              exact ⟨g, o, h1, trivial, fun i hi => by
                obtain ⟨y, y1, y2, y3⟩ := h2 i hi
                exact ⟨y, y1, y2, y3.mono fun _ _ => trivial⟩⟩⟩
          · exact VL.le (vl_B (R9.rs fun _ _ => trivial) hcp hnll) (by omega)
          · exact VL.le (vl_N hk0 hk1) (by omega)) (Nat.le_refl _) (by simp), b9⟩
end Go.Proofs.YthfffbpcmlgoiaaGreatDoor
