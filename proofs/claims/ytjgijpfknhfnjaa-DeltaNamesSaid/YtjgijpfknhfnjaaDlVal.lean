/- The value of a part, walked. Own work. -/
import Derived.Test.YtjgijpfknhfnjaaDlForm
import Derived.Test.YtjgijpfknhfnjaaDlFunA
import Derived.Test.YtjgijpfknhfnjaaDlFunB
set_option linter.unusedVariables false
set_option linter.unusedSimpArgs false
namespace Go.Proofs.Ytjgijpfknhfnjaa
open Go.RowKit
open Codec (V)

set_option maxRecDepth 100000 in
set_option maxHeartbeats 4000000 in
theorem dvalueof_any (x : PM) (S : Nat → Prop) (w : World) (h : PL w x) (hS : RS w S x.A x.b) (hf : Dl.fine x.d = true) :
    Calls Try.prog 28 #[.agg x.cells.toArray] w fun e w' => ∃ y : VM, e = .returned y.val ∧ Hid (y.v = Dl.pv x.d) ∧ VL 2 w' (fun g => S g ∨ w.heap.size ≤ g) y ∧ Ab w w' := by
  have TI := fun w' => isinsert_any x w'
  have HP : Hid (Dl.pv x.d = if Dl.inserts x.d then Obj.B x.b else Obj.L [Obj.N x.p, Obj.N x.n]) := Lib.hid rfl
  have hc := h.c
  have hl := h.l
  have H0 := Lib.hid h.p0
  have H1 := Lib.hid h.p1
  have H2 := Lib.hid h.n0
  have H3 := Lib.hid h.n1
  clear h hf
  generalize Dl.inserts x.d = q at *
  generalize Dl.pv x.d = pvx at *
  obtain ⟨p, n, A, b, c⟩ := x
  simp only at hc hl hS H0 H1 H2 H3 HP
  unfold PM.cells at TI ⊢
  simp only at TI ⊢
  go_enter Try.func28, Try.ntmps28
  have V0 : VB ((w.alloc (.cells #[.int .i64 p, .int .i64 n, .slice A b.length c] 24)).alloc (.cells #[.int .u8 0, .int .i64 0, .slice none 0 0, .slice none 0 0] 58)) w.heap.size [.int .i64 p, .int .i64 n, .slice A b.length c] := VB.box (xs := #[.int .i64 p, .int .i64 n, .slice A b.length c]) (T := 24) (by (repeat (first | exact new_plain wnA | with_reducible refine old_alloc ?_ | with_reducible refine old_drew ?_ | with_reducible refine old_set ?_ wnA | with_reducible refine old_ab (by assumption) ?_)))
  have Z0 : VB ((w.alloc (.cells #[.int .i64 p, .int .i64 n, .slice A b.length c] 24)).alloc (.cells #[.int .u8 0, .int .i64 0, .slice none 0 0, .slice none 0 0] 58)) (w.heap.size + 1) VM.zero.cells := VB.box (xs := #[.int .u8 0, .int .i64 0, .slice none 0 0, .slice none 0 0]) (T := 58) (by (repeat (first | exact new_plain wnA | with_reducible refine old_alloc ?_ | with_reducible refine old_drew ?_ | with_reducible refine old_set ?_ wnA | with_reducible refine old_ab (by assumption) ?_)))
  have b0 : Ab w ((w.alloc (.cells #[.int .i64 p, .int .i64 n, .slice A b.length c] 24)).alloc (.cells #[.int .u8 0, .int .i64 0, .slice none 0 0, .slice none 0 0] 58)) := abA
  go_upto_region 1 with fail
  have z0 : w.heap.size + 1 < ((w.alloc (.cells #[.int .i64 p, .int .i64 n, .slice A b.length c] 24)).alloc (.cells #[.int .u8 0, .int .i64 0, .slice none 0 0, .slice none 0 0] 58)).heap.size := by simp
  generalize ((w.alloc (.cells #[.int .i64 p, .int .i64 n, .slice A b.length c] 24)).alloc (.cells #[.int .u8 0, .int .i64 0, .slice none 0 0, .slice none 0 0] 58)) = w0 at *
  go_wp2_with (refine list_ldV (o := ⟨some 5, _, _, _, _, _⟩) _ infoP Try.underlying24 rfl rfl _ rfl rfl V0 rfl ?_)
  refine (TI _).mono ?_
  rintro e w1 ⟨rfl, hb1⟩
  have V1 := V0.ab hb1
  have Z1 := Z0.ab hb1
  have b1 := b0.trans hb1
  have z1 := hb1.size
  clear V0 Z0 b0 hb1 TI
  cases q with
  | true =>
    have c2 := V1.at 2 (show [Value.int .i64 p, .int .i64 n, .slice A b.length c][2]? = some (.slice A b.length c) from rfl)
    clear V1
    go_wp2_with (refine list_stV (o := ⟨none, _, _, _, _, _⟩) (us := [.int .u8 2, .int .i64 0, .slice A b.length c, .slice none 0 0]) _ infoVT rfl _ _ rfl rfl rfl Z1 rfl rfl rfl ?_; intro w9 h9)
    refine bodyPost_ret (res_V1 _ infoVT Try.underlying58 rfl Try.results28 _ rfl h9.v rfl) rfl ?_
    have b9 : Ab w w9 := h9.ab w b1 (by omega)
    exact ⟨vmB A b c, rfl, Lib.hid HP.out.symm, VL.le (vl_B ((hS.ab b9).mono fun _ h => .inl h) hc hl) (by omega), b9⟩
  | false =>
    have c0 := V1.at 0 (show [Value.int .i64 p, .int .i64 n, .slice A b.length c][0]? = some (.int .i64 p) from rfl)
    have Y1 : VB (w1.alloc (.cells #[.int .u8 0, .int .i64 0, .slice none 0 0, .slice none 0 0] 58)) w1.heap.size VM.zero.cells := VB.box (xs := #[.int .u8 0, .int .i64 0, .slice none 0 0, .slice none 0 0]) (T := 58) (by (repeat (first | exact new_plain wnA | with_reducible refine old_alloc ?_ | with_reducible refine old_drew ?_ | with_reducible refine old_set ?_ wnA | with_reducible refine old_ab (by assumption) ?_)))
    go_upto_region 4 with (refine list_stV (o := ⟨none, _, _, _, _, _⟩) (us := [.int .u8 1, .int .i64 p, .slice none 0 0, .slice none 0 0]) _ infoVT rfl _ _ rfl rfl rfl Y1 rfl rfl rfl ?_; intro w2 h2)
    have hb2 : Ab w1 w2 := h2.ab w1 abA (Nat.le_refl _)
    have V2 := V1.ab hb2
    have Z2 := Z1.ab hb2
    have K2 := h2.v
    have b2 := b1.trans hb2
    have z2 : w1.heap.size < w2.heap.size := by have := h2.sz; simp at this; omega
    clear V1 Z1 b1 hb2 Y1 h2 c0
    generalize w1.heap.size = kb at *
    have c1 := V2.at 1 (show [Value.int .i64 p, .int .i64 n, .slice A b.length c][1]? = some (.int .i64 n) from rfl)
    have Y2 : VB (w2.alloc (.cells #[.int .u8 0, .int .i64 0, .slice none 0 0, .slice none 0 0] 58)) w2.heap.size VM.zero.cells := VB.box (xs := #[.int .u8 0, .int .i64 0, .slice none 0 0, .slice none 0 0]) (T := 58) (by (repeat (first | exact new_plain wnA | with_reducible refine old_alloc ?_ | with_reducible refine old_drew ?_ | with_reducible refine old_set ?_ wnA | with_reducible refine old_ab (by assumption) ?_)))
    go_upto_region 5 with (refine list_stV (o := ⟨none, _, _, _, _, _⟩) (us := [.int .u8 1, .int .i64 n, .slice none 0 0, .slice none 0 0]) _ infoVT rfl _ _ rfl rfl rfl Y2 rfl rfl rfl ?_; intro w3 h3)
    have hb3 : Ab w2 w3 := h3.ab w2 abA (Nat.le_refl _)
    have Z3 := Z2.ab hb3
    have K3 := K2.ab hb3
    have N3 := h3.v
    have b3 := b2.trans hb3
    have z3 : w2.heap.size < w3.heap.size := by have := h3.sz; simp at this; omega
    clear V2 Z2 K2 b2 hb3 Y2 h3 c1
    generalize w2.heap.size = nb at *
    have b4 : Ab w3 (w3.alloc (.cells #[.int .u8 1, .int .i64 p, .slice none 0 0, .slice none 0 0, .int .u8 1, .int .i64 n, .slice none 0 0, .slice none 0 0] 58)) := abA
    have G4 : VB (w3.alloc (.cells #[.int .u8 1, .int .i64 p, .slice none 0 0, .slice none 0 0, .int .u8 1, .int .i64 n, .slice none 0 0, .slice none 0 0] 58)) w3.heap.size (vcells [vmN p, vmN n]) := VB.box (xs := #[.int .u8 1, .int .i64 p, .slice none 0 0, .slice none 0 0, .int .u8 1, .int .i64 n, .slice none 0 0, .slice none 0 0]) (T := 58) (by (repeat (first | exact new_plain wnA | with_reducible refine old_alloc ?_ | with_reducible refine old_drew ?_ | with_reducible refine old_set ?_ wnA | with_reducible refine old_ab (by assumption) ?_)))
    have Z4 := Z3.ab b4
    go_wp2_with (first
      | (refine list_ldV (o := ⟨some 16, _, _, _, _, _⟩) _ infoVT Try.underlying58 rfl rfl _ rfl rfl K3 rfl ?_)
      | (refine list_ldV (o := ⟨some 17, _, _, _, _, _⟩) _ infoVT Try.underlying58 rfl rfl _ rfl rfl N3 rfl ?_)
      | (refine list_stV (o := ⟨none, _, _, _, _, _⟩) (us := [.int .u8 3, .int .i64 0, .slice none 0 0, .slice (some ⟨w3.heap.size, 0, none⟩) 2 2]) _ infoVT rfl _ _ rfl rfl rfl Z4 rfl rfl rfl ?_
         intro w9 h9))
    refine bodyPost_ret (res_V1 _ infoVT Try.underlying58 rfl Try.results28 _ rfl h9.v rfl) rfl ?_
    have b9 : Ab w w9 := h9.ab w (b3.trans b4) (by omega)
    have G9 := h9.vb G4 (by omega)
    exact ⟨vmL (some ⟨w3.heap.size, 0, none⟩) [Obj.N p, Obj.N n] 2, rfl, Lib.hid HP.out.symm, vl_list (d := 1) [vmN p, vmN n] G9 (.inr (by omega)) (fun y hy => by
      rcases List.mem_cons.1 hy with rfl | hy
      · exact vl_N H0.out H1.out
      · obtain rfl : y = vmN n := by simpa using hy
        exact vl_N H2.out H3.out) (Nat.le_refl _) (by simp), b9⟩
end Go.Proofs.Ytjgijpfknhfnjaa
