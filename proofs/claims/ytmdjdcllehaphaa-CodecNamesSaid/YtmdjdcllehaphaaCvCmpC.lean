/- codec.Cmp, walked. Own work. -/
import Derived.Test.YtmdjdcllehaphaaCvCmpB
import Derived.Test.YtmdjdcllehaphaaCvLawB
set_option linter.unusedVariables false
set_option linter.unusedSimpArgs false
namespace Go.Proofs.Ytmdjdcllehaphaa
open Go.RowKit
open Codec (V)

/-- What Cmp returns. -/
def Codec.cmpv (D : Nat) (a b : V) : Int × Int := if Codec.check a ≠ 0 then (0, Codec.check a) else if Codec.check b ≠ 0 then (0, Codec.check b) else (Codec.order D a b, 0)
set_option maxRecDepth 100000 in
set_option maxHeartbeats 4000000 in
theorem vcmp_any (D : Nat) (S S' : Nat → Prop) (x y : VM) (w : World) (hx : VL D w S x) (hy : VL D w S' y) (fx : Fits x.v) (fy : Fits y.v) :
    Calls Try.prog 14 #[x.val, y.val] w fun e w' => e = .returned (.tuple #[.int .i64 (Codec.cmpv D x.v y.v).1, .int .i64 (Codec.cmpv D x.v y.v).2]) ∧ Ab w w' := by
  have C1 := fun w' (hk' : Ab w w') => check_any D S x w' (hx.ab hk') fx
  have C2 := Lib.hid (fun w' (hk' : Ab w w') => check_any D S' y w' (hy.ab hk') fy)
  have OO := Lib.hid (fun w' (hk' : Ab w w') => (vorder_any D).out (hx.ab hk') (hy.ab hk'))
  have HR : Hid (Codec.cmpv D x.v y.v = if Codec.check x.v ≠ 0 then (0, Codec.check x.v) else if Codec.check y.v ≠ 0 then (0, Codec.check y.v) else (Codec.order D x.v y.v, 0)) := Lib.hid rfl
  generalize Codec.cmpv D x.v y.v = r at *
  generalize Codec.order D x.v y.v = z at *
  generalize Codec.check x.v = q1 at *
  generalize Codec.check y.v = q2 at *
  clear hx hy fx fy
  obtain ⟨k1, n1, A1, s1, c1, L1, l1, d1⟩ := x
  obtain ⟨k2, n2, A2, s2, c2, L2, l2, d2⟩ := y
  unfold VM.val VM.cells at C1 C2 OO ⊢
  have V0 : VB ((w.alloc (.cells #[.int .u8 (k1 : Int), .int .i64 n1, .slice A1 s1.length c1, .slice L1 l1.length d1] 26)).alloc (.cells #[.int .u8 (k2 : Int), .int .i64 n2, .slice A2 s2.length c2, .slice L2 l2.length d2] 26)) w.heap.size [.int .u8 (k1 : Int), .int .i64 n1, .slice A1 s1.length c1, .slice L1 l1.length d1] := VB.box (xs := #[.int .u8 (k1 : Int), .int .i64 n1, .slice A1 s1.length c1, .slice L1 l1.length d1]) (T := 26) (by (repeat (first | exact new_plain wnA | with_reducible refine old_alloc ?_ | with_reducible refine old_drew ?_ | with_reducible refine old_set ?_ wnA | with_reducible refine old_ab (by assumption) ?_)))
  have U0 : VB ((w.alloc (.cells #[.int .u8 (k1 : Int), .int .i64 n1, .slice A1 s1.length c1, .slice L1 l1.length d1] 26)).alloc (.cells #[.int .u8 (k2 : Int), .int .i64 n2, .slice A2 s2.length c2, .slice L2 l2.length d2] 26)) (w.heap.size + 1) [.int .u8 (k2 : Int), .int .i64 n2, .slice A2 s2.length c2, .slice L2 l2.length d2] := VB.box (xs := #[.int .u8 (k2 : Int), .int .i64 n2, .slice A2 s2.length c2, .slice L2 l2.length d2]) (T := 26) (by (repeat (first | exact new_plain wnA | with_reducible refine old_alloc ?_ | with_reducible refine old_drew ?_ | with_reducible refine old_set ?_ wnA | with_reducible refine old_ab (by assumption) ?_)))
  have ab0 : Ab w ((w.alloc (.cells #[.int .u8 (k1 : Int), .int .i64 n1, .slice A1 s1.length c1, .slice L1 l1.length d1] 26)).alloc (.cells #[.int .u8 (k2 : Int), .int .i64 n2, .slice A2 s2.length c2, .slice L2 l2.length d2] 26)) := abA
  go_enter Try.func14, Try.ntmps14
  go_wp2_with fail
  refine (C1 _ ab0).mono ?_
  rintro e w1 ⟨rfl, hb1⟩
  have ab1 := ab0.trans hb1
  have V1 := V0.ab hb1
  have U1 := U0.ab hb1
  generalize w.heap.size = g0 at *
  clear V0 U0 ab0 hb1 C1
  by_cases h1 : q1 = 0
  · have h1' : (q1 != 0) = false := by rw [bne_eq_false_iff_eq]; exact h1
    have HR2 : Hid (r = if q2 ≠ 0 then (0, q2) else (z, 0)) := by unfold Hid; rw [HR.out, if_neg (fun h => h h1)]
    clear h1 HR
    go_wp2_with (refine list_ldV (o := ⟨some 13, _, _, _, _, _⟩) _ infoV Try.underlying26 rfl rfl _ rfl rfl U1 rfl ?_)
    refine (C2.out _ ab1).mono ?_
    rintro e w2 ⟨rfl, hb2⟩
    have ab2 := ab1.trans hb2
    have V2 := V1.ab hb2
    have U2 := U1.ab hb2
    clear V1 U1 ab1 hb2 C2
    by_cases h2 : q2 = 0
    · have h2' : (q2 != 0) = false := by rw [bne_eq_false_iff_eq]; exact h2
      have HR3 : Hid (r = (z, 0)) := by unfold Hid; rw [HR2.out, if_neg (fun h => h h2)]
      clear h2 HR2
      go_wp2_with (first
        | (refine list_ldV (o := ⟨some 18, _, _, _, _, _⟩) _ infoV Try.underlying26 rfl rfl _ rfl rfl V2 rfl ?_)
        | (refine list_ldV (o := ⟨some 19, _, _, _, _, _⟩) _ infoV Try.underlying26 rfl rfl _ rfl rfl U2 rfl ?_))
      refine (OO.out _ ab2).mono ?_
      rintro e w3 ⟨rfl, hb3⟩
      go_wp2
      go_ret2
      exact ⟨by rw [HR3.out]; (try rfl), ab2.trans hb3⟩
    · have h2' : (q2 != 0) = true := by rw [bne_iff_ne]; exact h2
      have HR3 : Hid (r = (0, q2)) := by unfold Hid; rw [HR2.out, if_pos h2]
      clear h2 HR2
      go_wp2
      go_ret2
      exact ⟨by rw [HR3.out]; (try rfl), ab2⟩
  · have h1' : (q1 != 0) = true := by rw [bne_iff_ne]; exact h1
    have HR2 : Hid (r = (0, q1)) := by unfold Hid; rw [HR.out, if_pos h1]
    clear h1 HR
    go_wp2
    go_ret2
    exact ⟨by rw [HR2.out]; (try rfl), ab1⟩
end Go.Proofs.Ytmdjdcllehaphaa
