/- Write, Finish and Sum of package sha, walked. Own work. -/
import Derived.Test.YthfffbpcmlgoiaaGreatDoorCShFunG
set_option linter.unusedVariables false
set_option linter.unusedSimpArgs false
set_option maxRecDepth 100000
namespace Go.Proofs.YthfffbpcmlgoiaaGreatDoor
open Go.RowKit

/-- What Write returns: words, rest, number, error. -/
structure WR where
  h : Sha.W8
  r : List UInt8
  n : Int
  e : Int
def wrE (h : Sha.W8) (r : List UInt8) (n : Int) (l : List UInt8) : WR :=
  if vh r.length n = true then (if (l.length : Int) ≤ 1000000 - n then ⟨Sha.after h (r ++ l), Sha.tail (r ++ l), n + l.length, 0⟩ else ⟨W0, [], 0, 4⟩) else ⟨W0, [], 0, 8⟩
def RetW (w : World) (m : WR) (e : Ending) (w' : World) : Prop := ∃ R c, e = .returned (.tuple #[.agg (hv m.h R m.r.length c m.n).toArray, .int .i64 m.e]) ∧ RB w' w.heap.size R m.r ∧ m.r.length ≤ c ∧ Ab w w'
theorem RetW.bad {w w' : World} {m : WR} {er : Int} (hm : Hid (m = ⟨W0, [], 0, er⟩)) (hb : Ab w w') : RetW w m (.returned (.tuple #[.agg (hv W0 none 0 0 0).toArray, .int .i64 er])) w' := by
  rw [hm.out]; exact ⟨none, 0, rfl, RB.nil, Nat.le_refl _, hb⟩
theorem vh_bd {k : Nat} {n : Int} (h : vh k n = true) : 0 ≤ n ∧ n ≤ 1000000 ∧ (k : Int) = n % 64 := by
  unfold vh at h; simpa using h
set_option maxHeartbeats 1000000 in
theorem write_any (h : Sha.W8) (R : Option Addr) (r : List UInt8) (cr : Nat) (n : Int) (A : Option Addr) (l : List UInt8) (c : Nat) (w : World) (hG : Glob w) (hr : RB w 0 R r) (hcr : r.length ≤ cr) (lr : r.length ≤ 9223372036854775807) (hb : RB w 0 A l) (hc : l.length ≤ c) (ll : l.length ≤ 9223372036854775807) :
    Calls Tryz.prog 86 #[.agg (hv h R r.length cr n).toArray, .slice A l.length c] w (RetW w (wrE h r n l)) := by
  have HI := fun w' => isHash_any h R r.length cr n w' lr
  cases hv' : vh r.length n with
  | false =>
    have HE : Hid (wrE h r n l = ⟨W0, [], 0, 8⟩) := by unfold Hid wrE; rw [if_neg (by rw [hv']; simp)]
    have HV := Lib.hid hv'
    clear hv'
    go_enter Tryz.func86, Tryz.ntmps86
    have V0 : VB (w.alloc (.cells (hv h R r.length cr n).toArray 127)) w.heap.size (hv h R r.length cr n) := VB.box (xs := (hv h R r.length cr n).toArray) (T := 127) (by (repeat (first | exact new_plain wnA | with_reducible refine old_alloc ?_ | with_reducible refine old_drew ?_ | with_reducible refine old_set ?_ wnA | with_reducible refine old_ab (by assumption) ?_)))
    have Z0 : VB ((w.alloc (.cells (hv h R r.length cr n).toArray 127)).alloc (.cells #[.int .u32 0, .int .u32 0, .int .u32 0, .int .u32 0, .int .u32 0, .int .u32 0, .int .u32 0, .int .u32 0, .slice none 0 0, .int .i64 0] 127)) (w.heap.size + 1) [.int .u32 0, .int .u32 0, .int .u32 0, .int .u32 0, .int .u32 0, .int .u32 0, .int .u32 0, .int .u32 0, .slice none 0 0, .int .i64 0] := VB.box (xs := #[.int .u32 0, .int .u32 0, .int .u32 0, .int .u32 0, .int .u32 0, .int .u32 0, .int .u32 0, .int .u32 0, .slice none 0 0, .int .i64 0]) (T := 127) (by (repeat (first | exact new_plain wnA | with_reducible refine old_alloc ?_ | with_reducible refine old_drew ?_ | with_reducible refine old_set ?_ wnA | with_reducible refine old_ab (by assumption) ?_)))
    go_wp2_with ((refine list_ldV _ infoH Tryz.underlying127 rfl rfl _ rfl rfl (VB.ab V0 abA) (hv_len _ _ _ _ _) ?_))
    refine (HI _).mono ?_
    rintro e w1 ⟨rfl, hb1⟩
    rw [HV.out]
    go_wp2_with (refine list_stV (o := ⟨none, _, _, _, _, _⟩) (us := hv W0 none 0 0 0) _ infoH rfl _ _ rfl rfl rfl (VB.ab Z0 abA) rfl (hv_len _ _ _ _ _) (hv_one _ _ _ _ _) ?_
                 intro w9 h9)
    refine bodyPost_ret (res_V2 _ infoH Tryz.underlying127 rfl Tryz.results86 _ rfl h9.v (hv_len _ _ _ _ _)) rfl ?_
    exact RetW.bad HE (h9.ab _ abA (by omega))
  | true =>
    obtain ⟨n0, n1, n2⟩ := vh_bd hv'
    have HV := Lib.hid hv'
    by_cases hm : (l.length : Int) ≤ 1000000 - n
    · have HE : Hid (wrE h r n l = ⟨Sha.after h (r ++ l), Sha.tail (r ++ l), n + l.length, 0⟩) := by unfold Hid wrE; rw [if_pos hv', if_pos hm]
      clear hv'
      have hm1 : decide (1000000 - n < (l.length : Int)) = false := by simpa using hm
      have HTA := fun g w' => takeAll_any h g R A r l cr c w'
      have HTL : Hid ((Sha.tail (r ++ l)).length ≤ 64) := Lib.hid (by rw [Sha.tail_length]; omega)
      generalize Sha.after h (r ++ l) = H at *
      generalize Sha.tail (r ++ l) = tl at *
      go_enter Tryz.func86, Tryz.ntmps86
      have V0 : VB (w.alloc (.cells (hv h R r.length cr n).toArray 127)) w.heap.size (hv h R r.length cr n) := VB.box (xs := (hv h R r.length cr n).toArray) (T := 127) (by (repeat (first | exact new_plain wnA | with_reducible refine old_alloc ?_ | with_reducible refine old_drew ?_ | with_reducible refine old_set ?_ wnA | with_reducible refine old_ab (by assumption) ?_)))
      have Z0 : VB ((w.alloc (.cells (hv h R r.length cr n).toArray 127)).alloc (.cells #[.int .u32 0, .int .u32 0, .int .u32 0, .int .u32 0, .int .u32 0, .int .u32 0, .int .u32 0, .int .u32 0, .slice none 0 0, .int .i64 0] 127)) (w.heap.size + 1) [.int .u32 0, .int .u32 0, .int .u32 0, .int .u32 0, .int .u32 0, .int .u32 0, .int .u32 0, .int .u32 0, .slice none 0 0, .int .i64 0] := VB.box (xs := #[.int .u32 0, .int .u32 0, .int .u32 0, .int .u32 0, .int .u32 0, .int .u32 0, .int .u32 0, .int .u32 0, .slice none 0 0, .int .i64 0]) (T := 127) (by (repeat (first | exact new_plain wnA | with_reducible refine old_alloc ?_ | with_reducible refine old_drew ?_ | with_reducible refine old_set ?_ wnA | with_reducible refine old_ab (by assumption) ?_)))
      go_wp2_with ((refine list_ldV _ infoH Tryz.underlying127 rfl rfl _ rfl rfl (VB.ab V0 abA) (hv_len _ _ _ _ _) ?_))
      refine (HI _).mono ?_
      rintro e w1 ⟨rfl, hb1⟩
      rw [HV.out]
      have V1 : VB w1 w.heap.size (hv h R r.length cr n) := V0.ab abA
      have Z1 := VB.ab Z0 (show Ab _ w1 from abA)
      have hab1 : Ab w w1 := abA
      have z1 : w.heap.size + 1 < w1.heap.size := Z1.lt
      clear V0 Z0 hb1
      have y9 := V1.at 9 rfl
      have y8 := V1.at 8 rfl
      go_wp2_with (refine list_ldR (o := ⟨some 21, _, _, _, _, _⟩) _ 0 (w8 h) (VB.pre V1) info8 Tryz.underlying101 rfl rfl _ rfl rfl rfl ?_)
      have hg : (w1.alloc (.cells #[.slice R r.length cr, .slice A l.length c] 24)).heap[w1.heap.size]? = some (.cells #[.slice R r.length cr, .slice A l.length c] 24 (0, 0)) := by (repeat (first | exact new_plain wnA | with_reducible refine old_alloc ?_ | with_reducible refine old_drew ?_ | with_reducible refine old_set ?_ wnA | with_reducible refine old_ab (by assumption) ?_))
      have VG : VB (w1.alloc (.cells #[.slice R r.length cr, .slice A l.length c] 24)) w1.heap.size [.slice R r.length cr, .slice A l.length c] := VB.box (xs := #[.slice R r.length cr, .slice A l.length c]) hg
      refine (HTA w1.heap.size _ (hG.ab abA) (VG.at 0 rfl) (VG.at 1 rfl) (hr.ab abA) (hb.ab abA) hcr hc lr ll).mono ?_
      rintro e w2 ⟨G, rfl, hrb, hb2⟩
      have hab2 : Ab w1 w2 := Ab.trans abA hb2
      have z2 := hab2.size
      have Z6 : VB (w2.alloc (.cells #[.int .u32 0, .int .u32 0, .int .u32 0, .int .u32 0, .int .u32 0, .int .u32 0, .int .u32 0, .int .u32 0] 101)) w2.heap.size [.int .u32 0, .int .u32 0, .int .u32 0, .int .u32 0, .int .u32 0, .int .u32 0, .int .u32 0, .int .u32 0] := VB.box (xs := #[.int .u32 0, .int .u32 0, .int .u32 0, .int .u32 0, .int .u32 0, .int .u32 0, .int .u32 0, .int .u32 0]) (T := 101) (by (repeat (first | exact new_plain wnA | with_reducible refine old_alloc ?_ | with_reducible refine old_drew ?_ | with_reducible refine old_set ?_ wnA | with_reducible refine old_ab (by assumption) ?_)))
      clear hg VG hb2
      have V2 := V1.ab hab2
      have Z2 := Z1.ab hab2
      go_wp2_with (first
        | (refine list_stV (o := ⟨none, _, _, _, _, _⟩) (us := w8 H) _ info8 rfl _ _ rfl rfl rfl Z6 (w8_len _).symm (w8_len _) (w8_one _) ?_
           intro w6 h6
           have V6 := h6.vb (VB.ab V2 abA) (by omega)
           have Z7 := h6.vb (VB.ab Z2 abA) (by omega)
           have y69 := V6.at 9 rfl
           have hab6 : Ab w w6 := h6.ab _ (Ab.trans hab1 (Ab.trans hab2 abA)) (by omega)
           have hrb6 : RB w6 (w1.heap.size + 1) (some ⟨G, 0, none⟩) tl := RB.ab (hrb.mono (by simp)) (h6.ab _ abA (Nat.le_refl _)))
        | (refine list_ldV (o := ⟨some 29, _, _, _, _, _⟩) _ info8 Tryz.underlying101 rfl rfl _ rfl rfl h6.v (w8_len _) ?_)
        | (refine list_val (o := ⟨some 36, _, _, _, _, _⟩) (.agg (hv H (some ⟨G, 0, none⟩) tl.length 64 (n + (l.length : Int))).toArray) rfl (by kernel_rfl) ?_)
        | (refine list_stV (o := ⟨none, _, _, _, _, _⟩) (us := hv H (some ⟨G, 0, none⟩) tl.length 64 (n + (l.length : Int))) _ infoH rfl _ _ rfl rfl rfl Z7 rfl (hv_len _ _ _ _ _) (hv_one _ _ _ _ _) ?_
           intro w9 h9))
      refine bodyPost_ret (res_V2 _ infoH Tryz.underlying127 rfl Tryz.results86 _ rfl h9.v (hv_len _ _ _ _ _)) rfl ?_
      rw [HE.out]
      exact ⟨some ⟨G, 0, none⟩, 64, rfl, (hrb6.stored h9 (by omega)).mono (by omega), HTL.out, h9.ab _ hab6 (by omega)⟩
    · have HE : Hid (wrE h r n l = ⟨W0, [], 0, 4⟩) := by unfold Hid wrE; rw [if_pos hv', if_neg hm]
      clear hv'
      have hm' : 1000000 - n < (l.length : Int) := by omega
      go_enter Tryz.func86, Tryz.ntmps86
      have V0 : VB (w.alloc (.cells (hv h R r.length cr n).toArray 127)) w.heap.size (hv h R r.length cr n) := VB.box (xs := (hv h R r.length cr n).toArray) (T := 127) (by (repeat (first | exact new_plain wnA | with_reducible refine old_alloc ?_ | with_reducible refine old_drew ?_ | with_reducible refine old_set ?_ wnA | with_reducible refine old_ab (by assumption) ?_)))
      have Z0 : VB ((w.alloc (.cells (hv h R r.length cr n).toArray 127)).alloc (.cells #[.int .u32 0, .int .u32 0, .int .u32 0, .int .u32 0, .int .u32 0, .int .u32 0, .int .u32 0, .int .u32 0, .slice none 0 0, .int .i64 0] 127)) (w.heap.size + 1) [.int .u32 0, .int .u32 0, .int .u32 0, .int .u32 0, .int .u32 0, .int .u32 0, .int .u32 0, .int .u32 0, .slice none 0 0, .int .i64 0] := VB.box (xs := #[.int .u32 0, .int .u32 0, .int .u32 0, .int .u32 0, .int .u32 0, .int .u32 0, .int .u32 0, .int .u32 0, .slice none 0 0, .int .i64 0]) (T := 127) (by (repeat (first | exact new_plain wnA | with_reducible refine old_alloc ?_ | with_reducible refine old_drew ?_ | with_reducible refine old_set ?_ wnA | with_reducible refine old_ab (by assumption) ?_)))
      go_wp2_with ((refine list_ldV _ infoH Tryz.underlying127 rfl rfl _ rfl rfl (VB.ab V0 abA) (hv_len _ _ _ _ _) ?_))
      refine (HI _).mono ?_
      rintro e w1 ⟨rfl, hb1⟩
      rw [HV.out]
      have y9 := (VB.ab V0 (show Ab _ w1 from abA)).at 9 rfl
      go_wp2_with (refine list_stV (o := ⟨none, _, _, _, _, _⟩) (us := hv W0 none 0 0 0) _ infoH rfl _ _ rfl rfl rfl (VB.ab Z0 abA) rfl (hv_len _ _ _ _ _) (hv_one _ _ _ _ _) ?_
                   intro w9 h9)
      refine bodyPost_ret (res_V2 _ infoH Tryz.underlying127 rfl Tryz.results86 _ rfl h9.v (hv_len _ _ _ _ _)) rfl ?_
      exact RetW.bad HE (h9.ab _ abA (by omega))
end Go.Proofs.YthfffbpcmlgoiaaGreatDoor
