/- The reference of layer 8: Pad, Block. Own work. -/
import Derived.Test.YtiijehmbpjakhaaDoorShRefD
set_option linter.unusedVariables false
set_option linter.unusedSimpArgs false
namespace Go.Proofs.YtiijehmbpjakhaaDoor
open Go.RowKit

theorem rpad_any (n : Int) (w : World) : Calls Tryd.prog 7 #[.int .i64 n] w (RetBE w (padE n)) := by
  by_cases h1 : 0 ≤ n
  · by_cases h2 : n ≤ 1000000
    · obtain ⟨k, rfl⟩ : ∃ k : Nat, n = (k : Int) := ⟨n.toNat, by omega⟩
      have hk : k ≤ 1000000 := by omega
      have HE : Hid (padE (k : Int) = (Sha.pad k, 0)) := by unfold Hid padE; rw [if_pos ⟨h1, h2⟩]; rfl
      have HL := Lib.hid (Sha.pad_length k)
      go_enter Tryd.func7, Tryd.ntmps7
      go_wp2_with fail
      refine (rpadding_any k _ hk).mono ?_
      rintro e w' ⟨A, c, rfl, ho, hb⟩
      have hc := ho.le
      go_wp2
      go_ret2
      exact ⟨A, c, Sha.pad k, Lib.hid (by rw [HE.out]), by rw [HE.out, HL.out]; rfl, ho.rb.zero, hc, hb⟩
    · have HE : Hid (padE n = ([], 2)) := by unfold Hid padE; rw [if_neg (by omega)]
      go_enter Tryd.func7, Tryd.ntmps7
      go_wp2
      go_ret2
      exact ⟨none, 0, [], Lib.hid (by rw [HE.out]), by rw [HE.out]; rfl, RB.nil, Nat.le_refl _, abA⟩
  · have HE : Hid (padE n = ([], 2)) := by unfold Hid padE; rw [if_neg (by omega)]
    go_enter Tryd.func7, Tryd.ntmps7
    go_wp2
    go_ret2
    exact ⟨none, 0, [], Lib.hid (by rw [HE.out]), by rw [HE.out]; rfl, RB.nil, Nat.le_refl _, abA⟩
theorem rblock_any (h : Sha.W8) (A : Option Addr) (l : List UInt8) (c : Nat) (w : World) (hb : RB w 0 A l) (hc : l.length ≤ c) (ll : l.length ≤ 9223372036854775807) :
    Calls Tryd.prog 9 #[.agg (w8 h).toArray, .slice A l.length c] w fun e w' => e = .returned (.tuple #[.agg (w8 (blkE h l).1).toArray, .int .i64 (blkE h l).2]) ∧ Ab w w' := by
  by_cases h4 : l.length = 64
  · have HE : Hid (blkE h l = (Sha.taken h l, 0)) := by unfold Hid blkE; rw [if_pos h4]
    have HT : ∀ w', Ab w w' → Calls Tryd.prog 18 #[.agg (w8 h).toArray, .slice A l.length c] w' (fun e w2 => e = .returned (.agg (w8 (Sha.taken h l)).toArray) ∧ Ab w' w2) := fun w' hk => taken_any h A l c w' (hb.ab hk) hc h4
    generalize Sha.taken h l = H at *
    have h4' : (l.length : Int) = 64 := by omega
    have H4 := Lib.hid h4
    clear h4
    go_enter Tryd.func9, Tryd.ntmps9
    have V0 : VB (w.alloc (.cells (w8 h).toArray 24)) w.heap.size (w8 h) := VB.box (xs := (w8 h).toArray) (T := 24) (by (repeat (first | exact new_plain wnA | with_reducible refine old_alloc ?_ | with_reducible refine old_drew ?_ | with_reducible refine old_set ?_ wnA | with_reducible refine old_ab (by assumption) ?_)))
    have Z0 : VB ((w.alloc (.cells (w8 h).toArray 24)).alloc (.cells #[.int .u32 0, .int .u32 0, .int .u32 0, .int .u32 0, .int .u32 0, .int .u32 0, .int .u32 0, .int .u32 0] 24)) (w.heap.size + 1) [.int .u32 0, .int .u32 0, .int .u32 0, .int .u32 0, .int .u32 0, .int .u32 0, .int .u32 0, .int .u32 0] := VB.box (xs := #[.int .u32 0, .int .u32 0, .int .u32 0, .int .u32 0, .int .u32 0, .int .u32 0, .int .u32 0, .int .u32 0]) (T := 24) (by (repeat (first | exact new_plain wnA | with_reducible refine old_alloc ?_ | with_reducible refine old_drew ?_ | with_reducible refine old_set ?_ wnA | with_reducible refine old_ab (by assumption) ?_)))
    go_wp2_with (first
      | (refine list_ldV _ info8 Tryd.underlying24 rfl rfl _ rfl rfl (VB.ab V0 abA) (w8_len _) ?_)
      | (refine list_stV (o := ⟨none, _, _, _, _, _⟩) (us := w8 H) _ info8 rfl _ _ rfl rfl rfl (VB.ab Z0 abA) (w8_len _).symm (w8_len _) (w8_one _) ?_
         intro w9 h9)
      | (go_at_call 18
         refine (HT _ abA).mono ?_
         rintro e w4 ⟨rfl, hb4⟩))
    refine bodyPost_ret (res_V2 _ info8 Tryd.underlying24 rfl Tryd.results9 _ rfl h9.v (w8_len _)) rfl ?_
    exact ⟨by rw [HE.out]; rfl, h9.ab _ abA (by omega)⟩
  · have HE : Hid (blkE h l = (W0, 2)) := by unfold Hid blkE; rw [if_neg h4]
    have h4' : ¬ (l.length : Int) = 64 := by omega
    go_enter Tryd.func9, Tryd.ntmps9
    go_wp2
    refine bodyPost_ret (v := .tuple #[.agg (w8 W0).toArray, .int .i64 2]) (by simp [results, Tryd.results9, go_sem]; rfl) rfl ?_
    exact ⟨by rw [HE.out], abA⟩
end Go.Proofs.YtiijehmbpjakhaaDoor
