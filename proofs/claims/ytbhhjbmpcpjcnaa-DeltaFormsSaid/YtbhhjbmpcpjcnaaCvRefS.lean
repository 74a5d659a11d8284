/- The reference's Size and Encode, walked. Own work. -/
import Derived.Test.YtbhhjbmpcpjcnaaCvRefF
import Derived.Test.YtbhhjbmpcpjcnaaCvFunC
set_option linter.unusedVariables false
set_option linter.unusedSimpArgs false
namespace Go.Proofs.Ytbhhjbmpcpjcnaa
open Go.RowKit
open Codec (V)

theorem encode_ok {v : V} (h : Codec.check v = 0) : Codec.encode v = (Codec.enc 6 v, 0) := by unfold Codec.encode; rw [h]; rfl
theorem check_kinds {v : V} (h : Codec.check v = 0) : Codec.kinds 6 v = true ∧ (Codec.enc 6 v).length ≤ 3000 := by
  unfold Codec.check at h
  split at h
  · cases h
  · rename_i h1
    split at h
    · cases h
    · rename_i h2
      exact ⟨by simpa using h1, by omega⟩
set_option maxRecDepth 100000 in
set_option maxHeartbeats 4000000 in
theorem rencode_any (D : Nat) (S : Nat → Prop) (x : VM) (w : World) (hx : VL D w S x) (hf : Fits x.v) :
    Calls Try.prog 44 #[x.val] w (RetEn w x.v) := by
  have HI := fun w' (hk' : Ab w w') => rcheck_any D S x w' (hx.ab hk') hf
  have HII := Lib.hid HI
  have HB := Lib.hid (fun (hc : Codec.check x.v = 0) w' (hk' : Ab w w') => rbytes_any 6 D S x w' (hx.ab hk') (check_kinds hc).1 (by have := (check_kinds hc).2; omega))
  obtain ⟨k1, n1, A1, s1, c1, L1, l1, d1⟩ := x
  unfold VM.val VM.cells at HI HII HB ⊢
  obtain ⟨v, hv⟩ : ∃ v, v = VM.v ⟨k1, n1, A1, s1, c1, L1, l1, d1⟩ := ⟨_, rfl⟩
  rw [← hv] at HI HII HB ⊢
  clear hv hx hf
  have V0 : VB (w.alloc (.cells #[.int .u8 (k1 : Int), .int .i64 n1, .slice A1 s1.length c1, .slice L1 l1.length d1] 58)) w.heap.size [.int .u8 (k1 : Int), .int .i64 n1, .slice A1 s1.length c1, .slice L1 l1.length d1] := VB.box (xs := #[.int .u8 (k1 : Int), .int .i64 n1, .slice A1 s1.length c1, .slice L1 l1.length d1]) (T := 58) (by (repeat (first | exact new_plain wnA | with_reducible refine old_alloc ?_ | with_reducible refine old_drew ?_ | with_reducible refine old_set ?_ wnA | with_reducible refine old_ab (by assumption) ?_)))
  have ab0 : Ab w (w.alloc (.cells #[.int .u8 (k1 : Int), .int .i64 n1, .slice A1 s1.length c1, .slice L1 l1.length d1] 58)) := abA
  go_enter Try.func44, Try.ntmps44
  go_wp2_with fail
  refine (HI _ ab0).mono ?_
  rintro e w1 ⟨rfl, hb1⟩
  have ab1 := ab0.trans hb1
  have V1 := V0.ab hb1
  generalize w.heap.size = g0 at *
  clear V0 ab0 hb1 HI
  by_cases h1 : Codec.check v = 0
  · have h1' : (Codec.check v != 0) = false := by rw [bne_eq_false_iff_eq]; exact h1
    have HC := Lib.hid h1
    have hle := (check_kinds h1).2
    clear h1
    go_wp2_with (refine list_ldV (o := ⟨some 9, _, _, _, _, _⟩) _ infoV Try.underlying58 rfl rfl _ rfl rfl V1 rfl ?_)
    refine (HB.out HC.out _ ab1).mono ?_
    rintro e w2 ⟨A2, c2, L2, rfl, hL2, O2, hb2⟩
    have hLE : Hid (L2 = Codec.enc 6 v) := by
      unfold Hid
      rcases hL2.out.2 with h | h
      · exact h
      · have := hL2.out.1.length_le
        omega
    clear hL2
    go_wp2
    go_ret2
    exact ⟨A2, c2, L2, 0, rfl, Lib.hid (by rw [encode_ok HC.out, hLE.out]), O2.mono ab1.size, ab1.trans hb2⟩
  · have h1' : (Codec.check v != 0) = true := by rw [bne_iff_ne]; exact h1
    have HC := Lib.hid h1
    clear h1 HB
    go_wp2_with (refine list_ldV (o := ⟨some 7, _, _, _, _, _⟩) _ infoV Try.underlying58 rfl rfl _ rfl rfl V1 rfl ?_)
    refine (HII.out _ ab1).mono ?_
    rintro e w2 ⟨rfl, hb2⟩
    go_wp2
    go_ret2
    exact ⟨none, 0, [], Codec.check v, rfl, Lib.hid (by unfold Codec.encode; rw [if_pos HC.out]), OR.none_, ab1.trans hb2⟩
end Go.Proofs.Ytbhhjbmpcpjcnaa
