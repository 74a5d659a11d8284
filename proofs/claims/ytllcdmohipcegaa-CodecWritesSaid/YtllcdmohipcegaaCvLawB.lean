/- What the statements of the codec share: fit, beginnings of bytes. Own work. -/
import Derived.Test.YtllcdmohipcegaaCvAliveB
set_option linter.unusedVariables false
set_option linter.unusedSimpArgs false
namespace Go.Proofs.Ytllcdmohipcegaa
open Go.RowKit
open Codec (V)

/-- What fit returns. -/
def RetFit (w : World) (v : V) (e : Ending) (w' : World) : Prop := ∃ r, e = .returned (.bool r) ∧ Hid (r = true → Codec.check v = 0 ∧ Fits v) ∧ Ab w w'
set_option maxRecDepth 100000 in
theorem fit_any (D : Nat) (S : Nat → Prop) (x : VM) (w : World) (hx : VL D w S x) : Calls Try.prog 31 #[x.val] w (RetFit w x.v) := by
  obtain ⟨k1, n1, A1, s1, c1, L1, l1, d1⟩ := x
  have HG := fun w' (hk' : Ab w w') => great_any D S ⟨k1, n1, A1, s1, c1, L1, l1, d1⟩ w' (hx.ab hk')
  have HC := fun w' (hk' : Ab w w') hf => rcheck_any D S ⟨k1, n1, A1, s1, c1, L1, l1, d1⟩ w' (hx.ab hk') hf
  have HF := Lib.hid (fun h => fits_of hx h)
  unfold VM.val VM.cells at HG HC ⊢
  generalize VM.v ⟨k1, n1, A1, s1, c1, L1, l1, d1⟩ = v at *
  have V0 : VB (w.alloc (.cells #[.int .u8 (k1 : Int), .int .i64 n1, .slice A1 s1.length c1, .slice L1 l1.length d1] 26)) w.heap.size [.int .u8 (k1 : Int), .int .i64 n1, .slice A1 s1.length c1, .slice L1 l1.length d1] := VB.box (xs := #[.int .u8 (k1 : Int), .int .i64 n1, .slice A1 s1.length c1, .slice L1 l1.length d1]) (T := 26) (by (repeat (first | exact new_plain wnA | with_reducible refine old_alloc ?_ | with_reducible refine old_drew ?_ | with_reducible refine old_set ?_ wnA | with_reducible refine old_ab (by assumption) ?_)))
  clear hx
  have HCC := Lib.hid HC
  clear HC
  go_enter Try.func31, Try.ntmps31
  go_wp2_with fail
  refine (HG _ abA).mono ?_
  rintro e w2 ⟨r, rfl, hr, hb2⟩
  have ab2 : Ab w w2 := Ab.trans abA hb2
  have V2 := V0.ab hb2
  have q0 := V2.at 0 rfl
  have q1 := V2.at 1 rfl
  have q2 := V2.at 2 rfl
  have q3 := V2.at 3 rfl
  clear V0 V2 hb2 HG
  cases r with
  | true =>
    clear hr HF
    go_wp2
    go_ret
    exact ⟨false, rfl, (fun h => by cases h), ab2⟩
  | false =>
    have hf := Lib.hid (HF.out (hr.out rfl))
    clear hr HF
    go_wp2_with fail
    refine (HCC.out _ ab2 hf.out).mono ?_
    rintro e w3 ⟨rfl, hb3⟩
    by_cases hc : Codec.check v = 0
    · have hc' : (Codec.check v == 0) = true := by rw [beq_iff_eq]; exact hc
      have HC := Lib.hid hc
      clear hc
      go_wp2
      go_ret
      exact ⟨true, rfl, fun _ => ⟨HC.out, hf.out⟩, ab2.trans hb3⟩
    · have hc' : (Codec.check v == 0) = false := by rw [beq_eq_false_iff_ne]; exact hc
      clear hc
      go_wp2
      go_ret
      exact ⟨false, rfl, (fun h => by cases h), ab2.trans hb3⟩
def VStartsP (x y : List UInt8) (w : World) (e : Ending) (w' : World) : Prop := ∃ v : Bool, Hid (v = true ↔ y <+: x) ∧ e = .returned (.bool v) ∧ Ab w w'
theorem vstarts_any (A C : Option Addr) (ca cc : Nat) (x y : List UInt8) (w : World) (hx : RB w 0 A x) (hy : RB w 0 C y) (hca : x.length ≤ ca) (lx : x.length ≤ 1000000) (ly : y.length ≤ 1000000) :
    Calls Try.prog 32 #[.slice A x.length ca, .slice C y.length cc] w (VStartsP x y w) := by
  by_cases hl : y.length ≤ x.length
  · have h0 : (0 : Int) ≤ (y.length : Int) := by omega
    have h1 : (y.length : Int) ≤ (ca : Int) := by omega
    have hlt : (x.take y.length).length = y.length := by simp; omega
    have HE : Hid ((x.take y.length == y) = true ↔ y <+: x) := Lib.hid (by
      rw [beq_iff_eq, List.prefix_iff_eq_take]; exact eq_comm)
    have S0 : ∀ w', Ab w w' → Calls Try.prog 27 #[.slice A y.length ca, .slice C y.length cc] w' (fun e w'' => e = .returned (.bool (x.take y.length == y)) ∧ ∃ n, w'' = w'.drewN n) := fun w' h => by
      have := sameBytes_all A C ca cc (x.take y.length) y w' ((hx.ab h).take _) (hy.ab h) (by omega) (by omega)
      rw [hlt] at this
      exact this
    generalize (x.take y.length == y) = v at *
    clear hlt
    go_enter Try.func32, Try.ntmps32
    go_wp2_with fail
    refine (S0 _ abA).mono ?_
    rintro e w1 ⟨rfl, n1, rfl⟩
    go_wp2
    go_ret
    exact ⟨v, HE, rfl, abA⟩
  · have h1 : ¬ (y.length : Int) ≤ (x.length : Int) := by omega
    go_enter Try.func32, Try.ntmps32
    go_wp2
    go_ret
    exact ⟨false, Lib.hid ⟨fun h => (by cases h), fun h => absurd h.length_le hl⟩, rfl, abA⟩
theorem encode_ok {v : V} (h : Codec.check v = 0) : Codec.encode v = (Codec.enc 6 v, 0) := by unfold Codec.encode; rw [h]; rfl
theorem check_kinds {v : V} (h : Codec.check v = 0) : Codec.kinds 6 v = true ∧ (Codec.enc 6 v).length ≤ 3000 := by
  unfold Codec.check at h
  split at h
  · cases h
  · rename_i h1
    split at h
    · cases h
    · rename_i h2
      exact ⟨by simpa using h1, by omega⟩
/-- What decoding tells. -/
theorem decode_ok {t : List UInt8} (ht : t.length < 9223372036854775808) {v : V} (h : Codec.decode t = (v, 0)) : Codec.check v = 0 ∧ t = Codec.enc 6 v := by
  unfold Codec.decode at h
  split at h
  · cases h
  · rename_i h1
    have h2 := (Prod.mk.inj h).1
    have h3 : (Codec.next t).2.2 = 0 := Decidable.byContradiction fun h => h1 (.inl h)
    have h4 : (Codec.next t).2.1 = t.length := Decidable.byContradiction fun h => h1 (.inr h)
    obtain ⟨a1, a2, a3, a4⟩ := Codec.next_ok ht (show Codec.next t = ((Codec.next t).1, (Codec.next t).2.1, 0) by rw [← h3])
    rw [h2] at a1 a3 a4
    rw [h4] at a3
    refine ⟨a1, ?_⟩
    have h5 : t.drop (Codec.enc 6 v).length = [] := List.drop_eq_nil_of_le (by omega)
    rw [h5, List.append_nil] at a4
    exact a4
theorem decode_err {t : List UInt8} {v : V} {er : Int} (h : Codec.decode t = (v, er)) (h0 : er ≠ 0) : er = 12 := by
  unfold Codec.decode at h
  split at h
  · exact (Prod.mk.inj h).2.symm
  · exact absurd (Prod.mk.inj h).2.symm h0
end Go.Proofs.Ytllcdmohipcegaa
