/- Size, Check, Encode, walked. Own work. -/
import Derived.Test.YtjgijpfknhfnjaaCvFunI
set_option linter.unusedVariables false
set_option linter.unusedSimpArgs false
namespace Go.Proofs.Ytjgijpfknhfnjaa
open Go.RowKit
open Codec (V)

/-- Not so great that its size is none. -/
def Fits (v : V) : Prop := Codec.kinds 6 v = true → (Codec.enc 6 v).length ≤ 1000000000
set_option maxRecDepth 100000 in
theorem size_any (D : Nat) (S : Nat → Prop) (x : VM) (w : World) (hx : VL D w S x) (hf : Fits x.v) :
    Calls Try.prog 60 #[x.val] w fun e w' => e = .returned (.tuple #[.int .i64 (Codec.size x.v).1, .int .i64 (Codec.size x.v).2]) ∧ Ab w w' := by
  obtain ⟨k1, n1, A1, s1, c1, L1, l1, d1⟩ := x
  have HI := fun w' (hk' : Ab w w') => (isValue_any 6 (by omega)).out ⟨k1, n1, A1, s1, c1, L1, l1, d1⟩ w' (hx.ab hk')
  unfold VM.val VM.cells at HI ⊢
  obtain ⟨v, hv⟩ : ∃ v, v = VM.v ⟨k1, n1, A1, s1, c1, L1, l1, d1⟩ := ⟨_, rfl⟩
  have HV := Lib.hid hv
  rw [← hv] at hf ⊢
  go_enter Try.func60, Try.ntmps60
  have V0 : VB (w.alloc (.cells #[.int .u8 (k1 : Int), .int .i64 n1, .slice A1 s1.length c1, .slice L1 l1.length d1] 58)) w.heap.size [.int .u8 (k1 : Int), .int .i64 n1, .slice A1 s1.length c1, .slice L1 l1.length d1] := VB.box (xs := #[.int .u8 (k1 : Int), .int .i64 n1, .slice A1 s1.length c1, .slice L1 l1.length d1]) (T := 58) (by (repeat (first | exact new_plain wnA | with_reducible refine old_alloc ?_ | with_reducible refine old_drew ?_ | with_reducible refine old_set ?_ wnA | with_reducible refine old_ab (by assumption) ?_)))
  clear hv
  go_wp2_with fail
  refine (HI _ abA).mono ?_
  rintro e w2 ⟨rfl, hb2⟩
  have ab2 : Ab w w2 := Ab.trans abA hb2
  have V2 := V0.ab hb2
  have q0 := V2.at 0 rfl
  have q1 := V2.at 1 rfl
  have q2 := V2.at 2 rfl
  have q3 := V2.at 3 rfl
  rw [← HV.out]
  clear V0 V2 hb2 HI
  rcases hkd : Codec.kinds 6 v with _ | _
  · have HS : Hid (Codec.size v = (0, 8)) := by unfold Hid Codec.size Codec.check; rw [hkd]; rfl
    clear hkd hf
    go_wp2
    go_ret2
    exact ⟨by rw [HS.out]; rfl, ab2⟩
  · have hle := hf hkd
    have HC := sizeOf_any 6 D S ⟨k1, n1, A1, s1, c1, L1, l1, d1⟩ w2 (hx.ab ab2) (by rw [← HV.out]; exact hkd) (by rw [← HV.out]; exact hle)
    rw [← HV.out] at HC
    unfold VM.val VM.cells at HC
    have HS : Hid (Codec.size v = if 3000 < (Codec.enc 6 v).length then (0, 4) else (((Codec.enc 6 v).length : Int), 0)) := by
      unfold Hid Codec.size Codec.check
      rw [hkd]
      by_cases h3 : 3000 < (Codec.enc 6 v).length
      · simp only [if_pos h3]; rfl
      · simp only [if_neg h3]; rfl
    generalize (Codec.enc 6 v).length = z at *
    clear hkd hf
    go_wp2_with fail
    refine HC.mono ?_
    rintro e w3 ⟨rfl, hb3⟩
    by_cases h3 : 3000 < z
    · have h3' : (3000 : Int) < (z : Int) := by omega
      have HS2 : Hid (Codec.size v = (0, 4)) := by unfold Hid; rw [HS.out, if_pos h3]
      clear h3
      go_wp2
      go_ret2
      exact ⟨by rw [HS2.out]; rfl, ab2.trans hb3⟩
    · have h3' : ¬ (3000 : Int) < (z : Int) := by omega
      have HS2 : Hid (Codec.size v = ((z : Int), 0)) := by unfold Hid; rw [HS.out, if_neg h3]
      clear h3
      go_wp2
      go_ret2
      exact ⟨by rw [HS2.out]; rfl, ab2.trans hb3⟩
theorem size_check (v : V) : (Codec.size v).2 = Codec.check v := by
  unfold Codec.size
  split
  · rfl
  · rename_i h
    simp at h
    exact h.symm
set_option maxRecDepth 100000 in
theorem check_any (D : Nat) (S : Nat → Prop) (x : VM) (w : World) (hx : VL D w S x) (hf : Fits x.v) :
    Calls Try.prog 48 #[x.val] w fun e w' => e = .returned (.int .i64 (Codec.check x.v)) ∧ Ab w w' := by
  obtain ⟨k1, n1, A1, s1, c1, L1, l1, d1⟩ := x
  have HI := fun w' (hk' : Ab w w') => size_any D S ⟨k1, n1, A1, s1, c1, L1, l1, d1⟩ w' (hx.ab hk') hf
  rw [size_check] at HI
  unfold VM.val VM.cells at HI ⊢
  generalize VM.v ⟨k1, n1, A1, s1, c1, L1, l1, d1⟩ = v at *
  generalize Codec.check v = ck at *
  generalize (Codec.size v).1 = z at *
  go_enter Try.func48, Try.ntmps48
  go_wp2_with fail
  refine (HI _ abA).mono ?_
  rintro e w2 ⟨rfl, hb2⟩
  go_wp2
  go_ret
  exact ⟨rfl, Ab.trans abA hb2⟩
/-- What Encode returns. -/
def RetEn (w : World) (v : V) (e : Ending) (w' : World) : Prop := ∃ (A : Option Addr) (c : Nat) (L : List UInt8) (er : Int), e = .returned (.tuple #[.slice A L.length c, .int .i64 er]) ∧ Hid (Codec.encode v = (L, er)) ∧ OR 5 w.heap.size w' A c L ∧ Ab w w'
set_option maxRecDepth 100000 in
theorem encode_any (D : Nat) (S : Nat → Prop) (x : VM) (w : World) (hx : VL D w S x) (hf : Fits x.v) :
    Calls Try.prog 29 #[x.val] w (RetEn w x.v) := by
  obtain ⟨k1, n1, A1, s1, c1, L1, l1, d1⟩ := x
  have HI := fun w' (hk' : Ab w w') => check_any D S ⟨k1, n1, A1, s1, c1, L1, l1, d1⟩ w' (hx.ab hk') hf
  unfold VM.val VM.cells at HI ⊢
  obtain ⟨v, hv⟩ : ∃ v, v = VM.v ⟨k1, n1, A1, s1, c1, L1, l1, d1⟩ := ⟨_, rfl⟩
  have HV := Lib.hid hv
  rw [← hv] at hf HI ⊢
  clear hv
  have V0 : VB (w.alloc (.cells #[.int .u8 (k1 : Int), .int .i64 n1, .slice A1 s1.length c1, .slice L1 l1.length d1] 58)) w.heap.size [.int .u8 (k1 : Int), .int .i64 n1, .slice A1 s1.length c1, .slice L1 l1.length d1] := VB.box (xs := #[.int .u8 (k1 : Int), .int .i64 n1, .slice A1 s1.length c1, .slice L1 l1.length d1]) (T := 58) (by (repeat (first | exact new_plain wnA | with_reducible refine old_alloc ?_ | with_reducible refine old_drew ?_ | with_reducible refine old_set ?_ wnA | with_reducible refine old_ab (by assumption) ?_)))
  go_enter Try.func29, Try.ntmps29
  go_wp2_with fail
  refine (HI _ abA).mono ?_
  rintro e w2 ⟨rfl, hb2⟩
  have ab2 : Ab w w2 := Ab.trans abA hb2
  have V2 := V0.ab hb2
  have q0 := V2.at 0 rfl
  have q1 := V2.at 1 rfl
  have q2 := V2.at 2 rfl
  have q3 := V2.at 3 rfl
  clear V0 V2 hb2 HI
  by_cases hc : Codec.check v = 0
  · have HE : Hid (Codec.encode v = (Codec.enc 6 v, 0)) := by unfold Hid Codec.encode; rw [hc]; rfl
    have hkd : Codec.kinds 6 v = true := by
      rcases h : Codec.kinds 6 v with _ | _
      · unfold Codec.check at hc; rw [h] at hc; cases hc
      · rfl
    have hs2 := ab2.size
    have HC := (appendValue_any 6).out (lo := w2.heap.size) none [] 0 ⟨k1, n1, A1, s1, c1, L1, l1, d1⟩ w2 (hx.ab ab2).lt (fun g h => h.2) (by rw [← HV.out]; exact hkd) OR.none_ (Nat.le_refl _) (by rw [← HV.out]; have := hf hkd; simp; omega)
    rw [← HV.out] at HC
    unfold VM.val VM.cells at HC
    rw [hc]
    clear hf hkd hc
    go_wp2_with fail
    refine HC.mono ?_
    rintro e w3 ⟨A4, c4, L4, rfl, hL4, P4⟩
    go_wp2
    go_ret2
    refine ⟨A4, c4, L4, 0, rfl, Lib.hid (by rw [HE.out, hL4.out]; rfl), P4.o.mono hs2, ab2.trans (grown_ab (Ab.refl _) P4.g (fun g e => by cases e))⟩
  · have HE : Hid (Codec.encode v = ([], Codec.check v)) := by unfold Hid Codec.encode; rw [if_pos hc]
    have hc' : (Codec.check v != 0) = true := by rw [bne_iff_ne]; exact hc
    clear hc hf
    go_wp2
    go_ret2
    exact ⟨none, 0, [], Codec.check v, rfl, HE, OR.none_, ab2⟩
end Go.Proofs.Ytjgijpfknhfnjaa
