/- FrameScans, walked. Own work. -/
import Derived.Test.YtehagdpcegpbjaaFrRefE
import Derived.Test.YtehagdpcegpbjaaFrRefF
set_option linter.unusedVariables false
set_option linter.unusedSimpArgs false
namespace Go.Proofs.Ytehagdpcegpbjaa
open Go.RowKit

theorem Recs.grown {w w' : World} {lo : Nat} {A : Option Addr} {xs : List RecM} {row : Option Nat} (h : Recs w lo A xs) (hg : w.grownBy w' row) (hne : ∀ g, row = some g → g < lo) : Recs w' lo A xs :=
  h.block fun g h1 h2 => hg.block g h2 (fun e => by have := hne g e.symm; omega)
theorem u8_xor_form (a b : UInt8) : bits .xor .u8 (a.toNat : Int) (b.toNat : Int) = ((a ^^^ b).toNat : Int) := by
  have ha := a.toNat_lt; have hb := b.toNat_lt
  have h : a.toNat ^^^ b.toNat < 2 ^ 8 := Nat.xor_lt_two_pow ha hb
  show IntKind.u8.wrap ((BitVec.ofInt 8 (a.toNat : Int) ^^^ BitVec.ofInt 8 (b.toNat : Int)).toNat : Int) = _
  rw [BitVec.toNat_xor, BitVec.ofInt_natCast, BitVec.ofInt_natCast, BitVec.toNat_ofNat, BitVec.toNat_ofNat, Nat.mod_eq_of_lt (by omega), Nat.mod_eq_of_lt (by omega), UInt8.toNat_xor]
  simp [IntKind.wrap, IntKind.bits, IntKind.signed]; omega
theorem u8_xorc (a : UInt8) : bits .xor .u8 (a.toNat : Int) 255 = ((a ^^^ 255).toNat : Int) := u8_xor_form a 255
theorem longB_false {n : Nat} (h : longB n = false) : n ≤ 21000 := by unfold longB at h; simp at h; omega

theorem recs_small {b : List UInt8} {xs : List RecM} {u er : Int} (h : ScanE b (recs xs) u er) : ∀ i (hi : i < xs.length), xs[i].b.length ≤ 140737488351232 := by
  intro i hi
  have key : Frame.Foll (recs xs) := by
    rcases h with ⟨_, h0, _⟩ | ⟨_, _, n, _, hs⟩
    · rw [h0]; exact Frame.foll_nil
    · exact hs.1
  have := (key i (by rw [recs_length]; exact hi)).1
  rw [recs_get xs i hi] at this
  have h2 : xs[i].b.length ≤ 1000 := this.2.2
  omega
theorem scan_count {b : List UInt8} {xs : List RecM} {u er : Int} (h : ScanE b (recs xs) u er) : xs.length ≤ b.length := by
  rcases h with ⟨_, h0, _⟩ | ⟨_, _, n, _, hs⟩
  · have := congrArg List.length h0
    rw [recs_length] at this; simp at this; subst this; simp
  · have h1 := hs.2.2.1.length_le
    have h2 : ∀ l : List Frame.Rec, l.length ≤ (Frame.all l).length := by
      intro l
      induction l with
      | nil => simp
      | cons r l ih => rw [Frame.all_cons, List.length_append, Frame.enc_length, List.length_cons]; omega
    have h3 := h2 (recs xs)
    rw [recs_length] at h3
    omega

end Go.Proofs.Ytehagdpcegpbjaa
