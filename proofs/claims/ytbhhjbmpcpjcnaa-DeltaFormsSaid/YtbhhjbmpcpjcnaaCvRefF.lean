/- The reference of the codec: Check; values that are not great, walked. Own work. -/
import Derived.Test.YtbhhjbmpcpjcnaaCvRefE
import Derived.Test.YtbhhjbmpcpjcnaaCodecG
set_option linter.unusedVariables false
set_option linter.unusedSimpArgs false
namespace Go.Proofs.Ytbhhjbmpcpjcnaa
open Go.RowKit
open Codec (V)

theorem VL.wf : ∀ {d : Nat} {w : World} {S : Nat → Prop} {x : VM}, VL d w S x → Codec.wf d x.v := by
  intro d
  induction d with
  | zero => intro w S x h; exact h.elim
  | succ d ih =>
    intro w S x h
    refine ⟨h.1.2.1, h.1.2.2.1, by show x.b.length < _; have := h.1.2.2.2.2.1; omega, by show x.l.length < _; have := h.1.2.2.2.2.2.2; omega, fun e he => ?_⟩
    obtain ⟨i, hi, rfl⟩ := List.mem_iff_getElem.1 he
    obtain ⟨g, o, _, _, h3⟩ := h.2.2 (by show 0 < x.l.length; have : i < x.l.length := hi; omega)
    obtain ⟨y, y1, _, y3⟩ := h3 i hi
    have := ih y3
    rw [y1] at this
    exact this
theorem wf_kinds : ∀ (d e : Nat) (v : V), Codec.kinds d v = true → Codec.wf e v → Codec.wf d v := by
  intro d
  induction d with
  | zero => intro e v h; simp [Codec.kinds] at h
  | succ d ih =>
    intro e v hk hw
    cases e with
    | zero => exact hw.elim
    | succ e =>
      refine ⟨hw.1, hw.2.1, hw.2.2.1, hw.2.2.2.1, fun x hx => ?_⟩
      rcases Codec.kinds_cases hk with ⟨n, rfl⟩ | ⟨b, rfl⟩ | ⟨l, rfl, hl⟩
      · simp [V.l] at hx
      · simp [V.l] at hx
      · exact ih e x (hl x hx) (hw.2.2.2.2 x hx)
/-- A value that is not great has a size. -/
theorem fits_of {D : Nat} {w : World} {S : Nat → Prop} {x : VM} (hx : VL D w S x) (h : Codec.tot 20 x.v ≤ 2000 ∧ Codec.wok 21 x.v) : Fits x.v := by
  intro hk
  have := Codec.enc_tot 6 21 20 x.v hk (wf_kinds 6 D _ hk hx.wf) h.2 (by omega) (by omega)
  omega
set_option maxRecDepth 100000 in
theorem rcheck_any (D : Nat) (S : Nat → Prop) (x : VM) (w : World) (hx : VL D w S x) (hf : Fits x.v) :
    Calls Try.prog 57 #[x.val] w fun e w' => e = .returned (.int .i64 (Codec.check x.v)) ∧ Ab w w' := by
  obtain ⟨k1, n1, A1, s1, c1, L1, l1, d1⟩ := x
  have HI := fun w' (hk' : Ab w w') => (rkinds_any 6 (by omega)).out ⟨k1, n1, A1, s1, c1, L1, l1, d1⟩ w' (hx.ab hk')
  unfold VM.val VM.cells at HI ⊢
  obtain ⟨v, hv⟩ : ∃ v, v = VM.v ⟨k1, n1, A1, s1, c1, L1, l1, d1⟩ := ⟨_, rfl⟩
  have HV := Lib.hid hv
  rw [← hv] at hf ⊢
  go_enter Try.func57, Try.ntmps57
  have V0 : VB (w.alloc (.cells #[.int .u8 (k1 : Int), .int .i64 n1, .slice A1 s1.length c1, .slice L1 l1.length d1] 58)) w.heap.size [.int .u8 (k1 : Int), .int .i64 n1, .slice A1 s1.length c1, .slice L1 l1.length d1] := VB.box (xs := #[.int .u8 (k1 : Int), .int .i64 n1, .slice A1 s1.length c1, .slice L1 l1.length d1]) (T := 58) (by (repeat (first | exact new_plain wnA | with_reducible refine old_alloc ?_ | with_reducible refine old_drew ?_ | with_reducible refine old_set ?_ wnA | with_reducible refine old_ab (by assumption) ?_)))
  clear hv
  go_wp2_with fail
  refine (HI _ abA).mono ?_
  rintro e w2 ⟨rfl, hb2⟩
  have ab2 : Ab w w2 := Ab.trans abA hb2
  have V2 := V0.ab hb2
  have q0 := V2.at 0 rfl
  have q1 := V2.at 1 rfl
  have q2 := V2.at 2 rfl
  have q3 := V2.at 3 rfl
  rw [← HV.out]
  clear V0 V2 hb2 HI
  rcases hkd : Codec.kinds 6 v with _ | _
  · have HS : Hid (Codec.check v = 8) := by unfold Hid Codec.check; rw [hkd]; rfl
    clear hkd hf
    go_wp2
    go_ret
    exact ⟨by rw [HS.out]; rfl, ab2⟩
  · have hle := hf hkd
    have HC := rbytes_any 6 D S ⟨k1, n1, A1, s1, c1, L1, l1, d1⟩ w2 (hx.ab ab2) (by rw [← HV.out]; exact hkd) (by rw [← HV.out]; exact hle)
    rw [← HV.out] at HC
    unfold VM.val VM.cells at HC
    have HS : Hid (Codec.check v = if 3000 < (Codec.enc 6 v).length then 4 else 0) := by unfold Hid Codec.check; rw [hkd, if_neg (by simp)]
    generalize Codec.enc 6 v = z at *
    clear hkd hf
    go_wp2_with fail
    refine HC.mono ?_
    rintro e w3 ⟨A3, c3, L3, rfl, hL3, O3, hb3⟩
    have hzl := hL3.out.1.length_le
    by_cases h3 : 3000 < L3.length
    · have h3' : (3000 : Int) < (L3.length : Int) := by omega
      have HS2 : Hid (Codec.check v = 4) := by unfold Hid; rw [HS.out, if_pos (by omega)]
      clear h3
      go_wp2
      go_ret
      exact ⟨by rw [HS2.out]; rfl, ab2.trans hb3⟩
    · have h3' : ¬ (3000 : Int) < (L3.length : Int) := by omega
      have HS2 : Hid (Codec.check v = 0) := by
        unfold Hid
        rcases hL3.out.2 with h | h
        · rw [HS.out, if_neg (by rw [← h]; exact h3)]
        · exact absurd h h3
      clear h3
      go_wp2
      go_ret
      exact ⟨by rw [HS2.out]; rfl, ab2.trans hb3⟩
/-- What wide returns. -/
def RetWd (d : Nat) (w : World) (v : V) (e : Ending) (w' : World) : Prop := ∃ r, e = .returned (.bool r) ∧ Hid (r = false → Codec.wok d v) ∧ Ab w w'
/-- What Great returns. -/
def RetGr (w : World) (v : V) (e : Ending) (w' : World) : Prop := ∃ r, e = .returned (.bool r) ∧ Hid (r = false → Codec.tot 20 v ≤ 2000 ∧ Codec.wok 21 v) ∧ Ab w w'
end Go.Proofs.Ytbhhjbmpcpjcnaa
