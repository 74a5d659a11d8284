/- Plain mathematics of layer 7: elements read where they lie. No program is named. Own work. -/
import Derived.Test.YtllcdmohipcegaaCodec
set_option linter.unusedVariables false
namespace Go.Proofs.Ytllcdmohipcegaa
namespace Codec

theorem up : ∀ (d : Nat) (v : V), kinds d v = true → kinds (d + 1) v = true ∧ enc (d + 1) v = enc d v := by
  intro d
  induction d with
  | zero => intro v h; simp [kinds] at h
  | succ d ih =>
    intro v h
    rcases kinds_cases h with ⟨n, rfl⟩ | ⟨b, rfl⟩ | ⟨l, rfl, hl⟩
    · exact ⟨rfl, rfl⟩
    · exact ⟨rfl, rfl⟩
    · refine ⟨?_, ?_⟩
      · have : (l.all (kinds (d + 1))) = true := List.all_eq_true.2 fun x hx => (ih x (hl x hx)).1
        show (0 == (0 : Int) && ([] : List UInt8).length = 0 && l.all (kinds (d + 1)) : Bool) = true
        rw [this]; rfl
      · show 3 :: (code l.length ++ (l.map (enc (d + 1))).flatten) = 3 :: (code l.length ++ (l.map (enc d)).flatten)
        rw [List.map_congr_left fun x hx => (ih x (hl x hx)).2]
theorem wf_up : ∀ (d : Nat) (v : V), wf d v → wf (d + 1) v := by
  intro d
  induction d with
  | zero => intro v h; exact h.elim
  | succ d ih => intro v h; exact ⟨h.1, h.2.1, h.2.2.1, h.2.2.2.1, fun x hx => ih x (h.2.2.2.2 x hx)⟩
/-- An element, with anything behind it. -/
theorem next_elem {e : V} (hk : kinds 5 e = true) (hw : wf 5 e) (hl : (enc 5 e).length ≤ 3000) (t : List UInt8) : next (enc 5 e ++ t) = (e, ((enc 5 e).length : Int), 0) := by
  obtain ⟨h1, h2⟩ := up 5 e hk
  have hc : check e = 0 := by
    unfold check
    rw [h1, if_neg (by simp), h2, if_neg (by omega)]
  have := next_enc hc (wf_up 5 e hw) t
  rwa [h2] at this
/-- Where the elements of a short list begin, and what Next says there. -/
theorem list_at {n : Int} {b : List UInt8} {l : List V} {E : List UInt8} (hk : kinds 6 (.mk 3 n b l) = true) (hw : wf 6 (.mk 3 n b l)) (hs : l.length < 128) (he : E = enc 6 (.mk 3 n b l)) (hE : E.length ≤ 3000) :
    ∃ P : Nat → Nat, P 0 = 2 ∧ P l.length = E.length ∧ ∀ k (h : k < l.length), ∃ m : Nat, P k ≤ E.length ∧ P k + m ≤ E.length ∧ 1 ≤ m ∧ P (k + 1) = P k + m ∧ next (E.drop (P k)) = (l[k], (m : Int), 0) := by
  rcases kinds_cases hk with ⟨_, h⟩ | ⟨_, h⟩ | ⟨l', h, hl⟩
  · simp at h
  · simp at h
  · have hll : l = l' := by simp at h; exact h.2.2
    subst hll
    have e1 : E = 3 :: UInt8.ofNat l.length :: (l.map (enc 5)).flatten := by
      rw [he]
      show 3 :: (code l.length ++ (l.map (enc 5)).flatten) = _
      rw [code_small hs]; rfl
    refine ⟨fun k => 2 + (((l.take k).map (enc 5)).flatten).length, rfl, ?_, ?_⟩
    · simp only [List.take_length]
      rw [e1, List.length_cons, List.length_cons]; omega
    intro k h
    have e2 : (l.map (enc 5)).flatten = ((l.take k).map (enc 5)).flatten ++ (enc 5 l[k] ++ ((l.drop (k + 1)).map (enc 5)).flatten) := by
      conv => lhs; rw [← List.take_append_drop k l, List.map_append, List.flatten_append, List.drop_eq_getElem_cons h, List.map_cons, List.flatten_cons]
    have e3 : ((l.take (k + 1)).map (enc 5)).flatten = ((l.take k).map (enc 5)).flatten ++ enc 5 l[k] := by
      rw [List.take_succ_eq_append_getElem h, List.map_append, List.flatten_append]; simp
    have e4 : E.length = 2 + ((((l.take k).map (enc 5)).flatten).length + ((enc 5 l[k]).length + (((l.drop (k + 1)).map (enc 5)).flatten).length)) := by
      rw [e1, e2, List.length_cons, List.length_cons, List.length_append, List.length_append]; omega
    have hke := hl _ (List.getElem_mem h)
    have hwe := hw.2.2.2.2 _ (List.getElem_mem h)
    refine ⟨(enc 5 l[k]).length, by simp only []; omega, by simp only []; omega, enc_pos hke, ?_, ?_⟩
    · simp only []
      rw [e3, List.length_append]; omega
    · simp only []
      rw [e1, e2, show 2 + (((l.take k).map (enc 5)).flatten).length = ((((l.take k).map (enc 5)).flatten).length + 1) + 1 by omega, List.drop_succ_cons, List.drop_succ_cons, List.drop_left]
      exact next_elem hke hwe (by omega) _
end Codec
end Go.Proofs.Ytllcdmohipcegaa
