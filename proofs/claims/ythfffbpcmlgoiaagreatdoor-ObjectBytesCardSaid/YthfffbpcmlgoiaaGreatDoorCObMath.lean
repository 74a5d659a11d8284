/- Valid objects have small bytes. Own work. -/
import Derived.Test.YthfffbpcmlgoiaaGreatDoorCObVal3
set_option linter.unusedVariables false
set_option linter.unusedSimpArgs false
namespace Go.Proofs.YthfffbpcmlgoiaaGreatDoor
open Go.RowKit
open Codec (V)

theorem code3_le {n : Nat} (h : n < 2097152) : (Codec.code n).length ≤ 3 := by
  by_cases h1 : n < 128
  · rw [Codec.code_small h1]; simp
  · rw [Codec.code_big h1]
    by_cases h2 : n / 128 < 128
    · rw [Codec.code_small h2]; simp
    · rw [Codec.code_big h2, Codec.code_small (by omega)]; simp
theorem kinds_N (d : Nat) (n : Int) : Codec.kinds (d + 1) (Obj.N n) = true := rfl
theorem kinds_B (d : Nat) (l : List UInt8) : Codec.kinds (d + 1) (Obj.B l) = true := rfl
theorem kinds_L (d : Nat) (vs : List V) (h : ∀ v ∈ vs, Codec.kinds d v = true) : Codec.kinds (d + 1) (Obj.L vs) = true := by
  show ((0 : Int) == 0 && decide (([] : List UInt8).length = 0) && vs.all (Codec.kinds d)) = true
  simpa using h
theorem enc_N (d : Nat) (n : Int) (h : Codec.fold n < 2097152) : (Codec.enc (d + 1) (Obj.N n)).length ≤ 4 := by
  show (1 :: Codec.code (Codec.fold n)).length ≤ 4
  have := code3_le h
  simp; omega
theorem enc_B (d : Nat) (l : List UInt8) (h : l.length < 2097152) : (Codec.enc (d + 1) (Obj.B l)).length ≤ l.length + 4 := by
  show (2 :: (Codec.code l.length ++ l)).length ≤ _
  have := code3_le h
  simp; omega
theorem flat_le {α : Type _} (f : α → List UInt8) (m : Nat) : ∀ l : List α, (∀ x ∈ l, (f x).length ≤ m) → (l.map f).flatten.length ≤ m * l.length
  | [], _ => by simp
  | x :: l, h => by
    have h1 := h x (by simp)
    have h2 := flat_le f m l fun y hy => h y (by simp [hy])
    simp only [List.map_cons, List.flatten_cons, List.length_append, List.length_cons]
    rw [Nat.mul_succ]
    omega
theorem enc_L (d : Nat) (vs : List V) (m : Nat) (hn : vs.length < 2097152) (h : ∀ v ∈ vs, (Codec.enc d v).length ≤ m) : (Codec.enc (d + 1) (Obj.L vs)).length ≤ m * vs.length + 4 := by
  have h1 := code3_le hn
  have h2 := flat_le (Codec.enc d) m vs h
  have e : Codec.enc (d + 1) (Obj.L vs) = 3 :: (Codec.code vs.length ++ (vs.map (Codec.enc d)).flatten) := rfl
  rw [e]
  simp only [List.length_cons, List.length_append]
  omega
theorem L_len (d : Nat) (vs : List V) (n : Nat) (hn : vs.length < 2097152) (h : ((vs.map (Codec.enc d)).flatten).length ≤ n) : (Codec.enc (d + 1) (Obj.L vs)).length ≤ n + 4 := by
  have h1 := code3_le hn
  have e : Codec.enc (d + 1) (Obj.L vs) = 3 :: (Codec.code vs.length ++ (vs.map (Codec.enc d)).flatten) := rfl
  rw [e]
  simp only [List.length_cons, List.length_append]
  omega
theorem path_60 {l : List UInt8} (h : Obj.path l = true) : l.length ≤ 60 := by
  unfold Obj.path at h
  simp at h
  exact h.1
theorem ents_path (es : List EM) (h : Obj.ents es es.length = true) : ∀ e ∈ es, e.p.data.toList.length ≤ 60 := by
  intro e he
  obtain ⟨i, hi, rfl⟩ := List.getElem_of_mem he
  have := List.all_eq_true.1 h i (List.mem_range.2 hi)
  unfold Obj.ent at this
  rw [List.getD_eq_getElem?_getD, List.getElem?_eq_getElem hi] at this
  simp only [Option.getD_some, Bool.and_eq_true] at this
  exact path_60 this.1
theorem check_of {v : V} (h : Codec.kinds 6 v = true) (h2 : (Codec.enc 6 v).length ≤ 3000) : Codec.check v = 0 := by
  unfold Codec.check
  rw [h, if_neg (by simp), if_neg (by omega)]
theorem fold_lt {n : Int} (h : 0 ≤ n) (h2 : n ≤ 1000000) : Codec.fold n < 2097152 := by
  unfold Codec.fold
  rw [if_pos h]
  omega
/-- The kinds of a valid object. -/
theorem ok_kind {o : OM} (h : o.ok = true) : o.k = 1 ∨ o.k = 2 ∨ o.k = 3 := by
  unfold OM.ok at h
  split at h
  · exact .inl ‹_›
  · split at h
    · exact .inr (.inl ‹_›)
    · split at h
      · exact .inr (.inr ‹_›)
      · cases h
theorem ok_check (o : OM) (h : o.ok = true) (hl : ∀ e ∈ o.es, e.b.length = 32) (hp : ∀ p ∈ o.m.ps, p.length = 32) (ht : o.m.t.length = 32) : Codec.check o.v = 0 := by
  obtain ⟨k, A, t, c, E, es, d, m⟩ := o
  simp only at hl hp ht
  rcases ok_kind h with hk | hk | hk <;> simp only at hk <;> subst hk
  · have ht' : t.length ≤ 2000 := by
      simp [OM.ok, Obj.text] at h; omega
    show Codec.check (Obj.L [Obj.N 1, Obj.B t]) = 0
    refine check_of (kinds_L 5 _ fun v hv => ?_) (Nat.le_trans (L_len 5 _ (4 + (2000 + 4)) (by simp) ?_) (by omega))
    · simp at hv
      rcases hv with rfl | rfl
      · exact kinds_N _ _
      · exact kinds_B _ _
    · have h1 : (Codec.enc 5 (Obj.N 1)).length ≤ 4 := enc_N 4 1 (fold_lt (by omega) (by omega))
      have h2 : (Codec.enc 5 (Obj.B t)).length ≤ t.length + 4 := enc_B 4 t (by omega)
      simp only [List.map_cons, List.map_nil, List.flatten_cons, List.flatten_nil, List.length_append, List.length_nil]
      omega
  · have hok : es.length ≤ 12 ∧ Obj.ents es es.length = true := by
      simp [OM.ok, Obj.tree] at h; exact ⟨h.1.2.1, h.1.2.2⟩
    have hp60 := ents_path es hok.2
    show Codec.check (Obj.L [Obj.N 2, Obj.L (es.map EM.v)]) = 0
    have hent : ∀ e ∈ es, (Codec.enc 4 (EM.v e)).length ≤ 104 := fun e he => by
      have h1 : (Codec.enc 3 (Obj.B e.p.data.toList)).length ≤ e.p.data.toList.length + 4 := enc_B 2 e.p.data.toList (by have := hp60 e he; omega)
      have h2 : (Codec.enc 3 (Obj.B e.b)).length ≤ e.b.length + 4 := enc_B 2 e.b (by have := hl e he; omega)
      refine Nat.le_trans (L_len 3 _ (64 + 36) (by simp) ?_) (by omega)
      have h3 := hp60 e he
      have h4 := hl e he
      simp only [List.map_cons, List.map_nil, List.flatten_cons, List.flatten_nil, List.length_append, List.length_nil]
      omega
    refine check_of (kinds_L 5 _ fun v hv => ?_) (Nat.le_trans (L_len 5 _ (4 + (104 * 12 + 4)) (by simp) ?_) (by omega))
    · simp at hv
      rcases hv with rfl | rfl
      · exact kinds_N _ _
      · refine kinds_L 4 _ fun v hv => ?_
        obtain ⟨e, he, rfl⟩ := List.mem_map.1 hv
        refine kinds_L 3 _ fun v hv => ?_
        simp at hv
        rcases hv with rfl | rfl <;> exact kinds_B _ _
    · have h1 : (Codec.enc 5 (Obj.N 2)).length ≤ 4 := enc_N 4 2 (fold_lt (by omega) (by omega))
      have h2 : (Codec.enc 5 (Obj.L (es.map EM.v))).length ≤ 104 * 12 + 4 := L_len 4 (es.map EM.v) (104 * 12) (by simp; omega) (by
        rw [List.map_map]
        refine Nat.le_trans (flat_le _ 104 es fun e he => hent e he) ?_
        exact Nat.mul_le_mul_left _ hok.1)
      simp only [List.map_cons, List.map_nil, List.flatten_cons, List.flatten_nil, List.length_append, List.length_nil]
      omega
  · have hok : m.ps.length ≤ 2 ∧ m.note.size ≤ 200 ∧ 0 ≤ m.tick ∧ m.tick ≤ 1000000 := by
      simp [OM.ok, CM.ok] at h
      exact ⟨h.2.1.1.1.1, h.2.1.1.2, h.2.1.2, h.2.2⟩
    have hno : m.note.data.toList.length ≤ 200 := by have := hok.2.1; simpa using this
    show Codec.check (Obj.L [Obj.N 3, Obj.B m.t, Obj.L (m.ps.map Obj.B), Obj.B m.note.data.toList, Obj.N m.tick]) = 0
    refine check_of (kinds_L 5 _ fun v hv => ?_) (Nat.le_trans (L_len 5 _ 500 (by simp) ?_) (by omega))
    · simp at hv
      rcases hv with rfl | rfl | rfl | rfl | rfl
      · exact kinds_N _ _
      · exact kinds_B _ _
      · refine kinds_L 4 _ fun v hv => ?_
        obtain ⟨e, he, rfl⟩ := List.mem_map.1 hv
        exact kinds_B _ _
      · exact kinds_B _ _
      · exact kinds_N _ _
    · have h1 : (Codec.enc 5 (Obj.N 3)).length ≤ 4 := enc_N 4 3 (fold_lt (by omega) (by omega))
      have h2 : (Codec.enc 5 (Obj.B m.t)).length ≤ m.t.length + 4 := enc_B 4 m.t (by omega)
      have h3 : (Codec.enc 5 (Obj.L (m.ps.map Obj.B))).length ≤ 36 * 2 + 4 := L_len 4 (m.ps.map Obj.B) (36 * 2) (by simp; omega) (by
        rw [List.map_map]
        refine Nat.le_trans (flat_le _ 36 m.ps fun e he => ?_) ?_
        · have h4 := enc_B 3 e (by have := hp e he; omega)
          have h5 := hp e he
          exact Nat.le_trans h4 (by omega)
        · exact Nat.mul_le_mul_left _ hok.1)
      have h4 : (Codec.enc 5 (Obj.B m.note.data.toList)).length ≤ m.note.data.toList.length + 4 := enc_B 4 m.note.data.toList (by omega)
      have h5 : (Codec.enc 5 (Obj.N m.tick)).length ≤ 4 := enc_N 4 m.tick (fold_lt hok.2.2.1 hok.2.2.2)
      simp only [List.map_cons, List.map_nil, List.flatten_cons, List.flatten_nil, List.length_append, List.length_nil]
      omega
/-- The bytes of a valid object. -/
def OM.enc (o : OM) : List UInt8 := Codec.enc 6 o.v
theorem ok_encode (o : OM) (h : o.ok = true) (hl : ∀ e ∈ o.es, e.b.length = 32) (hp : ∀ p ∈ o.m.ps, p.length = 32) (ht : o.m.t.length = 32) : Codec.encode o.v = (o.enc, 0) := by
  unfold Codec.encode
  rw [ok_check o h hl hp ht, if_neg (by simp)]
  rfl
theorem ok_len (o : OM) (h : o.ok = true) (hl : ∀ e ∈ o.es, e.b.length = 32) (hp : ∀ p ∈ o.m.ps, p.length = 32) (ht : o.m.t.length = 32) : o.enc.length ≤ 3000 := by
  have h1 := ok_check o h hl hp ht
  unfold Codec.check at h1
  split at h1
  · cases h1
  · split at h1
    · cases h1
    · have : (Codec.enc 6 o.v).length ≤ 3000 := by omega
      exact this
theorem valueOf_any (o : OM) (w : World) (h : OL w o) (hok : o.ok = true) : Calls Tryz.prog 50 #[.agg o.cells.toArray] w (RetVal w o.v) := by
  obtain ⟨k, A, t, c, E, es, d, m⟩ := o
  rcases ok_kind hok with hk | hk | hk <;> simp only at hk <;> subst hk
  · exact valueOf_1 A t c E es d m w h
  · exact valueOf_2 A t c E es d m w (by simp [OM.ok, Obj.tree] at hok; exact hok.1.2.1) h
  · exact valueOf_3 A t c E es d m w (by simp [OM.ok, CM.ok] at hok; exact hok.2.1.1.1.1) h
end Go.Proofs.YthfffbpcmlgoiaaGreatDoor
