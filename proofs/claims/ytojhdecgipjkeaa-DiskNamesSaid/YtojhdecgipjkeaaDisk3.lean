/- Scripts of layer 1: validity is kept; a script in parts. Own work. -/
import Derived.Test.YtojhdecgipjkeaaDisk2
namespace Go.Proofs.Ytojhdecgipjkeaa
namespace Disk

theorem not_bad {s t : List UInt8} {cap : Int} {dn : Bool} : ¬ bad ⟨s, t, cap, dn⟩ ↔ (0 ≤ cap ∧ cap ≤ 20000 ∧ (s.length : Int) + t.length ≤ cap ∧ (dn = true → t.length = 0)) := by
  rw [bad_iff]; simp only [not_or, not_and]
  constructor
  · rintro ⟨h1, h2, h3, h4⟩; exact ⟨by omega, by omega, by omega, fun h => by have := h4 h; omega⟩
  · rintro ⟨h1, h2, h3, h4⟩; exact ⟨by omega, by omega, by omega, fun h => by have := h4 h; omega⟩
theorem append_ok {d : Dev} {b : List UInt8} (h : ¬ bad d) (he : (append d b).2 = 0) : ¬ bad (append d b).1 := by
  obtain ⟨s, t, cap, dn⟩ := d
  unfold append at he ⊢; split at he
  · exact absurd he ‹_›
  · rename_i hu; simp only [hu, if_false] at he ⊢
    split at he
    · cases he
    · rename_i hf
      rw [if_neg hf]
      obtain ⟨_, hdn⟩ := up_zero (Decidable.not_not.1 hu)
      have hdn' : dn = false := hdn
      subst hdn'
      rw [not_bad] at h ⊢
      simp only [Dev.size] at hf
      simp only [List.length_append]
      exact ⟨h.1, h.2.1, by omega, by simp⟩
theorem sync_ok {d : Dev} (h : ¬ bad d) (he : (sync d).2 = 0) : ¬ bad (sync d).1 := by
  obtain ⟨s, t, cap, dn⟩ := d
  unfold sync at he ⊢; split at he
  · exact absurd he ‹_›
  · rename_i hu; simp only [hu, if_false]
    rw [not_bad] at h ⊢
    simp only [List.length_append, List.length_nil]
    exact ⟨h.1, h.2.1, by omega, fun _ => trivial⟩
theorem truncate_ok {d : Dev} {n : Int} (h : ¬ bad d) (he : (truncate d n).2 = 0) : ¬ bad (truncate d n).1 := by
  obtain ⟨s, t, cap, dn⟩ := d
  unfold truncate at he ⊢; split at he
  · exact absurd he ‹_›
  · rename_i hu; simp only [hu, if_false] at he ⊢
    split at he
    · cases he
    · rename_i hf
      rw [if_neg hf]
      rw [not_bad] at h ⊢
      simp only [List.length_take]
      exact ⟨h.1, h.2.1, by omega, fun hd => by have := h.2.2.2 hd; omega⟩
theorem drop_ok {d : Dev} {n : Int} (h : ¬ bad d) (he : (drop d n).2 = 0) : ¬ bad (drop d n).1 := by
  obtain ⟨s, t, cap, dn⟩ := d
  unfold drop at he ⊢; split at he
  · exact absurd he ‹_›
  · rename_i hu; simp only [hu, if_false] at he ⊢
    split at he
    · cases he
    · rename_i hf
      rw [if_neg hf]
      rw [not_bad] at h ⊢
      simp only [List.length_drop]
      exact ⟨h.1, h.2.1, by omega, h.2.2.2⟩
theorem crash_ok {d : Dev} {n : Int} (h : ¬ bad d) (he : (crash d n).2 = 0) : ¬ bad (crash d n).1 := by
  obtain ⟨s, t, cap, dn⟩ := d
  unfold crash at he ⊢; split at he
  · exact absurd he ‹_›
  · rename_i hu; simp only [hu, if_false] at he ⊢
    split at he
    · cases he
    · rename_i hf
      rw [if_neg hf]
      rw [not_bad] at h ⊢
      simp only [List.length_append, List.length_take, List.length_nil]
      exact ⟨h.1, h.2.1, by omega, fun _ => trivial⟩
theorem start_ok {d : Dev} (h : ¬ bad d) (he : (start d).2 = 0) : ¬ bad (start d).1 := by
  obtain ⟨s, t, cap, dn⟩ := d
  unfold start at he ⊢; rw [if_neg h] at he ⊢; split at he
  · cases he
  · rename_i hf
    rw [if_neg hf]
    rw [not_bad] at h ⊢
    simp only [List.length_nil]
    exact ⟨h.1, h.2.1, by omega, by simp⟩
theorem step_cases (d : Dev) (o : Op) (P : Dev × Int → Prop) (h0 : P (zero, 2)) (h1 : P (append d o.data)) (h2 : P (sync d)) (h3 : P (truncate d o.n)) (h4 : P (drop d o.n)) (h5 : P (crash d o.n)) (h6 : P (start d)) : P (step d o) := by
  unfold step
  by_cases k0 : ¬ o.ok
  · rw [if_pos k0]; exact h0
  rw [if_neg k0]
  by_cases k1 : o.kind = 1
  · rw [if_pos k1]; exact h1
  rw [if_neg k1]
  by_cases k2 : o.kind = 2
  · rw [if_pos k2]; exact h2
  rw [if_neg k2]
  by_cases k3 : o.kind = 3
  · rw [if_pos k3]; exact h3
  rw [if_neg k3]
  by_cases k4 : o.kind = 4
  · rw [if_pos k4]; exact h4
  rw [if_neg k4]
  by_cases k5 : o.kind = 5
  · rw [if_pos k5]; exact h5
  rw [if_neg k5]; exact h6
theorem step_ok {d : Dev} {o : Op} (h : ¬ bad d) : (step d o).2 = 0 → ¬ bad (step d o).1 :=
  step_cases d o (fun r => r.2 = 0 → ¬ bad r.1) (fun e => by cases e) (append_ok h) (sync_ok h) (truncate_ok h) (drop_ok h) (crash_ok h) (start_ok h)
theorem ok_len {s t : List UInt8} {cap : Int} {dn : Bool} (h : ¬ bad ⟨s, t, cap, dn⟩) : s.length ≤ 20000 ∧ t.length ≤ 20000 := by
  rw [not_bad] at h; omega
theorem run_ok {d : Dev} {l : List Op} (h : ¬ bad d) (hl : l.length ≤ 200) : run d l = steps d 0 l := by
  unfold run; rw [if_neg h, if_neg (by omega)]
theorem steps_cons {d : Dev} {i : Int} {o : Op} {l : List Op} (he : (step d o).2 = 0) : steps d i (o :: l) = steps (step d o).1 (i + 1) l := by
  rw [steps, if_neg (by simpa using he)]
theorem steps_err {d : Dev} {i : Int} {o : Op} {l : List Op} (he : (step d o).2 ≠ 0) : steps d i (o :: l) = (d, i, (step d o).2) := by
  rw [steps, if_pos he]
theorem steps_valid {d : Dev} (i : Int) (l : List Op) (h : ¬ bad d) : ¬ bad (steps d i l).1 := by
  induction l generalizing d i with
  | nil => exact h
  | cons o l ih =>
    by_cases he : (step d o).2 = 0
    · rw [steps_cons he]; exact ih (i + 1) (step_ok h he)
    · rw [steps_err he]; exact h
theorem steps_num {d : Dev} (i : Int) (l : List Op) : i ≤ (steps d i l).2.1 ∧ (steps d i l).2.1 ≤ i + l.length := by
  induction l generalizing d i with
  | nil => simp [steps]
  | cons o l ih =>
    by_cases he : (step d o).2 = 0
    · rw [steps_cons he]; have := ih (d := (step d o).1) (i + 1); simp only [List.length_cons]; omega
    · rw [steps_err he]; simp only [List.length_cons]; omega
/-- A script in two parts. -/
theorem steps_append {d : Dev} (i : Int) (l m : List Op) : steps d i (l ++ m) = if (steps d i l).2.2 ≠ 0 then steps d i l else steps (steps d i l).1 (i + l.length) m := by
  induction l generalizing d i with
  | nil => simp [steps]
  | cons o l ih =>
    by_cases he : (step d o).2 = 0
    · rw [List.cons_append, steps_cons he, steps_cons he, ih]
      congr 2
      simp only [List.length_cons]; omega
    · rw [List.cons_append, steps_err he, steps_err he, if_pos he]
theorem steps_all {d : Dev} (i : Int) (l : List Op) (h : (steps d i l).2.2 = 0) : (steps d i l).2.1 = i + l.length := by
  induction l generalizing d i with
  | nil => simp [steps]
  | cons o l ih =>
    by_cases he : (step d o).2 = 0
    · rw [steps_cons he] at h ⊢; rw [ih _ h]; simp only [List.length_cons]; omega
    · rw [steps_err he] at h; exact absurd h he
theorem steps_shift {d : Dev} (i j : Int) (l : List Op) : steps d (i + j) l = ((steps d i l).1, (steps d i l).2.1 + j, (steps d i l).2.2) := by
  induction l generalizing d i with
  | nil => simp [steps]
  | cons o l ih =>
    by_cases he : (step d o).2 = 0
    · rw [steps_cons he, steps_cons he, ← ih, show i + j + 1 = i + 1 + j by omega]
    · rw [steps_err he, steps_err he]
end Disk
end Go.Proofs.Ytojhdecgipjkeaa
