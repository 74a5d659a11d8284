/- Lines of texts: parts at line feeds, texts, errors, fronts and backs (mathematics). Own work. -/
import Derived.Lib.Split
import Derived.Lib.SplitLaws
import Derived.Lib.IndexLaws
import Derived.Lib.IndexBytes
import Derived.Lib.Join
set_option linter.unusedVariables false
set_option linter.unusedSimpArgs false
namespace Go.Proofs.Ytegnkmfdchljkaa
namespace Ln
/-- The parts of bytes between line feeds. -/
def parts : List UInt8 → List (List UInt8)
  | [] => [[]]
  | c :: l => if c = 10 then [] :: parts l else match parts l with
    | [] => [[c]]
    | p :: ps => (c :: p) :: ps
theorem parts_ne (l : List UInt8) : ∃ p ps, parts l = p :: ps := by
  cases l with
  | nil => exact ⟨[], [], rfl⟩
  | cons c l =>
    unfold parts
    split
    · exact ⟨_, _, rfl⟩
    · split <;> exact ⟨_, _, rfl⟩
theorem parts_feed (l : List UInt8) : parts (10 :: l) = [] :: parts l := by rw [parts, if_pos rfl]
theorem parts_cons {c : UInt8} (hc : c ≠ 10) {l p : List UInt8} {ps : List (List UInt8)} (h : parts l = p :: ps) : parts (c :: l) = (c :: p) :: ps := by
  rw [parts, if_neg hc, h]
theorem parts_none : ∀ l : List UInt8, 10 ∉ l → parts l = [l]
  | [], _ => rfl
  | c :: l, h => by
    simp at h
    exact parts_cons (fun e => h.1 e.symm) (parts_none l h.2)
theorem parts_split : ∀ (a b : List UInt8), 10 ∉ a → parts (a ++ 10 :: b) = a :: parts b
  | [], b, _ => parts_feed b
  | c :: a, b, h => by
    simp at h
    exact parts_cons (fun e => h.1 e.symm) (parts_split a b h.2)
theorem parts_length : ∀ l : List UInt8, (parts l).length = l.count 10 + 1
  | [] => rfl
  | c :: l => by
    have ih := parts_length l
    obtain ⟨p, ps, e⟩ := parts_ne l
    by_cases h : c = 10
    · subst h
      rw [parts_feed]
      simp [ih]
    · rw [parts_cons h e]
      rw [e] at ih
      simp [h] at ih ⊢
      omega
theorem parts_good : ∀ (l : List UInt8), ∀ p ∈ parts l, 10 ∉ p
  | [] => by simp [parts]
  | c :: l => by
    have ih := parts_good l
    obtain ⟨p, ps, e⟩ := parts_ne l
    rw [e] at ih
    by_cases h : c = 10
    · subst h
      rw [parts_feed, e]
      intro q hq
      rw [List.mem_cons] at hq
      rcases hq with rfl | hq
      · simp
      · exact ih q hq
    · rw [parts_cons h e]
      intro q hq
      rw [List.mem_cons] at hq
      rcases hq with rfl | hq
      · have := ih p List.mem_cons_self
        simp only [List.mem_cons, not_or]
        exact ⟨fun e => h e.symm, this⟩
      · exact ih q (List.mem_cons_of_mem _ hq)
theorem split_parts : ∀ (k : Nat) (l : List UInt8), l.count 10 = k → Lib.splitK [10] 0 k l = parts l
  | 0, l, h => by
    rw [parts_none l (by intro hm; have := List.count_pos_iff.2 hm; omega)]
    rfl
  | k + 1, l, h => by
    rw [Lib.splitK, Lib.index_one]
    have hge := Lib.indexByte_ge l 10
    by_cases e : Lib.indexByte l 10 = -1
    · have := Lib.indexByte_none e
      have hm : 10 ∈ l := List.count_pos_iff.1 (by omega)
      obtain ⟨i, hi, he⟩ := List.getElem_of_mem hm
      exact absurd (by rw [List.getElem?_eq_getElem hi, he]) (this i)
    · obtain ⟨o, ho⟩ : ∃ o : Nat, Lib.indexByte l 10 = (o : Int) := ⟨(Lib.indexByte l 10).toNat, by omega⟩
      obtain ⟨h1, h2⟩ := Lib.indexByte_some ho
      rw [ho, if_neg (by simp <;> omega)]
      have hlt : o < l.length := (List.getElem?_eq_some_iff.1 h1).1
      have hl : l = l.take o ++ 10 :: l.drop (o + 1) := by
        conv => lhs; rw [← List.take_append_drop o l]
        rw [List.drop_eq_getElem_cons hlt]
        have := (List.getElem?_eq_some_iff.1 h1).2
        rw [this]
      have hn : 10 ∉ l.take o := by
        intro hm
        obtain ⟨i, hi, he⟩ := List.getElem_of_mem hm
        rw [List.length_take] at hi
        refine h2 i (by omega) ?_
        rw [List.getElem_take] at he
        rw [List.getElem?_eq_getElem (by omega), he]
      have hc : (l.drop (o + 1)).count 10 = k := by
        have := congrArg (List.count (10 : UInt8)) hl
        rw [List.count_append, List.count_cons_self, List.count_eq_zero.2 hn] at this
        omega
      show l.take (((o : Int)).toNat + 0) :: Lib.splitK [10] 0 k (l.drop (((o : Int)).toNat + 1)) = _
      rw [Int.toNat_natCast, Nat.add_zero, split_parts k _ hc]
      conv => rhs; rw [hl]
      rw [parts_split _ _ hn]
theorem splitB_parts (s : ByteArray) : (Lib.splitB ⟨#[10]⟩ 0 (Lib.countB s ⟨#[10]⟩) s).map (·.data.toList) = parts s.data.toList := by
  rw [Lib.splitB_data]
  refine split_parts _ _ ?_
  exact (Lib.count_one 10 s.data.toList).symm
/-- The text of a list of lines. -/
def text (l : List (List UInt8)) : List UInt8 := Lib.join l [10]
theorem text_nil : text [] = [] := rfl
theorem text_one (x : List UInt8) : text [x] = x := Lib.join_one x [10]
theorem text_two (x y : List UInt8) (r : List (List UInt8)) : text (x :: y :: r) = x ++ 10 :: text (y :: r) := by
  unfold text
  rw [Lib.join_cons, Lib.join_cons]
  simp [Lib.joinTail]
/-- How long a text is. -/
def len (l : List (List UInt8)) : Nat := l.length + Lib.lens l
theorem text_len : ∀ (l : List (List UInt8)), l ≠ [] → (text l).length + 1 = len l
  | [], h => absurd rfl h
  | x :: r, _ => by
    unfold text len
    rw [Lib.join_length]
    simp
    omega
theorem text_parts : ∀ (b : List UInt8), text (parts b) = b
  | [] => rfl
  | c :: l => by
    have ih := text_parts l
    obtain ⟨p, ps, e⟩ := parts_ne l
    rw [e] at ih
    by_cases h : c = 10
    · subst h
      rw [parts_feed, e, text_two, ih]
      rfl
    · rw [parts_cons h e]
      cases ps with
      | nil => rw [text_one] at ih ⊢; rw [ih]
      | cons q qs => rw [text_two] at ih ⊢; rw [List.cons_append, ih]
/-- Has a line a line feed? -/
def bad (p : List UInt8) : Bool := p.any (· == 10)
theorem bad_iff (p : List UInt8) : bad p = true ↔ 10 ∈ p := by
  unfold bad
  rw [List.any_eq_true]
  exact ⟨fun ⟨x, h, e⟩ => by rw [← (beq_iff_eq.1 e)]; exact h, fun h => ⟨_, h, by simp⟩⟩
theorem bad_not {p : List UInt8} (h : bad p = false) : 10 ∉ p := fun k => by rw [(bad_iff p).2 k] at h; cases h
theorem not_bad {p : List UInt8} (h : 10 ∉ p) : bad p = false := by
  cases e : bad p with
  | true => exact absurd ((bad_iff p).1 e) h
  | false => rfl
theorem parts_text : ∀ (l : List (List UInt8)), l ≠ [] → l.any bad = false → parts (text l) = l
  | [], h, _ => absurd rfl h
  | [x], _, h => by
    rw [text_one]
    simp at h
    exact parts_none x (bad_not h)
  | x :: y :: r, _, h => by
    rw [text_two]
    rw [List.any_cons, Bool.or_eq_false_iff] at h
    rw [parts_split _ _ (bad_not h.1), parts_text (y :: r) (by simp) h.2]
/-- The error of a list of lines. -/
def err (l : List (List UInt8)) : Nat := if 60 < l.length ∨ 2001 < len l then 4 else if l = [] ∨ l.any bad = true then 8 else 0
def chk (b : List UInt8) : Nat := if 2000 < b.length ∨ 60 < b.count 10 + 1 then 4 else 0
theorem err_parts (b : List UInt8) : err (parts b) = chk b := by
  obtain ⟨p, ps, e⟩ := parts_ne b
  have hn : parts b ≠ [] := by rw [e]; simp
  have h1 := text_len (parts b) hn
  rw [text_parts] at h1
  unfold err chk
  rw [parts_length]
  have hb : (parts b).any bad = false := by
    rw [List.any_eq_false]
    intro p hp
    rw [not_bad (parts_good b p hp)]
    simp
  rw [if_neg (show ¬ (parts b = [] ∨ (parts b).any bad = true) by simp [hn, hb])]
  by_cases h : 2000 < b.length ∨ 60 < b.count 10 + 1
  · rw [if_pos h, if_pos (by omega)]
  · rw [if_neg h, if_neg (by omega)]
theorem err_zero {l : List (List UInt8)} (h : err l = 0) : l.length ≤ 60 ∧ len l ≤ 2001 ∧ l ≠ [] ∧ l.any bad = false := by
  unfold err at h
  split at h
  · simp at h
  · split at h
    · simp at h
    · rename_i h1 h2
      rw [not_or] at h2
      exact ⟨by omega, by omega, h2.1, by simpa using h2.2⟩
theorem err_of {l : List (List UInt8)} (h1 : l.length ≤ 60) (h2 : len l ≤ 2001) (h3 : l ≠ []) (h4 : l.any bad = false) : err l = 0 := by
  unfold err
  rw [if_neg (by omega), if_neg (by simp [h3, h4])]
theorem err_cases (l : List (List UInt8)) : err l = 4 ∨ err l = 8 ∨ err l = 0 := by
  unfold err
  split
  · exact .inl rfl
  · split
    · exact .inr (.inl rfl)
    · exact .inr (.inr rfl)
theorem err_text {l : List (List UInt8)} (h : err l = 0) : chk (text l) = 0 ∧ parts (text l) = l := by
  obtain ⟨h1, h2, h3, h4⟩ := err_zero h
  have := parts_text l h3 h4
  refine ⟨?_, this⟩
  rw [← err_parts, this]
  exact h
/-- How many lines are the same from the first one on. -/
def front : List (List UInt8) → List (List UInt8) → Nat
  | x :: a, y :: b => if x = y then front a b + 1 else 0
  | _, _ => 0
theorem front_nil_l (b : List (List UInt8)) : front [] b = 0 := by cases b <;> rfl
theorem front_nil_r (a : List (List UInt8)) : front a [] = 0 := by cases a <;> rfl
theorem front_le : ∀ (a b : List (List UInt8)), front a b ≤ a.length ∧ front a b ≤ b.length
  | [], b => by rw [front_nil_l]; simp
  | x :: a, [] => by rw [front_nil_r]; simp
  | x :: a, y :: b => by
    have := front_le a b
    unfold front
    split <;> simp <;> omega
theorem front_take : ∀ (a b : List (List UInt8)) (k : Nat), k ≤ front a b → a.take k = b.take k
  | _, _, 0, _ => by simp
  | [], b, k + 1, h => by rw [front_nil_l] at h; omega
  | x :: a, [], k + 1, h => by rw [front_nil_r] at h; omega
  | x :: a, y :: b, k + 1, h => by
    unfold front at h
    split at h
    · rename_i e
      subst e
      rw [List.take_succ_cons, List.take_succ_cons, front_take a b k (by omega)]
    · omega
theorem front_same {a b : List (List UInt8)} {k : Nat} (h : k < front a b) : a[k]? = b[k]? := by
  have := congrArg (fun l => l[k]?) (front_take a b (k + 1) h)
  simpa [List.getElem?_take] using this
theorem front_ends : ∀ (a b : List (List UInt8)) (ha : front a b < a.length) (hb : front a b < b.length), a[front a b] ≠ b[front a b]
  | [], b, ha, _ => by simp at ha
  | x :: a, [], _, hb => by simp at hb
  | x :: a, y :: b, ha, hb => by
    by_cases e : x = y
    · subst e
      have e1 : front (x :: a) (x :: b) = front a b + 1 := by rw [front, if_pos rfl]
      have := front_ends a b (by rw [e1] at ha; simpa using ha) (by rw [e1] at hb; simpa using hb)
      simpa only [e1, List.getElem_cons_succ] using this
    · have e1 : front (x :: a) (y :: b) = 0 := by rw [front, if_neg e]
      simpa only [e1, List.getElem_cons_zero] using e
/-- What is counted so far is the front. -/
theorem front_is (a b : List (List UInt8)) (k : Nat) (h1 : a.take k = b.take k) (h2 : k ≤ a.length) (h3 : k ≤ b.length) (h4 : k = a.length ∨ k = b.length ∨ a[k]? ≠ b[k]?) : front a b = k := by
  obtain ⟨l1, l2⟩ := front_le a b
  rcases Nat.lt_trichotomy (front a b) k with h | h | h
  · exfalso
    refine front_ends a b (by omega) (by omega) ?_
    have := congrArg (fun l => l[front a b]?) h1
    simp only [List.getElem?_take, if_pos h] at this
    rw [List.getElem?_eq_getElem (by omega), List.getElem?_eq_getElem (by omega)] at this
    exact Option.some.inj this
  · exact h
  · exfalso
    rcases h4 with h4 | h4 | h4
    · omega
    · omega
    · exact h4 (front_same h)
theorem take_more {a b : List (List UInt8)} {k : Nat} (h : a.take k = b.take k) (h1 : k < a.length) (h2 : k < b.length) (e : a[k] = b[k]) : a.take (k + 1) = b.take (k + 1) := by
  rw [List.take_succ_eq_append_getElem h1, List.take_succ_eq_append_getElem h2, h, e]
/-- Front and back of two lists. -/
def back (a b : List (List UInt8)) : Nat := front (a.drop (front a b)).reverse (b.drop (front a b)).reverse
theorem back_le (a b : List (List UInt8)) : front a b + back a b ≤ a.length ∧ front a b + back a b ≤ b.length := by
  have h := front_le (a.drop (front a b)).reverse (b.drop (front a b)).reverse
  have h2 := front_le a b
  unfold back
  simp at h
  omega
theorem rev_at (a : List (List UInt8)) (m k : Nat) (h : m + k < a.length) : (a.drop m).reverse[k]? = a[a.length - 1 - k]? := by
  rw [List.getElem?_reverse (by rw [List.length_drop]; omega), List.getElem?_drop, List.length_drop]
  congr 1
  omega
theorem back_same (a b : List (List UInt8)) : a.drop (a.length - back a b) = b.drop (b.length - back a b) := by
  have hl := back_le a b
  have h := front_take (a.drop (front a b)).reverse (b.drop (front a b)).reverse (back a b) (Nat.le_refl _)
  have ha : (a.drop (front a b)).reverse.take (back a b) = (a.drop (a.length - back a b)).reverse := by
    rw [List.take_reverse, List.drop_drop, List.length_drop]
    congr 2
    omega
  have hb : (b.drop (front a b)).reverse.take (back a b) = (b.drop (b.length - back a b)).reverse := by
    rw [List.take_reverse, List.drop_drop, List.length_drop]
    congr 2
    omega
  rw [ha, hb] at h
  exact List.reverse_inj.1 h
theorem back_ends (a b : List (List UInt8)) (ha : front a b + back a b < a.length) (hb : front a b + back a b < b.length) : a[a.length - 1 - back a b]? ≠ b[b.length - 1 - back a b]? := by
  have h := front_ends (a.drop (front a b)).reverse (b.drop (front a b)).reverse (by show back a b < _; simp; omega) (by show back a b < _; simp; omega)
  intro e
  refine h ?_
  have h1 := rev_at a (front a b) (back a b) ha
  have h2 := rev_at b (front a b) (back a b) hb
  rw [← h1, ← h2] at e
  rw [List.getElem?_eq_getElem (by simp; omega), List.getElem?_eq_getElem (by simp; omega)] at e
  exact Option.some.inj e
/-- Lines from one on, up to another one, replaced. -/
def rep (l : List (List UInt8)) (i j : Nat) (by' : List (List UInt8)) : List (List UInt8) := l.take i ++ by' ++ l.drop j
theorem rep_mid (a b : List (List UInt8)) : rep a (front a b) (a.length - back a b) ((b.take (b.length - back a b)).drop (front a b)) = b := by
  have hl := back_le a b
  unfold rep
  rw [back_same, front_take a b _ (Nat.le_refl _)]
  have e : b.take (front a b) = (b.take (b.length - back a b)).take (front a b) := by rw [List.take_take, Nat.min_eq_left (by omega)]
  rw [e, List.take_append_drop, List.take_append_drop]
theorem rep_same (a : List (List UInt8)) (i j : Nat) (h : i ≤ j) : rep a i j ((a.take j).drop i) = a := by
  unfold rep
  have e : a.take i = (a.take j).take i := by rw [List.take_take, Nat.min_eq_left h]
  rw [e, List.take_append_drop, List.take_append_drop]
theorem any_mid {l : List (List UInt8)} (h : l.any bad = false) (i j : Nat) : ((l.take j).drop i).any bad = false := by
  rw [List.any_eq_false] at h ⊢
  exact fun p hp => h p (List.mem_of_mem_take (List.mem_of_mem_drop hp))
end Ln
end Go.Proofs.Ytegnkmfdchljkaa
