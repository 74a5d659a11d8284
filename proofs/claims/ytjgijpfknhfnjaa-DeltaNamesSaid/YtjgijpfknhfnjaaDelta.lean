/- Plain mathematics of layer 11: parts, costs, what a delta makes of a base. No program is named. Own work. -/
import Derived.Lib.IndexMore
set_option linter.unusedVariables false
namespace Go.Proofs.Ytjgijpfknhfnjaa
namespace Dl

/-- A part: At, N, Data. -/
structure Part where
  p : Int
  n : Int
  b : List UInt8
def copies (x : Part) : Bool := decide (1 ≤ x.n) && decide (x.n ≤ 2000) && decide (0 ≤ x.p) && decide (x.p ≤ 2000) && decide (x.b.length = 0)
def inserts (x : Part) : Bool := decide (x.n = 0) && decide (x.p = 0) && decide (1 ≤ x.b.length) && decide (x.b.length ≤ 2000)
def fine (x : Part) : Bool := copies x || inserts x
def valid (l : List Part) : Int := if 200 < l.length then 4 else if l.all fine then 0 else 8
def over (base : Int) (x : Part) : Bool := copies x && decide (base < x.p + x.n)
def check (l : List Part) (base : Int) : Int := if valid l = 0 then (if l.any (over base) then 16 else 0) else valid l
def cost1 (x : Part) : Int := if copies x then 3 else 1 + (x.b.length : Int)
def sum (l : List Part) : Int := (l.map cost1).sum
def cost (l : List Part) : Int × Int := if valid l = 0 then (sum l, 0) else (0, valid l)
def app1 (base : List UInt8) (x : Part) : List UInt8 := if copies x then (base.drop x.p.toNat).take x.n.toNat else x.b
def out (base : List UInt8) (l : List Part) : List UInt8 := (l.map (app1 base)).flatten
def apply (base : List UInt8) (l : List Part) : List UInt8 × Int :=
  if 2000 < base.length then ([], 4) else if check l base.length = 0 then (if 2000 < (out base l).length then ([], 4) else (out base l, 0)) else ([], check l base.length)

theorem copies_iff {x : Part} : copies x = true ↔ 1 ≤ x.n ∧ x.n ≤ 2000 ∧ 0 ≤ x.p ∧ x.p ≤ 2000 ∧ x.b.length = 0 := by
  unfold copies; simp only [Bool.and_eq_true, decide_eq_true_eq]; constructor <;> (intro h; simp_all)
theorem inserts_iff {x : Part} : inserts x = true ↔ x.n = 0 ∧ x.p = 0 ∧ 1 ≤ x.b.length ∧ x.b.length ≤ 2000 := by
  unfold inserts; simp only [Bool.and_eq_true, decide_eq_true_eq]; constructor <;> (intro h; simp_all)
theorem valid_zero {l : List Part} : valid l = 0 ↔ l.length ≤ 200 ∧ ∀ x ∈ l, fine x = true := by
  unfold valid
  by_cases h : 200 < l.length
  · rw [if_pos h]
    constructor
    · intro e; cases e
    · intro e; omega
  · rw [if_neg h]
    by_cases h2 : l.all fine = true
    · rw [if_pos h2]
      exact ⟨fun _ => ⟨by omega, List.all_eq_true.1 h2⟩, fun _ => rfl⟩
    · rw [if_neg h2]
      exact ⟨fun e => (by cases e), fun e => absurd (List.all_eq_true.2 e.2) h2⟩
theorem check_zero {l : List Part} {b : Int} : check l b = 0 ↔ valid l = 0 ∧ ∀ x ∈ l, over b x = false := by
  unfold check
  by_cases h : valid l = 0
  · rw [if_pos h]
    by_cases h2 : l.any (over b) = true
    · rw [if_pos h2]
      constructor
      · intro e; cases e
      · intro e
        obtain ⟨x, hx, h3⟩ := List.any_eq_true.1 h2
        rw [e.2 x hx] at h3
        cases h3
    · rw [if_neg h2]
      refine ⟨fun _ => ⟨h, fun x hx => ?_⟩, fun _ => rfl⟩
      cases h3 : over b x with
      | false => rfl
      | true => exact absurd (List.any_eq_true.2 ⟨x, hx, h3⟩) h2
  · rw [if_neg h]
    exact ⟨fun e => absurd e h, fun e => absurd e.1 h⟩
theorem out_take_succ (base : List UInt8) (l : List Part) (k : Nat) (h : k < l.length) : out base (l.take (k + 1)) = out base (l.take k) ++ app1 base l[k] := by
  unfold out
  rw [List.take_add_one, List.getElem?_eq_getElem h, Option.toList_some, List.map_append, List.flatten_append]
  simp only [List.map_cons, List.map_nil, List.flatten_cons, List.flatten_nil, List.append_nil]
theorem sum_take_succ (l : List Part) (k : Nat) (h : k < l.length) : sum (l.take (k + 1)) = sum (l.take k) + cost1 l[k] := by
  unfold sum
  rw [List.take_add_one, List.getElem?_eq_getElem h, Option.toList_some, List.map_append, List.sum_append_int]
  simp only [List.map_cons, List.map_nil, List.sum_cons, List.sum_nil, Int.add_zero]
theorem out_le (base : List UInt8) (l : List Part) (k : Nat) : (out base (l.take k)).length ≤ (out base l).length := by
  have h : out base l = out base (l.take k) ++ out base (l.drop k) := by
    conv => lhs; rw [← List.take_append_drop k l]
    unfold out
    rw [List.map_append, List.flatten_append]
  rw [h, List.length_append]
  omega
theorem sum_bound (l : List Part) (m : Int) (hm : ∀ x ∈ l, 0 ≤ cost1 x ∧ cost1 x ≤ m) : 0 ≤ sum l ∧ sum l ≤ m * l.length := by
  induction l with
  | nil => simp [sum]
  | cons x l ih =>
    have h1 := hm x (by simp)
    have h2 := ih fun y hy => hm y (by simp [hy])
    have e : sum (x :: l) = cost1 x + sum l := by simp [sum]
    rw [e]
    have : m * ((x :: l).length : Int) = m * l.length + m := by
      simp only [List.length_cons]; push_cast; rw [Int.mul_add, Int.mul_one]
    omega
end Dl
end Go.Proofs.Ytjgijpfknhfnjaa
