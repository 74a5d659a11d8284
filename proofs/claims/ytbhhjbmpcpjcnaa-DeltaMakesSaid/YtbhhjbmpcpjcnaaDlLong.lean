/- The law's guard; results of the two Makes compared. Own work. -/
import Derived.Test.YtbhhjbmpcpjcnaaDlAlive
import Derived.Test.YtbhhjbmpcpjcnaaDlRefM
set_option linter.unusedVariables false
set_option linter.unusedSimpArgs false
namespace Go.Proofs.Ytbhhjbmpcpjcnaa
open Go.RowKit

def Dl.great (n : Nat) : Bool := (decide (80 < n) && decide (n ≤ 300)) || decide (2100 < n)
theorem rlong_any (A : Option Addr) (c : Nat) (s : List UInt8) (w : World) : Calls Try.prog 22 #[.slice A s.length c] w fun e w' => e = .returned (.bool (Dl.great s.length)) ∧ Ab w w' := by
  by_cases h1 : 80 < s.length
  · have k1 : (80 : Int) < (s.length : Int) := by omega
    by_cases h2 : s.length ≤ 300
    · have k2 : (s.length : Int) ≤ 300 := by omega
      have hq : Hid (Dl.great s.length = true) := Lib.hid (by simp [Dl.great, h1, h2])
      generalize Dl.great s.length = q at *
      go_enter Try.func22, Try.ntmps22
      go_wp2
      go_ret
      exact ⟨by rw [hq.out]; rfl, abA⟩
    · have k2 : ¬ (s.length : Int) ≤ 300 := by omega
      by_cases h3 : 2100 < s.length
      · have k3 : (2100 : Int) < (s.length : Int) := by omega
        have hq : Hid (Dl.great s.length = true) := Lib.hid (by simp [Dl.great, h3])
        generalize Dl.great s.length = q at *
        go_enter Try.func22, Try.ntmps22
        go_wp2
        go_ret
        exact ⟨by rw [hq.out]; rfl, abA⟩
      · have k3 : ¬ (2100 : Int) < (s.length : Int) := by omega
        have hq : Hid (Dl.great s.length = false) := Lib.hid (by simp [Dl.great]; omega)
        generalize Dl.great s.length = q at *
        go_enter Try.func22, Try.ntmps22
        go_wp2
        go_ret
        exact ⟨by rw [hq.out]; rfl, abA⟩
  · have k1 : ¬ (80 : Int) < (s.length : Int) := by omega
    have k3 : ¬ (2100 : Int) < (s.length : Int) := by omega
    have hq : Hid (Dl.great s.length = false) := Lib.hid (by simp [Dl.great]; omega)
    generalize Dl.great s.length = q at *
    go_enter Try.func22, Try.ntmps22
    go_wp2
    go_ret
    exact ⟨by rw [hq.out]; rfl, abA⟩
theorem great_le {n : Nat} (h : Dl.great n = false) : n ≤ 2100 := by
  unfold Dl.great at h
  rw [Bool.or_eq_false_iff] at h
  have := of_decide_eq_false h.2
  omega
theorem ret_same {s T : List UInt8} {w w' w2 w2' : World} {e e' : Ending} {ps ps' : List PM} {er er' : Int}
    (h : if 300 < s.length ∨ 300 < T.length then er = 4 ∧ ps = [] else er = 0 ∧ ∃ (f : Nat → Int) (gf : Nat → Nat), Dl.Tab s T f gf 0 ∧ Dl.Mk s T f gf 0 (ps.map PM.d))
    (h' : if 300 < s.length ∨ 300 < T.length then er' = 4 ∧ ps' = [] else er' = 0 ∧ ∃ (f : Nat → Int) (gf : Nat → Nat), Dl.Tab s T f gf 0 ∧ Dl.Mk s T f gf 0 (ps'.map PM.d)) : er = er' ∧ ps.map PM.d = ps'.map PM.d ∧ (ps.length ≤ 300 ∧ ps'.length ≤ 300) := by
  by_cases hb : 300 < s.length ∨ 300 < T.length
  · rw [if_pos hb] at h h'
    obtain ⟨rfl, rfl⟩ := h
    obtain ⟨rfl, rfl⟩ := h'
    exact ⟨rfl, rfl, by simp, by simp⟩
  · rw [if_neg hb] at h h'
    obtain ⟨rfl, f, g, a1, a2⟩ := h
    obtain ⟨rfl, f', g', b1, b2⟩ := h'
    have e := a2.same a1 b1 b2
    have l1 := (a2.good (by omega) (by omega) a1).2.2.2
    have l2 := (b2.good (by omega) (by omega) b1).2.2.2
    simp at l1 l2
    exact ⟨rfl, e, by omega, by omega⟩
end Go.Proofs.Ytbhhjbmpcpjcnaa
