/- The reference's Long, Same and SameBytes, walked. Own work. -/
import Derived.Test.YtegnkmfdchljkaaLnFunB
set_option linter.unusedVariables false
set_option linter.unusedSimpArgs false
namespace Go.Proofs.Ytegnkmfdchljkaa
open Go.RowKit

/-- Strings as they come in: however many, and however long. -/
structure SO (w : World) (A : Option Addr) (c : Nat) (ps : List ByteArray) : Prop where
  r : 0 < ps.length → ∃ g o, A = some ⟨g, o, none⟩ ∧ ∀ j (h : j < ps.length), w.cell? ⟨g, o + j, none⟩ = some (.string ps[j])
  n : ps.length ≤ c
  c' : c ≤ 9223372036854775807
  s : ∀ p ∈ ps, p.size ≤ 9223372036854775807
theorem SO.ab {w w' : World} {A : Option Addr} {c : Nat} {ps : List ByteArray} (h : SO w A c ps) (k : Ab w w') : SO w' A c ps := ⟨fun hl => by
  obtain ⟨g, o, h1, h2⟩ := h.r hl
  exact ⟨g, o, h1, fun i hi => k.at (h2 i hi)⟩, h.n, h.c', h.s⟩
theorem SM.so {w : World} {A : Option Addr} {c : Nat} {ps : List ByteArray} (h : SM w A c ps) : SO w A c ps := ⟨h.r, h.n, h.c', fun p hp => by have := h.s p hp; omega⟩
/-- Short strings, and few. -/
structure Sh (ps : List ByteArray) : Prop where
  k : ps.length ≤ 200
  s : ∀ p ∈ ps, p.size ≤ 3000
theorem SO.sm {w : World} {A : Option Addr} {c : Nat} {ps : List ByteArray} (h : SO w A c ps) (k : Sh ps) : SM w A c ps := ⟨h.r, h.n, h.c', by have := k.k; omega, fun p hp => by have := k.s p hp; omega⟩
def RetLg (w : World) (ps : List ByteArray) (e : Ending) (w' : World) : Prop := ∃ b, e = .returned (.bool b) ∧ (b = false → Sh ps) ∧ Ab w w'
theorem rlong_any (A : Option Addr) (c : Nat) (ps : List ByteArray) (w : World) (hp : SO w A c ps) : Calls Try.prog 4 #[.slice A ps.length c] w (RetLg w ps) := by
  have hk : ps.length ≤ 9223372036854775807 := by have := hp.n; have := hp.c'; omega
  have HP := Lib.hid hp
  clear hp
  go_enter Try.func4, Try.ntmps4
  go_wp2_with fail
  go_loopw [3] (fun i w' => ∃ k : Nat, k ≤ ps.length ∧ k ≤ 201 ∧ i = .int .i64 k ∧ Hid (∀ j (h : j < ps.length), j < k → ps[j].size ≤ 3000) ∧ Ab w w') (fun i _ => ps.length - (intOf i).toNat)
  case atStart => exact ⟨0, Nat.zero_le _, by omega, rfl, fun j _ h => by omega, abA⟩
  case round =>
    obtain ⟨k, hk, hk2, rfl, hA, hb⟩ := hrel
    rename World => w1
    by_cases hlt : k < ps.length
    · have hT : (k : Int) < ps.length := by omega
      by_cases h2 : k ≤ 200
      · have hT2 : (k : Int) ≤ 200 := by omega
        obtain ⟨g, o, rfl, hR⟩ := HP.out.r (by omega)
        have c0 := hb.at (hR k hlt)
        have hs := HP.out.s _ (List.getElem_mem hlt)
        by_cases h3 : ps[k].size ≤ 3000
        · have HG : Hid (∀ j (h : j < ps.length), j < k + 1 → ps[j].size ≤ 3000) := fun j h hj => by
            by_cases e : j = k
            · subst e; exact h3
            · exact hA.out j h (by omega)
          have h3' : ¬ (3000 : Int) < (ps[k].size : Int) := by omega
          clear hR h3
          generalize ps[k] = x at *
          go_wp2
          go_roundw
          case rel => exact ⟨k + 1, by omega, by omega, by go_num, HG, abA⟩
          case measure => simp [intOf]; omega
        · have h3' : (3000 : Int) < (ps[k].size : Int) := by omega
          clear hR h3
          generalize ps[k] = x at *
          go_wp2
          go_ret
          exact ⟨true, rfl, by simp, abA⟩
      · have hT2 : ¬ (k : Int) ≤ 200 := by omega
        have hT3 : (200 : Int) < ps.length := by omega
        go_wp2
        go_ret
        exact ⟨true, rfl, by simp, abA⟩
    · obtain rfl : k = ps.length := by omega
      have hT : ¬ (ps.length : Int) < ps.length := by omega
      have HG : Hid (ps.length ≤ 200 → Sh ps) := fun h => ⟨h, fun p hp => by
        obtain ⟨j, hj, rfl⟩ := List.getElem_of_mem hp
        exact hA.out j hj hj⟩
      by_cases h2 : (200 : Int) < ps.length
      · go_wp2
        go_ret
        exact ⟨true, rfl, by simp, abA⟩
      · have HQ := HG.out (by omega)
        clear HG
        go_wp2
        go_ret
        exact ⟨false, rfl, fun _ => HQ, abA⟩
theorem Ln.L_inj {ps qs : List ByteArray} (h : Ln.L ps = Ln.L qs) : ps = qs :=
  List.map_inj_right (fun x y e => by
    cases x; cases y
    simp only at e
    rw [Array.toList_inj.1 e]) |>.1 h
theorem rsame_any (A B : Option Addr) (c d : Nat) (ps qs : List ByteArray) (w : World) (hp : SM w A c ps) (hq : SM w B d qs) (he : Ln.L ps = Ln.L qs) : Calls Try.prog 9 #[.slice A ps.length c, .slice B qs.length d] w (RetTrue w) := by
  obtain rfl := Ln.L_inj he
  have hk := hp.k
  have HP := Lib.hid hp
  have HQ := Lib.hid hq
  clear hp hq he
  go_enter Try.func9, Try.ntmps9
  go_wp2_with fail
  go_loopw [5] (fun i w' => ∃ k : Nat, k ≤ ps.length ∧ i = .int .i64 k ∧ Ab w w') (fun i _ => ps.length - (intOf i).toNat)
  case atStart => exact ⟨0, Nat.zero_le _, rfl, abA⟩
  case round =>
    obtain ⟨k, hk, rfl, hb⟩ := hrel
    rename World => w1
    by_cases hlt : k < ps.length
    · have hT : (k : Int) < ps.length := by omega
      obtain ⟨g, o, rfl, hR⟩ := HP.out.r (by omega)
      obtain ⟨g2, o2, rfl, hS⟩ := HQ.out.r (by omega)
      have c0 := hb.at (hR k hlt)
      have c1 := hb.at (hS k hlt)
      clear hR hS
      generalize ps[k] = x at *
      go_wp2
      go_quiet (fail)
      go_wp2
      go_roundw
      case rel => exact ⟨k + 1, by omega, by go_num, abA⟩
      case measure => simp [intOf]; omega
    · obtain rfl : k = ps.length := by omega
      go_wp2
      go_ret
      exact ⟨rfl, hb⟩
end Go.Proofs.Ytegnkmfdchljkaa
