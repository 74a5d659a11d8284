/- The reference's place: the least index at which bytes are. Own work. -/
import Derived.Test.YtbhhjbmpcpjcnaaDlAlive
import Derived.Lib.IndexMore
set_option linter.unusedVariables false
set_option linter.unusedSimpArgs false
namespace Go.Proofs.Ytbhhjbmpcpjcnaa
open Go.RowKit

/-- What place goes by. -/
theorem place_facts {s t : List UInt8} {p : Nat} (h : Lib.index s t = (p : Int)) : p + t.length ≤ s.length ∧ (∀ k (h1 : k < t.length) (h2 : p + k < s.length), s[p + k] = t[k]) ∧
    ∀ i, i < p → ¬ ∀ k (h1 : k < t.length) (h2 : i + k < s.length), s[i + k] = t[k] := by
  have hr := Lib.index_room s t (by omega)
  have hp : p + t.length ≤ s.length := by omega
  rcases Lib.index_spec s t with ⟨x1, _⟩ | ⟨j, x1, x2, x3, x4⟩
  · omega
  · obtain rfl : j = p := by omega
    refine ⟨hp, fun k h1 h2 => ?_, fun i hi hall => ?_⟩
    · rw [Lib.occAt_iff_take _ _ _ hp] at x3
      have x3 : (s.drop j).take t.length = t := by simpa using x3
      have : ((s.drop j).take t.length)[k]? = t[k]? := by rw [x3]
      rw [List.getElem?_take_of_lt h1, List.getElem?_drop, List.getElem?_eq_getElem h2, List.getElem?_eq_getElem h1] at this
      exact Option.some.inj this
    · have hn := x4 i hi
      rw [Lib.occAt_iff_take _ _ _ (by omega)] at hn
      have : (s.drop i).take t.length = t := by
        refine List.ext_getElem (by simp; omega) fun k h1 h2 => ?_
        rw [List.getElem_take, List.getElem_drop]
        exact hall k h2 (by omega)
      rw [this, beq_self_eq_true] at hn
      cases hn
set_option maxRecDepth 100000 in
set_option maxHeartbeats 2000000 in
theorem place_any (B D : Option Addr) (c d : Nat) (s t : List UInt8) (p : Nat) (w : World) (hs : RB w 0 B s) (ht : RB w 0 D t) (h : Lib.index s t = (p : Int)) (ht0 : 0 < t.length) (hsl : s.length ≤ 300) (htl : t.length ≤ 300) :
    Calls Try.prog 40 #[.slice B s.length c, .slice D t.length d] w fun e w' => e = .returned (.int .i64 (p : Int)) ∧ Ab w w' := by
  obtain ⟨hp, hocc, hno⟩ := place_facts h
  have HO := Lib.hid hocc
  have HN := Lib.hid hno
  clear h hocc hno
  obtain ⟨bd, rfl, _, hb⟩ := hs (by omega)
  obtain ⟨dd, rfl, _, hd⟩ := ht ht0
  have HB := Lib.hid hb
  have HD := Lib.hid hd
  clear hb hd hs ht
  go_enter Try.func40, Try.ntmps40
  go_wp2_with fail
  go_loopw [5] (fun a w' => ∃ i : Nat, i ≤ p ∧ a = .int .i64 (i : Int) ∧ Ab w w') (fun a _ => s.length - (intOf a).toNat)
  case atStart => exact ⟨0, Nat.zero_le _, rfl, abA⟩
  case round =>
    obtain ⟨i, hi, rfl, hbi⟩ := hrel
    rename World => w1
    go_wp2_with fail
    go_loopw [6] (fun a w' => ∃ k : Nat, k ≤ t.length ∧ a = .int .i64 (k : Int) ∧ Hid (∀ j (h1 : j < t.length) (h2 : i + j < s.length), j < k → s[i + j] = t[j]) ∧ Ab w w') (fun a _ => t.length - (intOf a).toNat)
    case atStart => exact ⟨0, Nat.zero_le _, rfl, Lib.hid (fun j _ _ h => absurd h (by omega)), hbi⟩
    case round =>
      obtain ⟨k, hk, rfl, hA, hbk⟩ := hrel
      rename World => w2
      by_cases hlt : k < t.length
      · have hT : (k : Int) < (t.length : Int) := by omega
        obtain ⟨q, hq⟩ : ∃ q : Nat, q = i + k := ⟨_, rfl⟩
        have hqs : q < s.length := by omega
        have hqi : (q : Int) < (s.length : Int) := by omega
        have hw : IntKind.i64.wrap ((i : Int) + (k : Int)) = (q : Int) := by rw [show (i : Int) + (k : Int) = (q : Int) by omega]; exact IntWalk.i64_in _ (by omega)
        have hac : w2.cell? (bd.add q) = some (.int .u8 (s[q].toNat : Int)) := hbk.at (HB.out q hqs)
        have hbc : w2.cell? (dd.add k) = some (.int .u8 (t[k].toNat : Int)) := hbk.at (HD.out k hlt)
        have HE : Hid (s[q] = t[k] → ∀ j (h1 : j < t.length) (h2 : i + j < s.length), j < k + 1 → s[i + j] = t[j]) := Lib.hid fun he j h1 h2 hj => by
          by_cases e : j = k
          · subst e; subst hq; exact he
          · exact hA.out j h1 h2 (by omega)
        have HF : Hid (s[q] ≠ t[k] → i ≠ p) := Lib.hid fun he e => he (by subst hq; subst e; exact HO.out k hlt hqs)
        have HQ := Lib.hid hq
        clear hq hA
        generalize s[q] = x at *
        generalize t[k] = y at *
        by_cases hxy : x = y
        · have hcmp : ((x.toNat : Int) == (y.toNat : Int)) = true := by simp [hxy]
          have hR := Lib.hid (HE.out hxy)
          clear HE HF hxy
          go_wp2
          go_quiet (fail)
          go_wp2
          go_roundw
          case rel => exact ⟨k + 1, by omega, by go_num, hR, abA⟩
          case measure => simp [intOf] <;> omega
        · have hcmp : ((x.toNat : Int) == (y.toNat : Int)) = false := by
            rw [beq_eq_false_iff_ne]; simp only [ne_eq, Int.natCast_inj]; exact fun e => hxy (UInt8.toNat.inj e)
          have hip : i < p := by have := HF.out hxy; omega
          have hkt : ¬ (k : Int) = (t.length : Int) := by omega
          have hkb : ((k : Int) == (t.length : Int)) = false := by simpa using hkt
          clear HE HF hxy
          go_wp2
          go_quiet (fail)
          go_wp2
          go_roundw
          case rel => exact ⟨i + 1, by omega, by go_num, abA⟩
          case measure => simp [intOf] <;> omega
      · obtain rfl : k = t.length := by omega
        have hip : i = p := by
          by_cases e : i = p
          · exact e
          · exact absurd (fun j h1 h2 => hA.out j h1 h2 h1) (HN.out i (by omega))
        subst hip
        clear hA
        go_wp2
        go_quiet (fail)
        go_wp2
        go_ret
        exact ⟨rfl, abA⟩
end Go.Proofs.Ytbhhjbmpcpjcnaa
