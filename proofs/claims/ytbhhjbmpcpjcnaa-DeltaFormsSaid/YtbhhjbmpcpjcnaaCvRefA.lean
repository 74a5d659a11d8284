/- The reference of the codec: codes read, walked. Own work. -/
import Derived.Test.YtbhhjbmpcpjcnaaCvFunE
set_option linter.unusedVariables false
set_option linter.unusedSimpArgs false
namespace Go.Proofs.Ytbhhjbmpcpjcnaa
open Go.RowKit

theorem runfold_any (n : Nat) (w : World) (hn : n < 18446744073709551616) :
    Calls Try.prog 79 #[.int .u64 (n : Int)] w fun e w' => e = .returned (.int .i64 (Codec.unfold_ n)) ∧ w = w' := by
  obtain ⟨h, hh⟩ : ∃ h, h = n / 2 := ⟨_, rfl⟩
  have h1 : (n : Int) / 2 = (h : Int) := by omega
  have h2 : h ≤ 9223372036854775807 := by omega
  by_cases h0 : n % 2 = 0
  · have HU : Hid (Codec.unfold_ n = (h : Int)) := by unfold Hid Codec.unfold_; rw [if_pos h0, hh]
    have hm : ((n : Int) % 2 == 0) = true := by simp; omega
    clear hn h0 hh
    go_enter Try.func79, Try.ntmps79
    go_wp2
    go_ret
    exact ⟨ret_int (by rw [HU.out]), rfl⟩
  · have HU : Hid (Codec.unfold_ n = -(h : Int) - 1) := by unfold Hid Codec.unfold_; rw [if_neg h0, hh]
    have hm : ((n : Int) % 2 == 0) = false := by simp; omega
    clear hn h0 hh
    go_enter Try.func79, Try.ntmps79
    go_wp2
    go_ret
    exact ⟨ret_int (by rw [HU.out]), rfl⟩
/-- What coded returns. -/
def RetCd (w : World) (l : List UInt8) (e : Ending) (w' : World) : Prop := w = w' ∧ match Codec.coded l with
  | some (n, m) => e = .returned (.tuple #[.int .u64 (n : Int), .int .i64 (m : Int)])
  | none => e = .returned (.tuple #[.int .u64 0, .int .i64 0])
set_option maxRecDepth 100000 in
theorem rcoded_any (A : Option Addr) (l : List UInt8) (c : Nat) (w : World) (hb : RB w 0 A l) (hc : l.length ≤ c) (ll : l.length ≤ 9223372036854775807) :
    Calls Try.prog 78 #[.slice A l.length c] w (RetCd w l) := by
  go_enter Try.func78, Try.ntmps78
  go_wp2
  go_loop [4, 5] (fun n5 i => ∃ (s n : Nat) (t : List UInt8), n5 = .int .u64 (n : Int) ∧ i = .int .i64 (s : Int) ∧ s ≤ 10 ∧ s ≤ l.length ∧ n < 128 ^ s ∧ Hid (t = l.drop s) ∧ Hid (Codec.coded l = (Codec.tc s n t).map fun p => (p.1, p.2 + s))) (fun _ i => 10 - (intOf i).toNat)
  case atStart => exact ⟨0, 0, l, rfl, rfl, by omega, by omega, by simp, Lib.hid (by simp), Lib.hid (by rw [Codec.tc_coded]; cases Codec.coded l <;> rfl)⟩
  case round =>
    obtain ⟨s, n, t, rfl, rfl, hs, hsl, hn, htd, htc⟩ := hrel
    by_cases hlt : s < l.length ∧ s < 10
    · obtain ⟨hl1, hl2⟩ := hlt
      obtain ⟨ad, rfl, _, hcell⟩ := hb (by omega)
      have cx : w.cell? (ad.add s) = some (.int .u8 (l[s].toNat : Int)) := hcell s hl1
      have ht : t = l[s] :: l.drop (s + 1) := by rw [htd.out]; exact List.drop_eq_getElem_cons hl1
      rw [ht] at htc
      obtain ⟨t', htd'⟩ : ∃ t', t' = l.drop (s + 1) := ⟨_, rfl⟩
      rw [← htd'] at htc ht
      generalize l[s] = x at *
      have hx := x.toNat_lt
      obtain ⟨p, hp⟩ : ∃ p, p = x.toNat % 128 := ⟨_, rfl⟩
      have hpl : p < 128 := by omega
      have hpx : (x.toNat : Int) % 128 = (p : Int) := by omega
      have hs1 : (s : Int) < l.length := by omega
      have hs2 : (s : Int) < 10 := by omega
      clear hb hcell htd
      have htd : Hid (t' = l.drop (s + 1)) := htd'
      by_cases hA : s = 9 ∧ 1 < x.toNat
      · obtain ⟨h9, hx1⟩ := hA
        have HN : Hid (Codec.coded l = none) := by
          unfold Hid
          rw [htc.out, Codec.tc, ← hp]
          by_cases hbig : 18446744073709551616 ≤ p * 128 ^ s
          · rw [if_pos hbig]; rfl
          · have h3 : (128 : Nat) ^ 9 = 9223372036854775808 := by decide
            rw [if_neg hbig, h9] at *
            rw [if_neg (by rw [h3] at hbig; omega), Codec.tc_none _ _ _ (by omega)]; rfl
        have hs9 : ((s : Int) == 9) = true := by simp; omega
        have hx2 : (1 : Int) < (x.toNat : Int) := by omega
        have H9 := Lib.hid h9
        clear h9 hp
        go_wp2
        go_ret2
        refine ⟨rfl, ?_⟩
        rw [HN.out]
        rfl
      · have hPb : p * 128 ^ s < 9223372036854775808 ∨ p * 128 ^ s = 9223372036854775808 := by
          by_cases h8 : s ≤ 8
          · have h1 : 128 ^ s ≤ 128 ^ 8 := Nat.pow_le_pow_right (by decide) h8
            have h2 : p * 128 ^ s ≤ 127 * 128 ^ 8 := Nat.mul_le_mul (by omega) h1
            have h3 : (128 : Nat) ^ 8 = 72057594037927936 := by decide
            omega
          · have h9 : s = 9 := by omega
            have h3 : (128 : Nat) ^ 9 = 9223372036854775808 := by decide
            rw [h9, h3]; omega
        have hPb2 : p * 128 ^ s < 18446744073709551616 := by omega
        have hn9 : n < 9223372036854775808 := by
          have h1 : 128 ^ s ≤ 128 ^ 9 := Nat.pow_le_pow_right (by decide) (by omega)
          have h3 : (128 : Nat) ^ 9 = 9223372036854775808 := by decide
          omega
        obtain ⟨P, hP⟩ : ∃ P, P = p * 128 ^ s := ⟨_, rfl⟩
        obtain ⟨m, hm⟩ : ∃ m, n + P = m := ⟨_, rfl⟩
        have SL : Op.shift .shl .u64 (p : Int) .i64 (7 * (s : Int)) = pure (.int .u64 (P : Int)) := by rw [shl7 p s _ rfl, Nat.mod_eq_of_lt hPb2, hP]
        have KW : IntKind.u64.wrap ((n : Int) + (P : Int)) = (m : Int) := by rw [wrapu _ (by omega) (by omega)]; omega
        have WS : IntKind.u64.wrap ((p : Int) * 2 ^ (7 * s)) = (P : Int) := by
          have e : (p : Int) * 2 ^ (7 * s) = ((p * 128 ^ s : Nat) : Int) := by rw [pow7, Int.natCast_mul, Int.natCast_pow]; rfl
          rw [e, ← hP]; exact wrapu _ (by omega) (by omega)
        have HB : Hid (m < 128 ^ (s + 1)) := by
          unfold Hid
          have h4 : p * 128 ^ s ≤ 127 * 128 ^ s := Nat.mul_le_mul_right _ (by omega)
          rw [Nat.pow_succ]; omega
        have HT : Hid (Codec.tc s n (x :: t') = if x.toNat < 128 then (if 0 < x.toNat ∨ s = 0 then some (m, 1) else none) else (Codec.tc (s + 1) m t').map fun r => (r.1, r.2 + 1)) := by
          unfold Hid
          rw [Codec.tc, ← hp, if_neg (by omega), ← hP, hm]
          split
          · rfl
          · rcases Codec.tc (s + 1) m t' with _ | ⟨m, u⟩ <;> rfl
        have hA2 : ((s : Int) == 9) = true → ¬ (1 : Int) < (x.toNat : Int) := by intro h; simp at h; omega
        clear hPb hPb2 hn9 hP hm hp hn
        by_cases h9 : s = 9
        · have hs9 : ((s : Int) == 9) = true := by simp; omega
          have hx2 : ¬ (1 : Int) < (x.toNat : Int) := hA2 hs9
          have hx3 : x.toNat < 128 := by omega
          have hs0 : (0 : Int) < (s : Int) := by omega
          clear hA2 hA
          by_cases h0 : x.toNat = 0
          · have HN : Hid (Codec.coded l = none) := by unfold Hid; rw [htc.out, HT.out, if_pos hx3, if_neg (by omega)]; rfl
            have hx0 : ((x.toNat : Int) == 0) = true := by simp; omega
            have H0 := Lib.hid h0
            clear h0 h9
            go_wp2
            go_ret2
            refine ⟨rfl, ?_⟩
            rw [HN.out]
            rfl
          · have HN : Hid (Codec.coded l = some (m, 1 + s)) := by unfold Hid; rw [htc.out, HT.out, if_pos hx3, if_pos (.inl (by omega))]; rfl
            have hx0 : ((x.toNat : Int) == 0) = false := by simp; omega
            clear h0
            have H9 := Lib.hid h9
            clear h9 hs9
            have hs9 : ((s : Int) == 9) = true := by have := H9.out; simp; omega
            go_wp2
            go_ret2
            refine ⟨rfl, ?_⟩
            rw [HN.out]
            exact congrArg (fun z => Ending.returned (.tuple #[.int .u64 (m : Int), .int .i64 z])) (show (s : Int) + 1 = ((1 + s : Nat) : Int) by omega)
        · have hs9 : ((s : Int) == 9) = false := by simp; omega
          clear hA2 hA h9
          by_cases hx3 : x.toNat < 128
          · by_cases h0 : x.toNat = 0
            · by_cases hz : s = 0
              · have HN : Hid (Codec.coded l = some (m, 1 + s)) := by unfold Hid; rw [htc.out, HT.out, if_pos hx3, if_pos (.inr hz)]; rfl
                have hs0 : ¬ (0 : Int) < (s : Int) := by omega
                have HZ := Lib.hid hz
                have H0 := Lib.hid h0
                clear hz h0
                go_wp2
                go_ret2
                refine ⟨rfl, ?_⟩
                rw [HN.out]
                exact congrArg (fun z => Ending.returned (.tuple #[.int .u64 (m : Int), .int .i64 z])) (show (s : Int) + 1 = ((1 + s : Nat) : Int) by omega)
              · have HN : Hid (Codec.coded l = none) := by unfold Hid; rw [htc.out, HT.out, if_pos hx3, if_neg (by omega)]; rfl
                have hs0 : (0 : Int) < (s : Int) := by omega
                have hx0 : ((x.toNat : Int) == 0) = true := by simp; omega
                have H0 := Lib.hid h0
                clear hz h0
                go_wp2
                go_ret2
                refine ⟨rfl, ?_⟩
                rw [HN.out]
                rfl
            · have HN : Hid (Codec.coded l = some (m, 1 + s)) := by unfold Hid; rw [htc.out, HT.out, if_pos hx3, if_pos (.inl (by omega))]; rfl
              have hx0 : ((x.toNat : Int) == 0) = false := by simp; omega
              clear h0
              by_cases hs0 : (0 : Int) < (s : Int)
              all_goals
                go_wp2
                go_ret2
                refine ⟨rfl, ?_⟩
                rw [HN.out]
                exact congrArg (fun z => Ending.returned (.tuple #[.int .u64 (m : Int), .int .i64 z])) (show (s : Int) + 1 = ((1 + s : Nat) : Int) by omega)
          · have hx4 : ¬ (x.toNat : Int) < 128 := by omega
            have HC2 : Hid (Codec.coded l = (Codec.tc (s + 1) m t').map fun p => (p.1, p.2 + (s + 1))) := by
              unfold Hid
              rw [htc.out, HT.out, if_neg hx3]
              rcases Codec.tc (s + 1) m t' with _ | ⟨m, u⟩
              · rfl
              · simp; omega
            have js : (s : Int) + 1 = ((s + 1 : Nat) : Int) := by omega
            have JS := Lib.hid js
            clear js
            go_wp2
            go_round
            case rel => exact ⟨s + 1, m, t', rfl, by go_num, by omega, by omega, HB.out, htd, HC2⟩
            case measure => simp [intOf]; omega
    · have HN : Hid (Codec.coded l = none) := by
        unfold Hid
        rw [htc.out]
        by_cases h10 : s = 10
        · rw [Codec.tc_none _ _ _ (by omega)]; rfl
        · have : t = [] := by rw [htd.out]; exact List.drop_eq_nil_of_le (by omega)
          rw [this]; rfl
      by_cases h10 : (s : Int) < l.length
      · have h11 : ¬ (s : Int) < 10 := by omega
        clear hlt
        go_wp2
        go_ret2
        refine ⟨rfl, ?_⟩
        rw [HN.out]
        rfl
      · clear hlt
        go_wp2
        go_ret2
        refine ⟨rfl, ?_⟩
        rw [HN.out]
        rfl
end Go.Proofs.Ytbhhjbmpcpjcnaa
