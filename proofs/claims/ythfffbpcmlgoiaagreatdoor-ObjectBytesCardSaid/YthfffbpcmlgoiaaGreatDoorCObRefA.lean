/- The reference of layer 9: texts, letters. Own work. -/
import Derived.Test.YthfffbpcmlgoiaaGreatDoorCObEnc
set_option linter.unusedVariables false
set_option linter.unusedSimpArgs false
namespace Go.Proofs.YthfffbpcmlgoiaaGreatDoor
open Go.RowKit

theorem rletter_any (x : Nat) (w : World) : Calls Tryz.prog 90 #[.int .u8 (x : Int)] w fun e w' => e = .returned (.bool (Obj.letter x)) ∧ Ab w w' := by
  have hx : x ≤ 44 ∨ x = 45 ∨ x = 46 ∨ x = 47 ∨ (48 ≤ x ∧ x ≤ 57) ∨ (58 ≤ x ∧ x ≤ 64) ∨ (65 ≤ x ∧ x ≤ 90) ∨ (91 ≤ x ∧ x ≤ 94) ∨ x = 95 ∨ x = 96 ∨ (97 ≤ x ∧ x ≤ 122) ∨ 123 ≤ x := by omega
  rcases hx with hx | rfl | rfl | rfl | hx | hx | hx | hx | rfl | rfl | hx | hx
  · have hl : Hid (Obj.letter x = false) := by unfold Hid; simp [Obj.letter] <;> omega
    have k1 : ¬ (97 : Int) ≤ (x : Int) := by omega
    have k2 : ¬ (65 : Int) ≤ (x : Int) := by omega
    have k3 : ¬ (48 : Int) ≤ (x : Int) := by omega
    have k4 : (x : Int) ≤ 122 := by omega
    have k5 : (x : Int) ≤ 90 := by omega
    have k6 : (x : Int) ≤ 57 := by omega
    have k7 : ¬ (x : Int) = 45 := by omega
    have k8 : ¬ (x : Int) = 95 := by omega
    have k9 : ¬ (x : Int) = 46 := by omega
    go_enter Tryz.func90, Tryz.ntmps90
    go_wp2
    go_ret
    refine ⟨congrArg (fun b => Ending.returned (Value.bool b)) ?_, abA⟩
    rw [hl.out] <;> first | rfl | simp [k7, k8, k9]
  · go_enter Tryz.func90, Tryz.ntmps90
    go_wp2
    go_ret
    exact ⟨rfl, abA⟩
  · go_enter Tryz.func90, Tryz.ntmps90
    go_wp2
    go_ret
    exact ⟨rfl, abA⟩
  · go_enter Tryz.func90, Tryz.ntmps90
    go_wp2
    go_ret
    exact ⟨rfl, abA⟩
  · have hl : Hid (Obj.letter x = true) := by unfold Hid; simp [Obj.letter] <;> omega
    have k1 : ¬ (97 : Int) ≤ (x : Int) := by omega
    have k2 : ¬ (65 : Int) ≤ (x : Int) := by omega
    have k3 : (48 : Int) ≤ (x : Int) := by omega
    have k4 : (x : Int) ≤ 122 := by omega
    have k5 : (x : Int) ≤ 90 := by omega
    have k6 : (x : Int) ≤ 57 := by omega
    have k7 : ¬ (x : Int) = 45 := by omega
    have k8 : ¬ (x : Int) = 95 := by omega
    have k9 : ¬ (x : Int) = 46 := by omega
    go_enter Tryz.func90, Tryz.ntmps90
    go_wp2
    go_ret
    refine ⟨congrArg (fun b => Ending.returned (Value.bool b)) ?_, abA⟩
    rw [hl.out] <;> first | rfl | simp [k7, k8, k9]
  · have hl : Hid (Obj.letter x = false) := by unfold Hid; simp [Obj.letter] <;> omega
    have k1 : ¬ (97 : Int) ≤ (x : Int) := by omega
    have k2 : ¬ (65 : Int) ≤ (x : Int) := by omega
    have k3 : (48 : Int) ≤ (x : Int) := by omega
    have k4 : (x : Int) ≤ 122 := by omega
    have k5 : (x : Int) ≤ 90 := by omega
    have k6 : ¬ (x : Int) ≤ 57 := by omega
    have k7 : ¬ (x : Int) = 45 := by omega
    have k8 : ¬ (x : Int) = 95 := by omega
    have k9 : ¬ (x : Int) = 46 := by omega
    go_enter Tryz.func90, Tryz.ntmps90
    go_wp2
    go_ret
    refine ⟨congrArg (fun b => Ending.returned (Value.bool b)) ?_, abA⟩
    rw [hl.out] <;> first | rfl | simp [k7, k8, k9]
  · have hl : Hid (Obj.letter x = true) := by unfold Hid; simp [Obj.letter] <;> omega
    have k1 : ¬ (97 : Int) ≤ (x : Int) := by omega
    have k2 : (65 : Int) ≤ (x : Int) := by omega
    have k3 : (48 : Int) ≤ (x : Int) := by omega
    have k4 : (x : Int) ≤ 122 := by omega
    have k5 : (x : Int) ≤ 90 := by omega
    have k6 : ¬ (x : Int) ≤ 57 := by omega
    have k7 : ¬ (x : Int) = 45 := by omega
    have k8 : ¬ (x : Int) = 95 := by omega
    have k9 : ¬ (x : Int) = 46 := by omega
    go_enter Tryz.func90, Tryz.ntmps90
    go_wp2
    go_ret
    refine ⟨congrArg (fun b => Ending.returned (Value.bool b)) ?_, abA⟩
    rw [hl.out] <;> first | rfl | simp [k7, k8, k9]
  · have hl : Hid (Obj.letter x = false) := by unfold Hid; simp [Obj.letter] <;> omega
    have k1 : ¬ (97 : Int) ≤ (x : Int) := by omega
    have k2 : (65 : Int) ≤ (x : Int) := by omega
    have k3 : (48 : Int) ≤ (x : Int) := by omega
    have k4 : (x : Int) ≤ 122 := by omega
    have k5 : ¬ (x : Int) ≤ 90 := by omega
    have k6 : ¬ (x : Int) ≤ 57 := by omega
    have k7 : ¬ (x : Int) = 45 := by omega
    have k8 : ¬ (x : Int) = 95 := by omega
    have k9 : ¬ (x : Int) = 46 := by omega
    go_enter Tryz.func90, Tryz.ntmps90
    go_wp2
    go_ret
    refine ⟨congrArg (fun b => Ending.returned (Value.bool b)) ?_, abA⟩
    rw [hl.out] <;> first | rfl | simp [k7, k8, k9]
  · go_enter Tryz.func90, Tryz.ntmps90
    go_wp2
    go_ret
    exact ⟨rfl, abA⟩
  · go_enter Tryz.func90, Tryz.ntmps90
    go_wp2
    go_ret
    exact ⟨rfl, abA⟩
  · have hl : Hid (Obj.letter x = true) := by unfold Hid; simp [Obj.letter] <;> omega
    have k1 : (97 : Int) ≤ (x : Int) := by omega
    have k2 : (65 : Int) ≤ (x : Int) := by omega
    have k3 : (48 : Int) ≤ (x : Int) := by omega
    have k4 : (x : Int) ≤ 122 := by omega
    have k5 : ¬ (x : Int) ≤ 90 := by omega
    have k6 : ¬ (x : Int) ≤ 57 := by omega
    have k7 : ¬ (x : Int) = 45 := by omega
    have k8 : ¬ (x : Int) = 95 := by omega
    have k9 : ¬ (x : Int) = 46 := by omega
    go_enter Tryz.func90, Tryz.ntmps90
    go_wp2
    go_ret
    refine ⟨congrArg (fun b => Ending.returned (Value.bool b)) ?_, abA⟩
    rw [hl.out] <;> first | rfl | simp [k7, k8, k9]
  · have hl : Hid (Obj.letter x = false) := by unfold Hid; simp [Obj.letter] <;> omega
    have k1 : (97 : Int) ≤ (x : Int) := by omega
    have k2 : (65 : Int) ≤ (x : Int) := by omega
    have k3 : (48 : Int) ≤ (x : Int) := by omega
    have k4 : ¬ (x : Int) ≤ 122 := by omega
    have k5 : ¬ (x : Int) ≤ 90 := by omega
    have k6 : ¬ (x : Int) ≤ 57 := by omega
    have k7 : ¬ (x : Int) = 45 := by omega
    have k8 : ¬ (x : Int) = 95 := by omega
    have k9 : ¬ (x : Int) = 46 := by omega
    go_enter Tryz.func90, Tryz.ntmps90
    go_wp2
    go_ret
    refine ⟨congrArg (fun b => Ending.returned (Value.bool b)) ?_, abA⟩
    rw [hl.out] <;> first | rfl | simp [k7, k8, k9]
set_option maxRecDepth 100000 in
theorem rfeeds_any (A : Option Addr) (l : List UInt8) (c : Nat) (w : World) (hb : RB w 0 A l) (hc : l.length ≤ c) (ll : l.length ≤ 1000000) : Calls Tryz.prog 89 #[.slice A l.length c] w fun e w' => e = .returned (.int .i64 (l.count 10 : Nat)) ∧ Ab w w' := by
  have HB := Lib.hid hb
  clear hb
  go_enter Tryz.func89, Tryz.ntmps89
  go_wp2_with fail
  go_loopw [3, 4] (fun s i w' => ∃ k : Nat, k ≤ l.length ∧ i = .int .i64 k ∧ s = .int .i64 ((l.take k).count 10 : Nat) ∧ Ab w w') (fun _ i _ => l.length - (intOf i).toNat)
  case atStart => exact ⟨0, Nat.zero_le _, rfl, rfl, abA⟩
  case round =>
    obtain ⟨k, hk, rfl, rfl, hb⟩ := hrel
    rename World => w1
    by_cases hlt : k < l.length
    · have hT : (k : Int) < l.length := by omega
      obtain ⟨ad, rfl, _, hcell⟩ := HB.out (by omega)
      have c0 := hb.at (hcell k hlt)
      have hS : (l.take (k + 1)).count 10 = (l.take k).count 10 + (if l[k] = 10 then 1 else 0) := by
        rw [List.take_add_one, List.getElem?_eq_getElem hlt, List.count_append]
        simp only [Option.toList_some, List.count_singleton, beq_iff_eq]
      have hle : (l.take k).count 10 ≤ 1000000 := Nat.le_trans List.count_le_length (by simp; omega)
      have h10 : ((l[k]).toNat : Int) = 10 ↔ l[k] = 10 := by
        constructor
        · intro h
          refine UInt8.toNat_inj.1 ?_
          have : (l[k]).toNat = 10 := by omega
          rw [this]; rfl
        · intro h; rw [h]; rfl
      have HS := Lib.hid hS
      clear hS
      generalize (l.take k).count 10 = n at *
      generalize l[k] = x at *
      unfold cb at c0
      by_cases h : x = 10
      · have hx := h10.2 h
        have hF : Hid ((l.take (k + 1)).count 10 = n + 1) := by unfold Hid; rw [HS.out, if_pos h]
        clear HS h10 h
        go_wp2
        go_roundw
        case rel => exact ⟨k + 1, by omega, by go_num, by rw [hF.out]; go_num, hb.trans abA⟩
        case measure => simp [intOf]; omega
      · have hx : ¬ (x.toNat : Int) = 10 := fun e => h (h10.1 e)
        have hF : Hid ((l.take (k + 1)).count 10 = n) := by unfold Hid; rw [HS.out, if_neg h]; rfl
        clear HS h10 h
        go_wp2
        go_roundw
        case rel => exact ⟨k + 1, by omega, by go_num, by rw [hF.out], hb.trans abA⟩
        case measure => simp [intOf]; omega
    · obtain rfl : k = l.length := by omega
      have hF : Hid ((l.take l.length).count 10 = l.count 10) := by unfold Hid; rw [List.take_length]
      rw [hF.out]
      go_wp2
      go_ret
      exact ⟨rfl, hb⟩
theorem rtext_any (A : Option Addr) (l : List UInt8) (c : Nat) (w : World) (hb : RB w 0 A l) (hc : l.length ≤ c) (ll : l.length ≤ 9223372036854775807) : Calls Tryz.prog 56 #[.slice A l.length c] w fun e w' => e = .returned (.bool (Obj.text l)) ∧ Ab w w' := by
  by_cases h : l.length ≤ 2000
  · have hT : (l.length : Int) ≤ 2000 := by omega
    have HO : Hid (Obj.text l = decide ((l.count 10 : Nat) < 60)) := by unfold Hid Obj.text; simp [h]
    have C := fun w' (hk : Ab w w') => rfeeds_any A l c w' (hb.ab hk) hc (by omega)
    generalize Obj.text l = q at *
    generalize l.count 10 = n at *
    go_enter Tryz.func56, Tryz.ntmps56
    go_wp2_with fail
    refine (C _ abA).mono ?_
    rintro e w1 ⟨rfl, hb1⟩
    go_wp2
    go_ret
    exact ⟨congrArg (fun b => Ending.returned (Value.bool b)) (by rw [HO.out]; simp <;> omega), hb1⟩
  · have hT : ¬ (l.length : Int) ≤ 2000 := by omega
    have HO : Hid (Obj.text l = false) := by unfold Hid Obj.text; simp [h]
    go_enter Tryz.func56, Tryz.ntmps56
    go_wp2
    go_ret
    exact ⟨by rw [HO.out]; rfl, abA⟩
theorem bytes_inj9 {a b : ByteArray} (h : a.data.toList = b.data.toList) : a = b := ByteArray.ext (Array.ext' h)
set_option maxRecDepth 100000 in
theorem rpath_any (l : List UInt8) (w : World) : Calls Tryz.prog 57 #[.string ⟨l.toArray⟩] w fun e w' => e = .returned (.bool (Obj.path l)) ∧ Ab w w' := by
  have hsz : (⟨l.toArray⟩ : ByteArray).size = l.length := rfl
  by_cases h1 : l.length < 1
  · have k1 : (l.length : Int) < 1 := by omega
    have HP : Hid (Obj.path l = false) := by unfold Hid; rw [Obj.path_ref]; simp; omega
    go_enter Tryz.func57, Tryz.ntmps57
    go_wp2
    go_ret
    exact ⟨by rw [HP.out]; rfl, abA⟩
  · by_cases h60 : 60 < l.length
    · have k1 : ¬ (l.length : Int) < 1 := by omega
      have k2 : (60 : Int) < (l.length : Int) := by omega
      have HP : Hid (Obj.path l = false) := by unfold Hid; rw [Obj.path_ref]; simp; omega
      go_enter Tryz.func57, Tryz.ntmps57
      go_wp2
      go_ret
      exact ⟨by rw [HP.out]; rfl, abA⟩
    · have k1 : ¬ (l.length : Int) < 1 := by omega
      have k2 : ¬ (60 : Int) < (l.length : Int) := by omega
      have HP : Hid (Obj.path l = Obj.scan l []) := by unfold Hid; rw [Obj.path_ref]; simp; omega
      have LT := fun x w' => rletter_any x w'
      generalize Obj.path l = z at *
      go_enter Tryz.func57, Tryz.ntmps57
      go_wp2_with fail
      go_loopw [3, 4] (fun p i w' => ∃ (k : Nat) (q : List UInt8), k ≤ l.length + 1 ∧ i = .int .i64 k ∧ p = .string ⟨q.toArray⟩ ∧ q.length ≤ k ∧ Hid (k ≤ l.length → Obj.scan l [] = Obj.scan (l.drop k) q) ∧ Hid (k = l.length + 1 → Obj.scan l [] = true) ∧ Ab w w') (fun _ i _ => l.length + 1 - (intOf i).toNat)
      case atStart => exact ⟨0, [], by omega, rfl, rfl, Nat.le_refl _, Lib.hid fun _ => rfl, Lib.hid fun h => by omega, abA⟩
      case round =>
        obtain ⟨k, q, hk, rfl, rfl, hql, hA, hB, hb⟩ := hrel
        rename World => w1
        by_cases hlt : k < l.length
        · have hT : (k : Int) ≤ l.length := by omega
          have hT2 : (k : Int) < l.length := by omega
          have hgk : (⟨l.toArray⟩ : ByteArray)[k]'(by rw [hsz]; exact hlt) = l[k] := rfl
          have hS0 : Hid (Obj.scan l [] = Obj.scan (l[k] :: l.drop (k + 1)) q) := by
            unfold Hid
            rw [hA.out (by omega), List.drop_eq_getElem_cons hlt]
          by_cases h47 : l[k] = 47
          · have e47 : ((l[k].toNat : Nat) : Int) = 47 := by rw [h47]; rfl
            have HX : Hid (Obj.scan l [] = (Obj.ok q && Obj.scan (l.drop (k + 1)) [])) := by unfold Hid; rw [hS0.out, Obj.scan, if_pos h47]
            have g47 : (((⟨l.toArray⟩ : ByteArray)[k]'(by rw [hsz]; exact hlt)).toNat : Int) = 47 := e47
            clear hA hB hS0
            go_wp2_with fail
            · rename_i hq
              subst hq
              go_ret
              exact ⟨congrArg (fun b => Ending.returned (Value.bool b)) (by rw [HP.out, HX.out]; rfl), hb⟩
            · rename_i n0 hq
              subst hq
              go_ret
              exact ⟨congrArg (fun b => Ending.returned (Value.bool b)) (by rw [HP.out, HX.out]; rfl), hb⟩
            · rename_i n0 n1 hq
              have hq' : q = [46, 46] := by simpa [n0, n1] using hq
              subst hq'
              go_ret
              exact ⟨congrArg (fun b => Ending.returned (Value.bool b)) (by rw [HP.out, HX.out]; rfl), hb⟩
            · rename_i n0 n1 n2
              have hok : Obj.ok q = true := by simp [Obj.ok, n0, n1, n2]
              rw [hok] at HX
              go_roundw
              case rel => exact ⟨k + 1, [], by omega, by go_num, rfl, Nat.zero_le _, Lib.hid fun _ => by rw [HX.out]; rfl, Lib.hid fun h => by omega, hb.trans abA⟩
              case measure => simp [intOf] <;> omega
          · have n47 : ¬ ((((⟨l.toArray⟩ : ByteArray)[k]'(by rw [hsz]; exact hlt)).toNat : Nat) : Int) = 47 := fun e => h47 (UInt8.toNat_inj.1 (by
              have : (l[k]).toNat = 47 := by exact_mod_cast e
              rw [this]; rfl))
            have HX : Hid (Obj.scan l [] = (Obj.letter l[k].toNat && Obj.scan (l.drop (k + 1)) (q ++ [l[k]]))) := by unfold Hid; rw [hS0.out, Obj.scan, if_neg h47]
            have n47' : ¬ (((l[k]).toNat : Nat) : Int) = 47 := n47
            have hov : ¬ 9223372036854775807 < q.length + (min (k + 1) l.length - k) := by omega
            have hstr : Hid ((⟨q.toArray⟩ : ByteArray) ++ (⟨l.toArray⟩ : ByteArray).extract k (k + 1) = ⟨(q ++ [l[k]]).toArray⟩) := by
              unfold Hid
              refine bytes_inj9 ?_
              rw [ByteArray.data_append, ByteArray.data_extract]
              simp only [Array.toList_append, Array.toList_extract, List.extract_eq_take_drop]
              rw [show k + 1 - k = 1 by omega]
              have e1 : List.take 1 (List.drop k l) = [l[k]] := by rw [List.drop_eq_getElem_cons hlt]; rfl
              rw [e1]
            clear hA hB hS0
            go_wp2_with fail
            refine (LT _ _).mono ?_
            rintro e w2 ⟨rfl, hb2⟩
            cases hlet : Obj.letter l[k].toNat with
            | false =>
              rw [hlet] at HX
              go_wp2
              go_ret
              exact ⟨congrArg (fun b => Ending.returned (Value.bool b)) (by rw [HP.out, HX.out]; rfl), hb.trans (Ab.trans (by exact abA) hb2)⟩
            | true =>
              rw [hlet] at HX
              go_wp2
              go_roundw
              case rel => exact ⟨k + 1, q ++ [l[k]], by omega, by go_num, congrArg Value.string hstr.out, by simp; omega, Lib.hid fun _ => by rw [HX.out]; rfl, Lib.hid fun h => by omega, hb.trans (Ab.trans (by exact abA) hb2)⟩
              case measure => simp [intOf] <;> omega
        · by_cases hl : k = l.length
          · subst hl
            have HX : Hid (Obj.scan l [] = Obj.ok q) := by unfold Hid; rw [hA.out (Nat.le_refl _), List.drop_of_length_le (Nat.le_refl _)]; rfl
            have hT : ((l.length : Nat) : Int) ≤ l.length := Int.le_refl _
            clear hA hB
            go_wp2_with fail
            · rename_i hq
              subst hq
              go_ret
              exact ⟨congrArg (fun b => Ending.returned (Value.bool b)) (by rw [HP.out, HX.out]; rfl), hb⟩
            · rename_i n0 hq
              subst hq
              go_ret
              exact ⟨congrArg (fun b => Ending.returned (Value.bool b)) (by rw [HP.out, HX.out]; rfl), hb⟩
            · rename_i n0 n1 hq
              have hq' : q = [46, 46] := by simpa [n0, n1] using hq
              subst hq'
              go_ret
              exact ⟨congrArg (fun b => Ending.returned (Value.bool b)) (by rw [HP.out, HX.out]; rfl), hb⟩
            · rename_i n0 n1 n2
              have hok : Obj.ok q = true := by simp [Obj.ok, n0, n1, n2]
              rw [hok] at HX
              go_roundw
              case rel => exact ⟨l.length + 1, [], by omega, by go_num, rfl, Nat.zero_le _, Lib.hid fun h => by omega, Lib.hid fun _ => HX.out, hb.trans abA⟩
              case measure => simp [intOf] <;> omega
          · have e : k = l.length + 1 := by omega
            have hT : ¬ (k : Int) ≤ l.length := by omega
            have HX : Hid (Obj.scan l [] = true) := hB.out e
            clear e hA hB hl
            go_wp2
            go_ret
            exact ⟨congrArg (fun b => Ending.returned (Value.bool b)) (by rw [HP.out, HX.out]), hb⟩
end Go.Proofs.YthfffbpcmlgoiaaGreatDoor
