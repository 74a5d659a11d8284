/- The texts ObPath, ObShelf, one behind the other. Own work. -/
import Derived.Lib.Split
import Derived.Lib.SplitLaws
import Derived.Lib.IndexLaws
import Derived.Lib.IndexBytes
import Derived.Laws.RangeString
import Derived.Laws.RangeAny
import Derived.Shelf.GgClosure.StringsIndexFunc
import Derived.Shelf.Strings.Search3
import Derived.Shelf.Strings.Count
import Derived.Shelf.Strings.Split
import Derived.Shelf.Bytes.SlCountOne
import Derived.Test.YthfffbpcmlgoiaaGreatDoorProg
set_option linter.unusedVariables false
set_option linter.unusedSimpArgs false
/- Paths and texts of objects: parts, letters (mathematics). Own work. -/
namespace Go.Proofs.YthfffbpcmlgoiaaGreatDoor
namespace Obj
def letter (n : Nat) : Bool := (97 ≤ n && n ≤ 122) || (65 ≤ n && n ≤ 90) || (48 ≤ n && n ≤ 57) || n == 45 || n == 95 || n == 46
theorem letter_low {n : Nat} (h : letter n = true) : n < 128 := by
  simp [letter] at h; omega
/-- The parts of bytes between slashes. -/
def parts : List UInt8 → List (List UInt8)
  | [] => [[]]
  | c :: l => if c = 47 then [] :: parts l else match parts l with
    | [] => [[c]]
    | p :: ps => (c :: p) :: ps
theorem parts_ne (l : List UInt8) : ∃ p ps, parts l = p :: ps := by
  cases l with
  | nil => exact ⟨[], [], rfl⟩
  | cons c l =>
    unfold parts
    split
    · exact ⟨_, _, rfl⟩
    · split <;> exact ⟨_, _, rfl⟩
theorem parts_slash (l : List UInt8) : parts (47 :: l) = [] :: parts l := by rw [parts, if_pos rfl]
theorem parts_cons {c : UInt8} (hc : c ≠ 47) {l p : List UInt8} {ps : List (List UInt8)} (h : parts l = p :: ps) : parts (c :: l) = (c :: p) :: ps := by
  rw [parts, if_neg hc, h]
theorem parts_none : ∀ l : List UInt8, 47 ∉ l → parts l = [l]
  | [], _ => rfl
  | c :: l, h => by
    simp at h
    exact parts_cons (fun e => h.1 e.symm) (parts_none l h.2)
theorem parts_split : ∀ (a b : List UInt8), 47 ∉ a → parts (a ++ 47 :: b) = a :: parts b
  | [], b, _ => parts_slash b
  | c :: a, b, h => by
    simp at h
    exact parts_cons (fun e => h.1 e.symm) (parts_split a b h.2)
theorem parts_length : ∀ l : List UInt8, (parts l).length ≤ l.length + 1
  | [] => Nat.le_refl _
  | c :: l => by
    have ih := parts_length l
    obtain ⟨p, ps, e⟩ := parts_ne l
    by_cases h : c = 47
    · subst h
      rw [parts_slash]
      simp only [List.length_cons]
      omega
    · rw [parts_cons h e]
      rw [e] at ih
      simp only [List.length_cons] at ih ⊢
      omega
def ok (p : List UInt8) : Bool := !(p == [] || p == [46] || p == [46, 46])
def good (p : List UInt8) : Bool := ok p && p.all fun c => letter c.toNat
/-- Is it a path? -/
def path (l : List UInt8) : Bool := decide (l.length ≤ 60) && (parts l).all good
def scan : List UInt8 → List UInt8 → Bool
  | [], p => ok p
  | c :: l, p => if c = 47 then ok p && scan l [] else letter c.toNat && scan l (p ++ [c])
theorem scan_parts : ∀ (l p q : List UInt8) (ps : List (List UInt8)), parts l = q :: ps → scan l p = (ok (p ++ q) && q.all (fun c => letter c.toNat) && ps.all good)
  | [], p, q, ps, h => by
    cases h
    simp [scan]
  | c :: l, p, q, ps, h => by
    obtain ⟨q', ps', e⟩ := parts_ne l
    by_cases hc : c = 47
    · subst hc
      rw [parts_slash] at h
      cases h
      rw [scan, if_pos rfl, scan_parts l [] q' ps' e, e]
      simp [good, Bool.and_assoc]
    · rw [parts_cons hc e] at h
      cases h
      rw [scan, if_neg hc, scan_parts l (p ++ [c]) q' _ e, List.append_assoc]
      simp only [List.all_cons, List.singleton_append]
      cases letter c.toNat <;> simp
theorem scan_all (l : List UInt8) : scan l [] = (parts l).all good := by
  obtain ⟨q, ps, e⟩ := parts_ne l
  rw [scan_parts l [] q ps e, e]
  simp [good]
/-- The reference's way. -/
theorem path_ref (l : List UInt8) : path l = (decide (1 ≤ l.length) && decide (l.length ≤ 60) && scan l []) := by
  rw [scan_all]
  unfold path
  cases l with
  | nil => rfl
  | cons c l => simp
/-- The library's way. -/
theorem split_parts : ∀ (k : Nat) (l : List UInt8), l.count 47 = k → Lib.splitK [47] 0 k l = parts l
  | 0, l, h => by
    rw [parts_none l (by intro hm; have := List.count_pos_iff.2 hm; omega)]
    rfl
  | k + 1, l, h => by
    rw [Lib.splitK, Lib.index_one]
    have hge := Lib.indexByte_ge l 47
    by_cases e : Lib.indexByte l 47 = -1
    · have := Lib.indexByte_none e
      have hm : 47 ∈ l := List.count_pos_iff.1 (by omega)
      obtain ⟨i, hi, he⟩ := List.getElem_of_mem hm
      exact absurd (by rw [List.getElem?_eq_getElem hi, he]) (this i)
    · obtain ⟨o, ho⟩ : ∃ o : Nat, Lib.indexByte l 47 = (o : Int) := ⟨(Lib.indexByte l 47).toNat, by omega⟩
      obtain ⟨h1, h2⟩ := Lib.indexByte_some ho
      rw [ho, if_neg (by simp <;> omega)]
      have hlt : o < l.length := (List.getElem?_eq_some_iff.1 h1).1
      have hl : l = l.take o ++ 47 :: l.drop (o + 1) := by
        conv => lhs; rw [← List.take_append_drop o l]
        rw [List.drop_eq_getElem_cons hlt]
        have := (List.getElem?_eq_some_iff.1 h1).2
        rw [this]
      have hn : 47 ∉ l.take o := by
        intro hm
        obtain ⟨i, hi, he⟩ := List.getElem_of_mem hm
        rw [List.length_take] at hi
        refine h2 i (by omega) ?_
        rw [List.getElem_take] at he
        rw [List.getElem?_eq_getElem (by omega), he]
      have hc : (l.drop (o + 1)).count 47 = k := by
        have := congrArg (List.count (47 : UInt8)) hl
        rw [List.count_append, List.count_cons_self, List.count_eq_zero.2 hn] at this
        omega
      show l.take (((o : Int)).toNat + 0) :: Lib.splitK [47] 0 k (l.drop (((o : Int)).toNat + 1)) = _
      rw [Int.toNat_natCast, Nat.add_zero, split_parts k _ hc]
      conv => rhs; rw [hl]
      rw [parts_split _ _ hn]
theorem splitB_parts (s : ByteArray) : (Lib.splitB ⟨#[47]⟩ 0 (Lib.countB s ⟨#[47]⟩) s).map (·.data.toList) = parts s.data.toList := by
  rw [Lib.splitB_data]
  refine split_parts _ _ ?_
  exact (Lib.count_one 47 s.data.toList).symm
theorem idx_from (s : ByteArray) : ∀ (f pos : Nat), s.size ≤ pos + f → (Lib.idxFuncFrom (fun x => !letter x) true s f pos = -1 ↔ ∀ (i : Nat) (h : i < s.size), pos ≤ i → letter (s[i]'h).toNat = true)
  | 0, pos, hf => by
    constructor
    · intro _ i h hp
      omega
    · intro _
      rfl
  | f + 1, pos, hf => by
    unfold Lib.idxFuncFrom
    by_cases hp : pos < s.size
    · rw [if_pos hp]
      by_cases ha : (s[pos]'hp).toNat < 128
      · rw [decode_ascii s pos hp ha]
        by_cases hl : letter (s[pos]'hp).toNat = true
        · rw [if_neg (by simp [hl])]
          rw [idx_from s f (pos + 1) (by omega)]
          constructor
          · intro h i hi hpi
            by_cases e : i = pos
            · subst e; exact hl
            · exact h i hi (by omega)
          · intro h i hi hpi
            exact h i hi (by omega)
        · rw [if_pos (by simp [hl])]
          constructor
          · intro h; omega
          · intro h; exact absurd (h pos hp (Nat.le_refl _)) hl
      · have hd := (decode_high s pos hp (by omega)).1
        have hn : letter (Utf8.decode s pos).1 = false := by
          cases h : letter (Utf8.decode s pos).1
          · rfl
          · have := letter_low h; omega
        rw [if_pos (by simp [hn])]
        constructor
        · intro h; omega
        · intro h
          have := letter_low (h pos hp (Nat.le_refl _))
          omega
    · rw [if_neg hp]
      constructor
      · intro _ i h hpi; omega
      · intro _; rfl
theorem idx_all (s : ByteArray) : decide (0 ≤ Lib.idxFunc (fun x => !letter x) true s) = !(s.data.toList.all fun c => letter c.toNat) := by
  have h1 := idx_from s s.size 0 (by omega)
  have h2 := Lib.idxFuncFrom_range (fun x => !letter x) true s s.size 0
  unfold Lib.idxFunc
  cases e : s.data.toList.all fun c => letter c.toNat
  · have hne : ¬ Lib.idxFuncFrom (fun x => !letter x) true s s.size 0 = -1 := by
      intro h
      have h3 := h1.1 h
      have : (s.data.toList.all fun c => letter c.toNat) = true := by
        rw [List.all_eq_true]
        intro c hc
        obtain ⟨i, hi, he⟩ := List.getElem_of_mem hc
        have := h3 i (by simpa using hi) (Nat.zero_le _)
        rw [← he]
        exact this
      rw [e] at this; cases this
    simp; omega
  · have : Lib.idxFuncFrom (fun x => !letter x) true s s.size 0 = -1 := by
      refine h1.2 fun i hi _ => ?_
      rw [List.all_eq_true] at e
      exact e _ (List.getElem_mem (by simpa using hi))
    rw [this]; rfl
end Obj
end Go.Proofs.YthfffbpcmlgoiaaGreatDoor

/- Where the library's functions that objects use lie in this program: tables of numbers and the kernel's comparison. Written by shelf.sh for one seat. -/
namespace Go.Proofs
open Go.Shelf
def Tryz.lays143_ren : Go.Shelf.Ren := ⟨fun | 143 => 143 | 219 => 151 | 217 => 154 | 225 => 155 | 224 => 127 | 267 => 156 | 266 => 157 | 314 => 158 | n => n, fun | 9 => 9 | 3 => 3 | 4 => 4 | 5 => 5 | 46 => 148 | 146 => 182 | 51 => 100 | n => n, fun | 1 => 1 | n => n⟩
theorem Tryz.lays143 : Go.Proofs.Lays.n143 Tryz.prog Tryz.lays143_ren := {
  mixed := by kernel_rfl
  f143 := Tryz.func143.trans (congrArg some (by kernel_rfl))
  f217 := Tryz.func154.trans (congrArg some (by kernel_rfl))
  f219 := Tryz.func151.trans (congrArg some (by kernel_rfl))
  f224 := Tryz.func127.trans (congrArg some (by kernel_rfl))
  f225 := Tryz.func155.trans (congrArg some (by kernel_rfl))
  f266 := Tryz.func157.trans (congrArg some (by kernel_rfl))
  f267 := Tryz.func156.trans (congrArg some (by kernel_rfl))
  f314 := Tryz.func158.trans (congrArg some (by kernel_rfl))
  t3 := Tryz.underlying3
  a3 := Tryz.isAgg3
  z3 := Tryz.sizeOf3
  v3 := Tryz.zeroValue3
  t4 := Tryz.underlying4
  a4 := Tryz.isAgg4
  z4 := Tryz.sizeOf4
  v4 := Tryz.zeroValue4
  t5 := Tryz.underlying5
  a5 := Tryz.isAgg5
  z5 := Tryz.sizeOf5
  v5 := Tryz.zeroValue5
  t9 := Tryz.underlying9
  a9 := Tryz.isAgg9
  z9 := Tryz.sizeOf9
  v9 := Tryz.zeroValue9
  t46 := Tryz.underlying148
  a46 := Tryz.isAgg148
  z46 := Tryz.sizeOf148
  v46 := Tryz.zeroValue148
  t51 := Tryz.underlying100
  a51 := Tryz.isAgg100
  z51 := Tryz.sizeOf100
  v51 := Tryz.zeroValue100
  t146 := Tryz.underlying182
  a146 := Tryz.isAgg182
  z146 := Tryz.sizeOf182
  v146 := Tryz.zeroValue182
  g1 := by kernel_rfl }
def Tryz.lays138_ren : Go.Shelf.Ren := ⟨fun | 138 => 142 | 195 => 124 | 218 => 150 | 143 => 143 | 219 => 151 | 217 => 154 | 225 => 155 | 224 => 127 | 267 => 156 | 266 => 157 | 314 => 158 | n => n, fun | 9 => 9 | 3 => 3 | 4 => 4 | 5 => 5 | 0 => 0 | 46 => 148 | 146 => 182 | 51 => 100 | n => n, fun | 1 => 1 | n => n⟩
theorem Tryz.lays138 : Go.Proofs.Lays.n138 Tryz.prog Tryz.lays138_ren := {
  mixed := by kernel_rfl
  f138 := Tryz.func142.trans (congrArg some (by kernel_rfl))
  f143 := Tryz.func143.trans (congrArg some (by kernel_rfl))
  f195 := Tryz.func124.trans (congrArg some (by kernel_rfl))
  f217 := Tryz.func154.trans (congrArg some (by kernel_rfl))
  f218 := Tryz.func150.trans (congrArg some (by kernel_rfl))
  f219 := Tryz.func151.trans (congrArg some (by kernel_rfl))
  f224 := Tryz.func127.trans (congrArg some (by kernel_rfl))
  f225 := Tryz.func155.trans (congrArg some (by kernel_rfl))
  f266 := Tryz.func157.trans (congrArg some (by kernel_rfl))
  f267 := Tryz.func156.trans (congrArg some (by kernel_rfl))
  f314 := Tryz.func158.trans (congrArg some (by kernel_rfl))
  t0 := Tryz.underlying0
  a0 := Tryz.isAgg0
  z0 := Tryz.sizeOf0
  v0 := Tryz.zeroValue0
  t3 := Tryz.underlying3
  a3 := Tryz.isAgg3
  z3 := Tryz.sizeOf3
  v3 := Tryz.zeroValue3
  t4 := Tryz.underlying4
  a4 := Tryz.isAgg4
  z4 := Tryz.sizeOf4
  v4 := Tryz.zeroValue4
  t5 := Tryz.underlying5
  a5 := Tryz.isAgg5
  z5 := Tryz.sizeOf5
  v5 := Tryz.zeroValue5
  t9 := Tryz.underlying9
  a9 := Tryz.isAgg9
  z9 := Tryz.sizeOf9
  v9 := Tryz.zeroValue9
  t46 := Tryz.underlying148
  a46 := Tryz.isAgg148
  z46 := Tryz.sizeOf148
  v46 := Tryz.zeroValue148
  t51 := Tryz.underlying100
  a51 := Tryz.isAgg100
  z51 := Tryz.sizeOf100
  v51 := Tryz.zeroValue100
  t146 := Tryz.underlying182
  a146 := Tryz.isAgg182
  z146 := Tryz.sizeOf182
  v146 := Tryz.zeroValue182
  g1 := by kernel_rfl }
def Tryz.lays315_ren : Go.Shelf.Ren := ⟨fun | 315 => 152 | n => n, fun | 9 => 9 | 40 => 175 | 4 => 4 | 3 => 3 | 0 => 0 | 21 => 21 | n => n, fun | n => n⟩
theorem Tryz.lays315 : Go.Proofs.Lays.n315 Tryz.prog Tryz.lays315_ren := {
  mixed := by kernel_rfl
  f315 := Tryz.func152.trans (congrArg some (by kernel_rfl))
  t0 := Tryz.underlying0
  a0 := Tryz.isAgg0
  z0 := Tryz.sizeOf0
  v0 := Tryz.zeroValue0
  t3 := Tryz.underlying3
  a3 := Tryz.isAgg3
  z3 := Tryz.sizeOf3
  v3 := Tryz.zeroValue3
  t4 := Tryz.underlying4
  a4 := Tryz.isAgg4
  z4 := Tryz.sizeOf4
  v4 := Tryz.zeroValue4
  t9 := Tryz.underlying9
  a9 := Tryz.isAgg9
  z9 := Tryz.sizeOf9
  v9 := Tryz.zeroValue9
  t21 := Tryz.underlying21
  a21 := Tryz.isAgg21
  z21 := Tryz.sizeOf21
  v21 := Tryz.zeroValue21
  t40 := Tryz.underlying175
  a40 := Tryz.isAgg175
  z40 := Tryz.sizeOf175
  v40 := Tryz.zeroValue175 }
def Tryz.lays221_ren : Go.Shelf.Ren := ⟨fun | 221 => 130 | 268 => 141 | 138 => 142 | 143 => 143 | 195 => 124 | 197 => 149 | 218 => 150 | 219 => 151 | 260 => 153 | 217 => 154 | 225 => 155 | 224 => 127 | 267 => 156 | 266 => 157 | 314 => 158 | n => n, fun | 9 => 9 | 3 => 3 | 31 => 152 | 4 => 4 | 0 => 0 | 105 => 190 | 21 => 21 | 5 => 5 | 46 => 148 | 119 => 194 | 139 => 197 | 138 => 196 | 146 => 182 | 51 => 100 | n => n, fun | 1 => 1 | 3 => 3 | 4 => 4 | n => n⟩
theorem Tryz.lays221 : Go.Proofs.Lays.n221 Tryz.prog Tryz.lays221_ren := {
  mixed := by kernel_rfl
  f138 := Tryz.func142.trans (congrArg some (by kernel_rfl))
  f143 := Tryz.func143.trans (congrArg some (by kernel_rfl))
  f195 := Tryz.func124.trans (congrArg some (by kernel_rfl))
  f197 := Tryz.func149.trans (congrArg some (by kernel_rfl))
  f217 := Tryz.func154.trans (congrArg some (by kernel_rfl))
  f218 := Tryz.func150.trans (congrArg some (by kernel_rfl))
  f219 := Tryz.func151.trans (congrArg some (by kernel_rfl))
  f221 := Tryz.func130.trans (congrArg some (by kernel_rfl))
  f224 := Tryz.func127.trans (congrArg some (by kernel_rfl))
  f225 := Tryz.func155.trans (congrArg some (by kernel_rfl))
  f260 := Tryz.func153.trans (congrArg some (by kernel_rfl))
  f266 := Tryz.func157.trans (congrArg some (by kernel_rfl))
  f267 := Tryz.func156.trans (congrArg some (by kernel_rfl))
  f268 := Tryz.func141.trans (congrArg some (by kernel_rfl))
  f314 := Tryz.func158.trans (congrArg some (by kernel_rfl))
  t0 := Tryz.underlying0
  a0 := Tryz.isAgg0
  z0 := Tryz.sizeOf0
  v0 := Tryz.zeroValue0
  t3 := Tryz.underlying3
  a3 := Tryz.isAgg3
  z3 := Tryz.sizeOf3
  v3 := Tryz.zeroValue3
  t4 := Tryz.underlying4
  a4 := Tryz.isAgg4
  z4 := Tryz.sizeOf4
  v4 := Tryz.zeroValue4
  t5 := Tryz.underlying5
  a5 := Tryz.isAgg5
  z5 := Tryz.sizeOf5
  v5 := Tryz.zeroValue5
  t9 := Tryz.underlying9
  a9 := Tryz.isAgg9
  z9 := Tryz.sizeOf9
  v9 := Tryz.zeroValue9
  t21 := Tryz.underlying21
  a21 := Tryz.isAgg21
  z21 := Tryz.sizeOf21
  v21 := Tryz.zeroValue21
  t31 := Tryz.underlying152
  a31 := Tryz.isAgg152
  z31 := Tryz.sizeOf152
  v31 := Tryz.zeroValue152
  t46 := Tryz.underlying148
  a46 := Tryz.isAgg148
  z46 := Tryz.sizeOf148
  v46 := Tryz.zeroValue148
  t51 := Tryz.underlying100
  a51 := Tryz.isAgg100
  z51 := Tryz.sizeOf100
  v51 := Tryz.zeroValue100
  t105 := Tryz.underlying190
  a105 := Tryz.isAgg190
  z105 := Tryz.sizeOf190
  v105 := Tryz.zeroValue190
  t119 := Tryz.underlying194
  a119 := Tryz.isAgg194
  z119 := Tryz.sizeOf194
  t138 := Tryz.underlying196
  a138 := Tryz.isAgg196
  z138 := Tryz.sizeOf196
  v138 := Tryz.zeroValue196
  t139 := Tryz.underlying197
  a139 := Tryz.isAgg197
  z139 := Tryz.sizeOf197
  v139 := Tryz.zeroValue197
  t146 := Tryz.underlying182
  a146 := Tryz.isAgg182
  z146 := Tryz.sizeOf182
  v146 := Tryz.zeroValue182
  g1 := by kernel_rfl
  g3 := by kernel_rfl
  g4 := by kernel_rfl }
def Tryz.laysSlB13_ren : Go.Shelf.Ren := ⟨fun | 13 => 92 | 24 => 107 | 25 => 108 | 12 => 109 | 31 => 124 | 19 => 125 | 20 => 48 | 21 => 126 | 22 => 127 | 23 => 128 | 29 => 139 | 30 => 140 | n => n, fun | 22 => 24 | 3 => 3 | 4 => 4 | 0 => 0 | 5 => 5 | 9 => 9 | 33 => 148 | 40 => 182 | 39 => 100 | n => n, fun | 0 => 1 | n => n⟩
theorem Tryz.laysSlB13 : Go.Proofs.SlLaysB.n13 Tryz.prog Tryz.laysSlB13_ren := {
  mixed := by kernel_rfl
  f13 := Tryz.func92.trans (congrArg some (by kernel_rfl))
  f25 := Tryz.func108.trans (congrArg some (by kernel_rfl))
  t0 := Tryz.underlying0
  a0 := Tryz.isAgg0
  z0 := Tryz.sizeOf0
  v0 := Tryz.zeroValue0
  t3 := Tryz.underlying3
  a3 := Tryz.isAgg3
  z3 := Tryz.sizeOf3
  v3 := Tryz.zeroValue3
  t4 := Tryz.underlying4
  a4 := Tryz.isAgg4
  z4 := Tryz.sizeOf4
  v4 := Tryz.zeroValue4
  t5 := Tryz.underlying5
  a5 := Tryz.isAgg5
  z5 := Tryz.sizeOf5
  v5 := Tryz.zeroValue5
  t22 := Tryz.underlying24
  a22 := Tryz.isAgg24
  z22 := Tryz.sizeOf24
  v22 := Tryz.zeroValue24 }
end Go.Proofs
