/- The texts Crc, CrcInt, one behind the other. Own work. -/
import Derived.Laws.Entries
set_option linter.unusedSimpArgs false
set_option linter.unusedVariables false
/- Plain mathematics of layer 2: registers of 32 bits, steps, sums. Own work. -/
namespace Crc

def poly : BitVec 32 := 0xEDB88320#32
/-- A step by a bit 0. -/
def S (r : BitVec 32) : BitVec 32 := (r >>> 1) ^^^ (if r.getLsbD 0 then poly else 0#32)
/-- n steps by a bit 0. -/
def it : Nat → BitVec 32 → BitVec 32
  | 0, r => r
  | n + 1, r => it n (S r)
def ofB (b : UInt8) : BitVec 32 := BitVec.ofNat 32 b.toNat
def stepB (r : BitVec 32) (b : UInt8) : BitVec 32 := it 8 (r ^^^ ofB b)
def steps (r : BitVec 32) (l : List UInt8) : BitVec 32 := l.foldl stepB r
def upd (c : BitVec 32) (l : List UInt8) : BitVec 32 := ~~~ steps (~~~ c) l
def sum (l : List UInt8) : BitVec 32 := upd 0#32 l

theorem it_add (m n : Nat) (r : BitVec 32) : it (m + n) r = it n (it m r) := by
  induction m generalizing r with
  | zero => simp [it]
  | succ m ih => rw [Nat.succ_add]; exact ih _
theorem it_succ' (n : Nat) (r : BitVec 32) : it (n + 1) r = S (it n r) := it_add n 1 r
theorem S_xor (a b : BitVec 32) : S (a ^^^ b) = S a ^^^ S b := by
  unfold S
  rw [BitVec.getLsbD_xor]
  cases a.getLsbD 0 <;> cases b.getLsbD 0 <;> simp [BitVec.ushiftRight_xor_distrib] <;> ext i hi <;> simp <;> grind
theorem it_xor (n : Nat) (a b : BitVec 32) : it n (a ^^^ b) = it n a ^^^ it n b := by
  induction n generalizing a b with
  | zero => rfl
  | succ n ih => unfold it; rw [S_xor, ih]
theorem S_zero : S 0#32 = 0#32 := by decide
theorem it_zero (n : Nat) : it n 0#32 = 0#32 := by
  induction n with
  | zero => rfl
  | succ n ih => unfold it; rw [S_zero, ih]
/-- The undoing of a step. -/
def U (r : BitVec 32) : BitVec 32 := if r.getLsbD 31 then ((r ^^^ poly) <<< 1) ||| 1#32 else r <<< 1
theorem poly_bits : poly.getLsbD 31 = true := by decide
theorem S_U (r : BitVec 32) : S (U r) = r := by
  unfold U S
  by_cases h : r.getLsbD 31 = true
  · rw [if_pos h]
    have h0 : (((r ^^^ poly) <<< 1) ||| 1#32).getLsbD 0 = true := by simp
    rw [if_pos h0]
    ext i hi
    have : poly.getLsbD i = poly[i] := by simp [hi]
    by_cases h31 : i = 31
    · subst h31
      have hp : poly[31] = true := by decide +revert
      simp at *; simp [h, hp]
    · have h1 : i + 1 < 32 := by omega
      simp [hi]
      grind
  · rw [if_neg h]
    have h0 : (r <<< 1).getLsbD 0 = false := by simp
    rw [h0]
    ext i hi
    by_cases h31 : i = 31
    · subst h31; simp at *; simp [h]
    · have h1 : 1 + i < 32 := by omega
      simp [h1]
theorem U_S (r : BitVec 32) : U (S r) = r := by
  unfold U S
  have hp : poly[31] = true := by decide
  by_cases h : r.getLsbD 0 = true
  · rw [if_pos h]
    have h0 : ((r >>> 1) ^^^ poly).getLsbD 31 = true := by simp; decide
    rw [if_pos h0]
    ext i hi
    by_cases hz : i = 0
    · subst hz; simp at *; simp [h]
    · have h1 : 1 ≤ i := by omega
      have h2 : 1 + (i - 1) = i := by omega
      simp [hz, h2, hi]
  · have hf : r.getLsbD 0 = false := by simpa using h
    rw [hf]
    have h0 : (r >>> 1 ^^^ (if false = true then poly else 0#32)).getLsbD 31 = false := by simp
    rw [h0]
    ext i hi
    by_cases hz : i = 0
    · subst hz; simp at *; simp [h]
    · have h1 : 1 ≤ i := by omega
      have h2 : 1 + (i - 1) = i := by omega
      simp [hz, h2, hi]
theorem S_inj {a b : BitVec 32} (h : S a = S b) : a = b := by rw [← U_S a, h, U_S]
theorem it_inj (n : Nat) {a b : BitVec 32} (h : it n a = it n b) : a = b := by
  induction n generalizing a b with
  | zero => exact h
  | succ n ih => exact S_inj (ih h)
def ut : Nat → BitVec 32 → BitVec 32
  | 0, r => r
  | n + 1, r => ut n (U r)
theorem ut_succ' (n : Nat) (r : BitVec 32) : ut (n + 1) r = U (ut n r) := by
  induction n generalizing r with
  | zero => rfl
  | succ n ih => exact ih _
theorem it_ut (n : Nat) (r : BitVec 32) : it n (ut n r) = r := by
  induction n with
  | zero => rfl
  | succ n ih =>
    rw [ut_succ']
    unfold it
    rw [S_U, ih]

theorem stepB_xor (r d : BitVec 32) (b : UInt8) : stepB (r ^^^ d) b = stepB r b ^^^ it 8 d := by
  unfold stepB
  rw [← it_xor]; congr 1
  ac_rfl
theorem steps_xor (r d : BitVec 32) (l : List UInt8) : steps (r ^^^ d) l = steps r l ^^^ it (8 * l.length) d := by
  induction l generalizing r d with
  | nil => rfl
  | cons b l ih =>
    show steps (stepB (r ^^^ d) b) l = steps (stepB r b) l ^^^ _
    rw [stepB_xor, ih, ← it_add]
    congr 2
    simp; omega
theorem steps_take (r : BitVec 32) (l : List UInt8) (k : Nat) (h : k < l.length) : steps r (l.take (k + 1)) = it 8 (steps r (l.take k) ^^^ ofB l[k]) := by
  rw [List.take_succ_eq_append_getElem h]
  unfold steps
  rw [List.foldl_append, List.foldl_cons, List.foldl_nil]
  unfold stepB
  exact Eq.refl _
theorem steps_take' (r : BitVec 32) (l : List UInt8) (k : Nat) (h : k < l.length) : steps r (l.take (k + 1)) = stepB (steps r (l.take k)) l[k] := steps_take r l k h
/-- With the limit. -/
def updE (x : BitVec 32) (l : List UInt8) : BitVec 32 := if l.length ≤ 20000 then upd x l else 0#32
def sumE (l : List UInt8) : BitVec 32 := updE 0#32 l
def errE (l : List UInt8) : Int := if l.length ≤ 20000 then 0 else 4
theorem updE_le {x : BitVec 32} {l : List UInt8} (h : l.length ≤ 20000) : updE x l = upd x l := if_pos h
theorem updE_gt {x : BitVec 32} {l : List UInt8} (h : ¬ l.length ≤ 20000) : updE x l = 0#32 := if_neg h
theorem sumE_le {l : List UInt8} (h : l.length ≤ 20000) : sumE l = sum l := if_pos h
theorem sumE_gt {l : List UInt8} (h : ¬ l.length ≤ 20000) : sumE l = 0#32 := if_neg h
theorem errE_le {l : List UInt8} (h : l.length ≤ 20000) : errE l = 0 := if_pos h
theorem errE_gt {l : List UInt8} (h : ¬ l.length ≤ 20000) : errE l = 4 := if_neg h
theorem steps_append (r : BitVec 32) (a b : List UInt8) : steps r (a ++ b) = steps (steps r a) b := List.foldl_append
theorem not_xor (a b : BitVec 32) : ~~~ (a ^^^ b) = ~~~ a ^^^ b := by
  ext i hi; simp <;> grind
/-- Continuing is joining. -/
theorem upd_append (c : BitVec 32) (a b : List UInt8) : upd (upd c a) b = upd c (a ++ b) := by
  unfold upd; rw [BitVec.not_not, steps_append]
/-- Joined sums. -/
def join (a b : BitVec 32) (n : Nat) : BitVec 32 := it (8 * n) a ^^^ b
theorem upd_join (c : BitVec 32) (b : List UInt8) : upd c b = join c (sum b) b.length := by
  unfold join sum upd
  have e : ~~~ c = ~~~ (0#32) ^^^ c := by rw [← not_xor]; simp
  rw [e, steps_xor, not_xor]
  exact BitVec.xor_comm _ _
theorem sum_append (a b : List UInt8) : sum (a ++ b) = join (sum a) (sum b) b.length := by
  rw [← upd_join]; unfold sum; rw [upd_append]
/-- Three lists. -/
def mix : List UInt8 → List UInt8 → List UInt8 → List UInt8
  | a :: as, b :: bs, c :: cs => (a ^^^ b ^^^ c) :: mix as bs cs
  | _, _, _ => []
theorem ofB_xor (a b : UInt8) : ofB (a ^^^ b) = ofB a ^^^ ofB b := by
  unfold ofB
  rw [UInt8.toNat_xor]
  apply BitVec.eq_of_toNat_eq
  rw [BitVec.toNat_xor, BitVec.toNat_ofNat, BitVec.toNat_ofNat, BitVec.toNat_ofNat]
  have ha := a.toNat_lt; have hb := b.toNat_lt
  have h : a.toNat ^^^ b.toNat < 2 ^ 8 := Nat.xor_lt_two_pow ha hb
  rw [Nat.mod_eq_of_lt (by omega), Nat.mod_eq_of_lt (by omega), Nat.mod_eq_of_lt (by omega)]
theorem steps_mix (p q r : BitVec 32) (a b c : List UInt8) (hb : b.length = a.length) (hc : c.length = a.length) :
    steps (p ^^^ q ^^^ r) (mix a b c) = steps p a ^^^ steps q b ^^^ steps r c := by
  induction a generalizing p q r b c with
  | nil =>
    obtain rfl : b = [] := List.eq_nil_of_length_eq_zero hb
    obtain rfl : c = [] := List.eq_nil_of_length_eq_zero hc
    rfl
  | cons x a ih =>
    match b, c, hb, hc with
    | y :: b, z :: c, hb, hc =>
      show steps (stepB (p ^^^ q ^^^ r) (x ^^^ y ^^^ z)) (mix a b c) = steps (stepB p x) a ^^^ steps (stepB q y) b ^^^ steps (stepB r z) c
      rw [← ih (stepB p x) (stepB q y) (stepB r z) b c (by simpa using hb) (by simpa using hc)]
      congr 1
      unfold stepB
      rw [← it_xor, ← it_xor, ofB_xor, ofB_xor]
      congr 1
      ac_rfl
theorem xor3 (a b c : BitVec 32) : ~~~ (a ^^^ b ^^^ c) = ~~~ a ^^^ ~~~ b ^^^ ~~~ c := by
  ext i hi; simp <;> grind
theorem sum_mix (a b c : List UInt8) (hb : b.length = a.length) (hc : c.length = a.length) : sum (mix a b c) = sum a ^^^ sum b ^^^ sum c := by
  unfold sum upd
  rw [← xor3, ← steps_mix _ _ _ a b c hb hc]
  congr 2
/-- Four bytes as a register. -/
def word (t0 t1 t2 t3 : UInt8) : BitVec 32 := ofB t0 ^^^ (ofB t1 <<< 8) ^^^ (ofB t2 <<< 16) ^^^ (ofB t3 <<< 24)
theorem ofB_hi (b : UInt8) (i : Nat) (h : 8 ≤ i) : (ofB b).getLsbD i = false := by
  unfold ofB
  rw [BitVec.getLsbD_ofNat]
  have hb := b.toNat_lt
  have : b.toNat < 2 ^ i := Nat.lt_of_lt_of_le hb (Nat.pow_le_pow_right (by omega) h)
  rw [Nat.testBit_lt_two_pow this]; simp
theorem ofB_shr8 (b : UInt8) : ofB b >>> 8 = 0#32 := by
  apply BitVec.eq_of_getLsbD_eq
  intro i hi
  rw [BitVec.getLsbD_ushiftRight, ofB_hi b _ (by omega)]; simp
theorem S_shl (x : BitVec 32) (h : x.getLsbD 31 = false) : S (x <<< 1) = x := by
  unfold S
  have h0 : (x <<< 1).getLsbD 0 = false := by simp
  rw [h0]
  ext i hi
  by_cases h31 : i = 31
  · subst h31; simp at *; simp [h]
  · have h1 : 1 + i < 32 := by omega
    simp [h1]
theorem it_shl (k : Nat) (x : BitVec 32) (h : ∀ i, 32 - k ≤ i → x.getLsbD i = false) : it k (x <<< k) = x := by
  induction k with
  | zero => simp [it]
  | succ k ih =>
    unfold it
    rw [BitVec.shiftLeft_add]
    by_cases hk : 31 < k
    · have : x = 0#32 := by ext i hi; have := h i (by omega); rw [BitVec.getLsbD_eq_getElem hi] at this; simp [this]
      subst this; simp [S_zero, it_zero]
    rw [S_shl _ (by rw [BitVec.getLsbD_shiftLeft]; simp [h (31 - k) (by omega)])]
    exact ih fun i hi => h i (by omega)
theorem stepB_it (x : BitVec 32) (b : UInt8) (k m : Nat) (hk : k ≤ 24) (hm : m = k + 8) : stepB (it k x) b = it m (x ^^^ (ofB b <<< k)) := by
  subst hm
  unfold stepB
  rw [it_add, it_xor k, it_shl k (ofB b) (fun i hi => ofB_hi b i (by omega))]
theorem stepB_one (r : BitVec 32) (a : UInt8) : stepB r a = it 8 (r ^^^ ofB a) := by unfold stepB; exact Eq.refl _
theorem steps_cons4 (r : BitVec 32) (a b c d : UInt8) : steps r [a, b, c, d] = stepB (stepB (stepB (stepB r a) b) c) d := by
  unfold steps; simp only [List.foldl_cons, List.foldl_nil]
theorem word_eq (r : BitVec 32) (a b c d : UInt8) : r ^^^ ofB a ^^^ (ofB b <<< 8) ^^^ (ofB c <<< 16) ^^^ (ofB d <<< 24) = r ^^^ word a b c d := by
  unfold word; simp only [BitVec.xor_assoc]
/-- The reference's register behind j bits. -/
def refIt (r : BitVec 32) (b : UInt8) (j : Nat) : BitVec 32 := it j (r ^^^ ofB b) ^^^ (ofB b >>> j)
def bitOf (b : UInt8) (j : Nat) : BitVec 32 := (ofB b >>> j) &&& 1#32
theorem bitOf_le (b : UInt8) (j : Nat) : (bitOf b j).toNat ≤ 1 := by
  unfold bitOf; rw [BitVec.toNat_and]; exact Nat.and_le_right
theorem refIt_zero (r : BitVec 32) (b : UInt8) : refIt r b 0 = r := by simp [refIt, it, BitVec.xor_assoc]
theorem refIt_eight (r : BitVec 32) (b : UInt8) : refIt r b 8 = stepB r b := by
  unfold refIt; rw [ofB_shr8, BitVec.xor_zero]; exact Eq.refl _
/-- The reference's round. -/
theorem ref_round (r : BitVec 32) (b : UInt8) (j : Nat) (hj : j < 8) :
    S ((it j (r ^^^ ofB b) ^^^ (ofB b >>> j)) ^^^ ((ofB b >>> j) &&& 1#32)) = it (j + 1) (r ^^^ ofB b) ^^^ (ofB b >>> (j + 1)) := by
  have e : (ofB b >>> j) ^^^ ((ofB b >>> j) &&& 1#32) = (ofB b >>> (j + 1)) <<< 1 := by
    apply BitVec.eq_of_getLsbD_eq
    intro i hi
    simp only [BitVec.getLsbD_xor, BitVec.getLsbD_and, BitVec.getLsbD_ushiftRight, BitVec.getLsbD_shiftLeft]
    by_cases h0 : i = 0
    · subst h0; simp
    · have h1 : (1#32).getLsbD i = false := by simp [h0]
      rw [h1]
      simp [hi, show ¬ i < 1 by omega, show j + 1 + (i - 1) = j + i by omega]
  rw [BitVec.xor_assoc, e, S_xor, S_shl _ (by rw [BitVec.getLsbD_ushiftRight, ofB_hi b _ (by omega)]), ← it_succ']
theorem refIt_succ (r : BitVec 32) (b : UInt8) (j : Nat) (hj : j < 8) : S (refIt r b j ^^^ bitOf b j) = refIt r b (j + 1) := ref_round r b j hj
theorem steps_four (r : BitVec 32) (a b c d : UInt8) : steps r [a, b, c, d] = it 32 (r ^^^ word a b c d) := by
  rw [steps_cons4, stepB_one r a, stepB_it _ b 8 16 (by omega) (by omega), stepB_it _ c 16 24 (by omega) (by omega), stepB_it _ d 24 32 (by omega) (by omega), word_eq]
/-- The bytes of a register, the lowest one first. -/
def byteAt (r : BitVec 32) (i : Nat) : UInt8 := UInt8.ofNat (r >>> (8 * i)).toNat
theorem ofB_byteAt (r : BitVec 32) (i : Nat) : ofB (byteAt r i) = (r >>> (8 * i)) &&& 0xFF#32 := by
  unfold ofB byteAt
  apply BitVec.eq_of_toNat_eq
  rw [BitVec.toNat_and, BitVec.toNat_ofNat, UInt8.toNat_ofNat']
  show _ = _ &&& 255
  rw [show (255 : Nat) = 2 ^ 8 - 1 from rfl, Nat.and_two_pow_sub_one_eq_mod]
  omega
theorem word_bytes (r : BitVec 32) : word (byteAt r 0) (byteAt r 1) (byteAt r 2) (byteAt r 3) = r := by
  unfold word
  rw [ofB_byteAt, ofB_byteAt, ofB_byteAt, ofB_byteAt]
  have hf : ∀ j, (0xFF#32).getLsbD j = decide (j < 8) := by
    intro j
    by_cases hj : j < 32
    · revert j; decide
    · simp [BitVec.getLsbD_of_ge, show 32 ≤ j by omega]; omega
  apply BitVec.eq_of_getLsbD_eq
  intro i hi
  simp only [BitVec.getLsbD_xor, BitVec.getLsbD_and, BitVec.getLsbD_shiftLeft, BitVec.getLsbD_ushiftRight, hf]
  have h4 : i < 8 ∨ (8 ≤ i ∧ i < 16) ∨ (16 ≤ i ∧ i < 24) ∨ (24 ≤ i ∧ i < 32) := by omega
  rcases h4 with h | ⟨h, h'⟩ | ⟨h, h'⟩ | ⟨h, h'⟩
  · simp [h, hi, show i < 16 by omega, show i < 24 by omega]
  · simp [show ¬ i < 8 by omega, hi, h', show i < 24 by omega, show i - 8 < 8 by omega, show 8 + (i - 8) = i by omega]
  · simp [show ¬ i < 8 by omega, show ¬ i < 16 by omega, hi, h', show ¬ i - 8 < 8 by omega, show i - 16 < 8 by omega, show 16 + (i - 16) = i by omega]
  · simp [show ¬ i < 8 by omega, show ¬ i < 16 by omega, show ¬ i < 24 by omega, hi, show ¬ i - 8 < 8 by omega, show ¬ i - 16 < 8 by omega, show i - 24 < 8 by omega, show 24 + (i - 24) = i by omega]
theorem word_inj {a b c d a' b' c' d' : UInt8} (h : word a b c d = word a' b' c' d') : a = a' ∧ b = b' ∧ c = c' ∧ d = d' := by
  have key : ∀ i, i < 32 → (word a b c d).getLsbD i = (word a' b' c' d').getLsbD i := fun i _ => by rw [h]
  have bit : ∀ (x y : UInt8), (∀ j, j < 8 → (ofB x).getLsbD j = (ofB y).getLsbD j) → x = y := by
    intro x y hxy
    have : ofB x = ofB y := by
      apply BitVec.eq_of_getLsbD_eq
      intro i hi
      by_cases h8 : i < 8
      · exact hxy i h8
      · rw [ofB_hi x i (by omega), ofB_hi y i (by omega)]
    have h2 := congrArg BitVec.toNat this
    unfold ofB at h2
    rw [BitVec.toNat_ofNat, BitVec.toNat_ofNat] at h2
    have hx := x.toNat_lt; have hy := y.toNat_lt
    apply UInt8.toNat_inj.1
    omega
  unfold word at key
  simp only [BitVec.getLsbD_xor, BitVec.getLsbD_shiftLeft] at key
  refine ⟨bit _ _ fun j hj => ?_, bit _ _ fun j hj => ?_, bit _ _ fun j hj => ?_, bit _ _ fun j hj => ?_⟩
  · have := key j (by omega)
    simpa [hj, show j < 16 by omega, show j < 24 by omega] using this
  · have := key (8 + j) (by omega)
    rw [ofB_hi a _ (by omega), ofB_hi a' _ (by omega)] at this
    simpa [show ¬ 8 + j < 8 by omega, show 8 + j < 32 by omega, show 8 + j < 16 by omega, show 8 + j < 24 by omega, ofB_hi] using this
  · have := key (16 + j) (by omega)
    rw [ofB_hi a _ (by omega), ofB_hi a' _ (by omega), ofB_hi b _ (by omega), ofB_hi b' _ (by omega)] at this
    simpa [show ¬ 16 + j < 16 by omega, show ¬ 16 + j < 8 by omega, show 16 + j < 32 by omega, show 16 + j - 8 = 8 + j by omega, show 16 + j < 24 by omega, ofB_hi] using this
  · have := key (24 + j) (by omega)
    rw [ofB_hi a _ (by omega), ofB_hi a' _ (by omega), ofB_hi b _ (by omega), ofB_hi b' _ (by omega), ofB_hi c _ (by omega), ofB_hi c' _ (by omega)] at this
    simpa [show ¬ 24 + j < 24 by omega, show ¬ 24 + j < 16 by omega, show ¬ 24 + j < 8 by omega, show 24 + j < 32 by omega, show 24 + j - 8 = 16 + j by omega, show 24 + j - 16 = 8 + j by omega, ofB_hi] using this
/-- What is put behind bytes for a sum. -/
def tailW (l : List UInt8) (want : BitVec 32) : BitVec 32 := steps (~~~ 0#32) l ^^^ ut 32 (~~~ want)
theorem sum_four (l : List UInt8) (a b c d : UInt8) (want : BitVec 32) : sum (l ++ [a, b, c, d]) = want ↔ word a b c d = tailW l want := by
  unfold sum upd tailW
  rw [steps_append, steps_four]
  constructor
  · intro h
    have h1 : it 32 (steps (~~~ 0#32) l ^^^ word a b c d) = it 32 (ut 32 (~~~ want)) := by
      rw [it_ut, ← h, BitVec.not_not]
    have h2 := it_inj 32 h1
    rw [← h2, ← BitVec.xor_assoc, BitVec.xor_self, BitVec.zero_xor]
  · intro h
    rw [h, ← BitVec.xor_assoc, BitVec.xor_self, BitVec.zero_xor, it_ut, BitVec.not_not]
/-- Changing four neighbouring bytes. -/
theorem sum_change (p q : List UInt8) (a b c d a' b' c' d' : UInt8) : sum (p ++ [a, b, c, d] ++ q) = sum (p ++ [a', b', c', d'] ++ q) ↔ (a = a' ∧ b = b' ∧ c = c' ∧ d = d') := by
  constructor
  · intro h
    unfold sum upd at h
    have h1 : steps (~~~ 0#32) (p ++ [a, b, c, d] ++ q) = steps (~~~ 0#32) (p ++ [a', b', c', d'] ++ q) := by
      rw [← BitVec.not_not (b := steps _ (p ++ [a, b, c, d] ++ q)), h, BitVec.not_not]
    rw [steps_append, steps_append, steps_append, steps_append, steps_four, steps_four] at h1
    have inj : ∀ (l : List UInt8) (x y : BitVec 32), steps x l = steps y l → x = y := by
      intro l x y e
      have e2 : steps x l = steps (y ^^^ (y ^^^ x)) l := by rw [← BitVec.xor_assoc, BitVec.xor_self, BitVec.zero_xor]
      rw [steps_xor, e] at e2
      have e3 : it (8 * l.length) (y ^^^ x) = it (8 * l.length) 0#32 := by
        rw [it_zero]
        have := congrArg (fun z => steps y l ^^^ z) e2
        simp only [← BitVec.xor_assoc, BitVec.xor_self, BitVec.zero_xor] at this
        exact this.symm
      have e4 := it_inj _ e3
      have := congrArg (fun z => y ^^^ z) e4
      simp only [← BitVec.xor_assoc, BitVec.xor_self, BitVec.zero_xor, BitVec.xor_zero] at this
      exact this
    have h2 := it_inj 32 (inj _ _ _ h1)
    have h3 := congrArg (fun z => steps (~~~ 0#32) p ^^^ z) h2
    simp only [← BitVec.xor_assoc, BitVec.xor_self, BitVec.zero_xor] at h3
    exact word_inj h3
  · rintro ⟨rfl, rfl, rfl, rfl⟩; rfl
/-- A row. -/
def rowE (i : Int) : BitVec 32 × Int := if 0 ≤ i ∧ i ≤ 255 then (it 8 (BitVec.ofNat 32 i.toNat), 0) else (0#32, 2)
theorem row_ways (i : Int) : ((i < 0 ∨ 255 < i) ∧ rowE i = (0#32, 2)) ∨ (0 ≤ i ∧ i ≤ 255 ∧ rowE i = (it 8 (BitVec.ofNat 32 i.toNat), 0)) := by
  unfold rowE
  by_cases h : 0 ≤ i ∧ i ≤ 255
  · exact .inr ⟨h.1, h.2, if_pos h⟩
  · exact .inl ⟨by omega, if_neg h⟩
theorem stepB_zero (r : BitVec 32) : stepB r 0 = it 8 r := by
  unfold stepB
  have : ofB 0 = 0#32 := by decide
  rw [this, BitVec.xor_zero]
theorem steps_one (r : BitVec 32) : steps r [0] = it 8 r := stepB_zero r
/-- Not looked at. -/
def long (l : List UInt8) : Bool := (decide (1000 < l.length) && decide (l.length ≤ 20000)) || decide (21000 < l.length)
theorem long_ways (l : List UInt8) : (l.length ≤ 1000 ∧ long l = false) ∨ (1000 < l.length ∧ l.length ≤ 20000 ∧ long l = true) ∨ (20000 < l.length ∧ l.length ≤ 21000 ∧ long l = false) ∨ (21000 < l.length ∧ long l = true) := by
  unfold long
  by_cases h1 : 1000 < l.length <;> by_cases h2 : l.length ≤ 20000 <;> by_cases h3 : 21000 < l.length <;> simp [h1, h2, h3] <;> omega
/-- What the first j bits make. -/
def part (d : Nat) (r : BitVec 32) : Nat → BitVec 32
  | 0 => 0#32
  | j + 1 => part d r j ^^^ (if r.getLsbD j then it d (1#32 <<< j) else 0#32)
theorem part_it (d : Nat) (r : BitVec 32) (j : Nat) : part d r j = it d (r &&& BitVec.ofNat 32 (2 ^ j - 1)) := by
  induction j with
  | zero => simp [part, it_zero]
  | succ j ih =>
    unfold part
    rw [ih]
    have e : (if r.getLsbD j then it d (1#32 <<< j) else 0#32) = it d (if r.getLsbD j then 1#32 <<< j else 0#32) := by
      split
      · rfl
      · rw [it_zero]
    rw [e, ← it_xor]
    congr 1
    apply BitVec.eq_of_getLsbD_eq
    intro i hi
    simp only [BitVec.getLsbD_xor, BitVec.getLsbD_and, BitVec.getLsbD_ofNat, Nat.testBit_two_pow_sub_one]
    have hs : (if r.getLsbD j = true then 1#32 <<< j else 0#32).getLsbD i = (decide (i = j) && r.getLsbD j) := by
      split
      · rename_i hj
        rw [BitVec.getLsbD_shiftLeft, hj]
        by_cases hij : i = j
        · subst hij; simp [hi]
        · by_cases h2 : i < j
          · simp [h2, hij]
          · have : ¬ (i - j = 0) := by omega
            simp [hij, h2, this]
      · rename_i hj
        simp [hj]
    rw [hs]
    by_cases h1 : i < j
    · simp [hi, h1, show i < j + 1 by omega, show ¬ i = j by omega]
    · by_cases h2 : i = j
      · subst h2; simp [hi]
      · simp [h1, h2, show ¬ i < j + 1 by omega]
theorem part_all (d : Nat) (r : BitVec 32) : part d r 32 = it d r := by
  rw [part_it]
  congr 1
  have : BitVec.ofNat 32 (2 ^ 32 - 1) = BitVec.allOnes 32 := by decide
  rw [this, BitVec.and_allOnes]
theorem it_it (d : Nat) (x : BitVec 32) : it d (it d x) = it (2 * d) x := by rw [← it_add]; congr 1; omega
theorem join_odd (d : Nat) (a : BitVec 32) (m : Nat) (h : m % 2 = 1) : it (2 * d * (m / 2)) (it d a) = it (d * m) a := by
  rw [← it_add]
  congr 1
  have : m = 2 * (m / 2) + 1 := by omega
  calc d + 2 * d * (m / 2) = d * (2 * (m / 2) + 1) := by rw [Nat.mul_add, ← Nat.mul_assoc, Nat.mul_comm d 2]; omega
    _ = d * m := by rw [← this]
theorem join_even (d : Nat) (a : BitVec 32) (m : Nat) (h : m % 2 = 0) : it (2 * d * (m / 2)) a = it (d * m) a := by
  congr 1
  have : m = 2 * (m / 2) := by omega
  calc 2 * d * (m / 2) = d * (2 * (m / 2)) := by rw [← Nat.mul_assoc, Nat.mul_comm d 2]
    _ = d * m := by rw [← this]
/-- Joining, with its error. -/
def joinE (a b : BitVec 32) (n : Int) : BitVec 32 × Int := if 0 ≤ n ∧ n ≤ 1000000000 then (join a b n.toNat, 0) else (0#32, 2)
theorem join_ways (a b : BitVec 32) (n : Int) : ((n < 0 ∨ 1000000000 < n) ∧ joinE a b n = (0#32, 2)) ∨ (∃ k : Nat, n = k ∧ k ≤ 1000000000 ∧ joinE a b n = (join a b k, 0)) := by
  unfold joinE
  by_cases h : 0 ≤ n ∧ n ≤ 1000000000
  · exact .inr ⟨n.toNat, by omega, by omega, if_pos h⟩
  · exact .inl ⟨by omega, if_neg h⟩
/-- The tail as a register, and its error. -/
def tailE (l : List UInt8) (want : BitVec 32) : BitVec 32 := if l.length ≤ 20000 then tailW l want else 0#32
theorem tailE_le {l : List UInt8} {want : BitVec 32} (h : l.length ≤ 20000) : tailE l want = tailW l want := if_pos h
theorem tailE_gt {l : List UInt8} {want : BitVec 32} (h : ¬ l.length ≤ 20000) : tailE l want = 0#32 := if_neg h
theorem mix_length (a b c : List UInt8) (hb : b.length = a.length) (hc : c.length = a.length) : (mix a b c).length = a.length := by
  induction a generalizing b c with
  | nil =>
    obtain rfl : b = [] := List.eq_nil_of_length_eq_zero hb
    rfl
  | cons x a ih =>
    match b, c, hb, hc with
    | y :: b, z :: c, hb, hc => simp only [mix, List.length_cons]; rw [ih b c (by simpa using hb) (by simpa using hc)]
theorem mix_take (a b c : List UInt8) (k : Nat) (h1 : k < a.length) (h2 : k < b.length) (h3 : k < c.length) :
    mix (a.take (k + 1)) (b.take (k + 1)) (c.take (k + 1)) = mix (a.take k) (b.take k) (c.take k) ++ [a[k] ^^^ b[k] ^^^ c[k]] := by
  induction k generalizing a b c with
  | zero =>
    match a, b, c, h1, h2, h3 with
    | x :: a, y :: b, z :: c, _, _, _ => simp [mix]
  | succ k ih =>
    match a, b, c, h1, h2, h3 with
    | x :: a, y :: b, z :: c, h1, h2, h3 =>
      have := ih a b c (by simpa using h1) (by simpa using h2) (by simpa using h3)
      simp only [List.take_succ_cons, mix, List.cons_append, List.getElem_cons_succ]
      rw [← this]
/-- The first j of four bytes changed. -/
def chg (a : List UInt8) (n : Nat) (f : Nat → UInt8) : Nat → List UInt8
  | 0 => a
  | j + 1 => (chg a n f j).set (n + j) ((chg a n f j).getD (n + j) 0 ^^^ f j)
theorem chg_length (a : List UInt8) (n : Nat) (f : Nat → UInt8) (j : Nat) : (chg a n f j).length = a.length := by
  induction j with
  | zero => rfl
  | succ j ih => unfold chg; rw [List.length_set, ih]
theorem split4 (a : List UInt8) (n : Nat) (h : n + 4 ≤ a.length) : ∃ p x0 x1 x2 x3 q, a = p ++ [x0, x1, x2, x3] ++ q ∧ p.length = n := by
  refine ⟨a.take n, a[n], a[n + 1], a[n + 2], a[n + 3], a.drop (n + 4), ?_, by simp; omega⟩
  apply List.ext_getElem
  · simp <;> omega
  · intro i h1 h2
    by_cases hi : i < n
    · simp [List.getElem_append, hi, show i < n + 4 by omega, show min n a.length = n by omega]
    · by_cases h4 : i < n + 4
      · obtain ⟨r, rfl⟩ : ∃ r, i = n + r := ⟨i - n, by omega⟩
        have h5 : r = 0 ∨ r = 1 ∨ r = 2 ∨ r = 3 := by omega
        rcases h5 with rfl | rfl | rfl | rfl <;> simp [List.getElem_append, show min n a.length = n by omega]
      · obtain ⟨r, rfl⟩ : ∃ r, i = n + 4 + r := ⟨i - (n + 4), by omega⟩
        simp [List.getElem_append, show min n a.length = n by omega]
theorem chg_four (p q : List UInt8) (x0 x1 x2 x3 : UInt8) (f : Nat → UInt8) :
    chg (p ++ [x0, x1, x2, x3] ++ q) p.length f 4 = p ++ [x0 ^^^ f 0, x1 ^^^ f 1, x2 ^^^ f 2, x3 ^^^ f 3] ++ q := by
  simp [chg, List.set_append, List.getD_eq_getElem?_getD, List.getElem?_append, List.getElem?_set]
theorem xor_self_iff (x b : UInt8) : x ^^^ b = x ↔ b = 0 := by
  constructor
  · intro h
    have := congrArg (fun z => x ^^^ z) h
    simpa [← UInt8.xor_assoc] using this
  · rintro rfl; simp
/-- Changing four bytes changes the sum, unless nothing is changed. -/
theorem sum_chg (a : List UInt8) (n : Nat) (f : Nat → UInt8) (h : n + 4 ≤ a.length) : sum (chg a n f 4) = sum a ↔ (f 0 = 0 ∧ f 1 = 0 ∧ f 2 = 0 ∧ f 3 = 0) := by
  obtain ⟨p, x0, x1, x2, x3, q, rfl, rfl⟩ := split4 a n h
  rw [chg_four, sum_change, xor_self_iff, xor_self_iff, xor_self_iff, xor_self_iff]
end Crc

/- Go's operations on uint32, as those on registers. Own work. -/
namespace Go.Proofs.YthfffbpcmlgoiaaGreatDoor

theorem ofInt_reg (a : BitVec 32) : BitVec.ofInt 32 ((a.toNat : Nat) : Int) = a := by
  rw [BitVec.ofInt_natCast]; simp
theorem wrap_reg (a : BitVec 32) : IntKind.u32.wrap ((a.toNat : Nat) : Int) = (a.toNat : Int) := by
  have := a.isLt
  simp [IntKind.wrap, IntKind.bits, IntKind.signed]; omega
theorem reg_mod (a : BitVec 32) : ((a.toNat : Nat) : Int) % 4294967296 = (a.toNat : Int) := by
  have := a.isLt; omega
theorem bx_xor (a b : BitVec 32) : bits .xor .u32 (a.toNat : Int) (b.toNat : Int) = ((a ^^^ b).toNat : Int) := by
  show IntKind.u32.wrap ((BitVec.ofInt 32 (a.toNat : Int) ^^^ BitVec.ofInt 32 (b.toNat : Int)).toNat : Int) = _
  rw [ofInt_reg, ofInt_reg, wrap_reg]
theorem bx_and (a b : BitVec 32) : bits .and .u32 (a.toNat : Int) (b.toNat : Int) = ((a &&& b).toNat : Int) := by
  show IntKind.u32.wrap ((BitVec.ofInt 32 (a.toNat : Int) &&& BitVec.ofInt 32 (b.toNat : Int)).toNat : Int) = _
  rw [ofInt_reg, ofInt_reg, wrap_reg]
theorem bx_or (a b : BitVec 32) : bits .or .u32 (a.toNat : Int) (b.toNat : Int) = ((a ||| b).toNat : Int) := by
  show IntKind.u32.wrap ((BitVec.ofInt 32 (a.toNat : Int) ||| BitVec.ofInt 32 (b.toNat : Int)).toNat : Int) = _
  rw [ofInt_reg, ofInt_reg, wrap_reg]
theorem reg_ofB (b : UInt8) : ((b.toNat : Nat) : Int) % 4294967296 = ((Crc.ofB b).toNat : Int) := by
  have := b.toNat_lt
  unfold Crc.ofB
  rw [BitVec.toNat_ofNat]; omega
theorem reg_shr (a : BitVec 32) (k : Nat) : ((a.toNat : Nat) : Int) / 2 ^ k = ((a >>> k).toNat : Int) := by
  rw [BitVec.toNat_ushiftRight, Nat.shiftRight_eq_div_pow]
  norm_cast
theorem reg_neg (a : BitVec 32) : IntKind.u32.wrap (-((a.toNat : Nat) : Int)) = ((-a).toNat : Int) := by
  have := a.isLt
  rw [BitVec.toNat_neg]
  simp [IntKind.wrap, IntKind.bits, IntKind.signed]
  omega
theorem reg_lit (n : Nat) (h : n < 4294967296) : (n : Int) = ((BitVec.ofNat 32 n).toNat : Int) := by
  rw [BitVec.toNat_ofNat]; omega
theorem poly_lit : (3988292384 : Int) = (Crc.poly.toNat : Int) := by decide
theorem one_lit : (1 : Int) = ((1#32).toNat : Int) := by decide
theorem and_one (x : BitVec 32) : x &&& 1#32 = if x.getLsbD 0 then 1#32 else 0#32 := by
  ext i hi
  by_cases h0 : i = 0
  · subst h0; simp; split <;> simp_all
  · simp; split <;> simp [h0] <;> omega
theorem reg_neg' (a : BitVec 32) : -((a.toNat : Nat) : Int) % 4294967296 = ((-a).toNat : Int) := by
  rw [← reg_neg]; simp [IntKind.wrap, IntKind.bits, IntKind.signed]
theorem reg_half (a : BitVec 32) : (a.toNat : Int) / (2 : Int) = ((a >>> 1).toNat : Int) := by
  have := reg_shr a 1
  simpa using this
/-- taken & -(r & 1) -/
theorem masked (m x : BitVec 32) : m &&& -(x &&& 1#32) = if x.getLsbD 0 then m else 0#32 := by
  rw [and_one]
  cases x.getLsbD 0 <;> simp
  show m &&& BitVec.allOnes 32 = m
  rw [BitVec.and_allOnes]
theorem step_form (x : BitVec 32) :
    bits .xor .u32 ((x.toNat : Int) / 2) (bits .and .u32 3988292384 (-bits .and .u32 (x.toNat : Int) 1 % 4294967296)) = ((Crc.S x).toNat : Int) := by
  rw [one_lit, poly_lit, bx_and, reg_neg', bx_and, reg_half, bx_xor, masked]
  rfl
theorem bit_form (b : UInt8) (j : Nat) : bits .and .u32 ((b.toNat : Int) % 4294967296 / 2 ^ j) 1 = ((Crc.bitOf b j).toNat : Int) := by
  rw [reg_ofB, reg_shr, one_lit, bx_and]
  unfold Crc.bitOf
  exact Eq.refl _
theorem not_form (x : BitVec 32) : bits .xor .u32 IntKind.u32.max (x.toNat : Int) = ((~~~ x).toNat : Int) := by
  show bits .xor .u32 (((BitVec.allOnes 32).toNat : Nat) : Int) (x.toNat : Int) = _
  rw [bx_xor, BitVec.allOnes_xor]
theorem ones_lit : (4294967295 : Int) = ((~~~ 0#32).toNat : Int) := by decide
theorem ret_pair {k k' : IntKind} {a b c d : Int} (h : a = b) (h' : c = d) : Ending.returned (.tuple #[.int k a, .int k' c]) = .returned (.tuple #[.int k b, .int k' d]) := by rw [h, h']
theorem int_reg (i : Int) (h0 : 0 ≤ i) (h1 : i ≤ 255) : i = ((BitVec.ofNat 32 i.toNat).toNat : Int) := by
  rw [BitVec.toNat_ofNat]; omega
theorem int_reg' (i : Int) (h0 : 0 ≤ i) (h1 : i ≤ 255) : i % 4294967296 = ((BitVec.ofNat 32 i.toNat).toNat : Int) := by
  rw [BitVec.toNat_ofNat]; omega
theorem part_form (d : Nat) (r : BitVec 32) (j : Nat) :
    bits .xor .u32 ((Crc.part d r j).toNat : Int) (bits .and .u32 ((Crc.it d (1#32 <<< j)).toNat : Int) (-bits .and .u32 ((r.toNat : Int) / 2 ^ j) 1 % 4294967296)) = ((Crc.part d r (j + 1)).toNat : Int) := by
  rw [reg_shr, one_lit, bx_and, reg_neg', bx_and, bx_xor, masked]
  have : (r >>> j).getLsbD 0 = r.getLsbD j := by simp
  rw [this]
  rfl
theorem shl_form (j : Nat) (h : j < 32) : (2 : Int) ^ j % 4294967296 = ((1#32 <<< j).toNat : Int) := by
  rw [BitVec.toNat_shiftLeft, Nat.shiftLeft_eq]
  show (2 : Int) ^ j % 4294967296 = ((1 * 2 ^ j % 4294967296 : Nat) : Int)
  rw [Nat.one_mul, Int.natCast_emod, Int.natCast_pow]
  rfl
theorem byte_form (W : BitVec 32) (i : Nat) : (W.toNat : Int) / 2 ^ (8 * i) % (256 : Int) = ((Crc.byteAt W i).toNat : Int) := by
  rw [reg_shr]
  unfold Crc.byteAt
  rw [UInt8.toNat_ofNat']
  omega
theorem byte0 (W : BitVec 32) : (W.toNat : Int) % (256 : Int) = ((Crc.byteAt W 0).toNat : Int) := by
  rw [← byte_form W 0]; simp
theorem byte1 (W : BitVec 32) : (W.toNat : Int) / (256 : Int) % (256 : Int) = ((Crc.byteAt W 1).toNat : Int) := byte_form W 1
theorem byte2 (W : BitVec 32) : (W.toNat : Int) / (65536 : Int) % (256 : Int) = ((Crc.byteAt W 2).toNat : Int) := byte_form W 2
theorem byte3 (W : BitVec 32) : (W.toNat : Int) / (16777216 : Int) % (256 : Int) = ((Crc.byteAt W 3).toNat : Int) := byte_form W 3
theorem ones_lit' : (4294967295 : Int) = ((4294967295#32).toNat : Int) := by decide
theorem tail_form (l : List UInt8) (want : BitVec 32) : bits .xor .u32 ((Crc.steps (4294967295#32) l).toNat : Int) ((Crc.ut 32 (~~~ want)).toNat : Int) = ((Crc.tailW l want).toNat : Int) := by
  rw [bx_xor]; unfold Crc.tailW; exact Eq.refl _
theorem top_bit (x : BitVec 32) : x >>> 31 = if x.getLsbD 31 then 1#32 else 0#32 := by
  ext i hi
  by_cases h0 : i = 0
  · subst h0; simp; split <;> simp_all
  · have : 32 ≤ 31 + i := by omega
    simp [BitVec.getLsbD_of_ge _ _ this]; split <;> simp [h0]
theorem masked_top (m x : BitVec 32) : m &&& -(x >>> 31) = if x.getLsbD 31 then m else 0#32 := by
  rw [top_bit]
  cases x.getLsbD 31 <;> simp
  show m &&& BitVec.allOnes 32 = m
  rw [BitVec.and_allOnes]
theorem reg_top (a : BitVec 32) : (a.toNat : Int) / (2147483648 : Int) = ((a >>> 31).toNat : Int) := by
  have := reg_shr a 31
  simpa using this
theorem reg_twice (a : BitVec 32) : (a.toNat : Int) * (2 : Int) % (4294967296 : Int) = ((a <<< 1).toNat : Int) := by
  rw [BitVec.toNat_shiftLeft, Nat.shiftLeft_eq]
  show (a.toNat : Int) * 2 % 4294967296 = ((a.toNat * 2 % 4294967296 : Nat) : Int)
  omega
theorem back_form (x : BitVec 32) :
    bits .or .u32 (bits .xor .u32 (x.toNat : Int) (bits .and .u32 3988292384 (-((x.toNat : Int) / 2147483648) % 4294967296)) * 2 % 4294967296) ((x.toNat : Int) / 2147483648) = ((Crc.U x).toNat : Int) := by
  rw [reg_top, poly_lit, reg_neg', bx_and, bx_xor, reg_twice, bx_or, masked_top, top_bit]
  unfold Crc.U
  split
  · rfl
  · rw [BitVec.xor_zero, BitVec.or_zero]
theorem test_form (r x : BitVec 32) : (bits .and .u32 (bits .xor .u32 (r.toNat : Int) (x.toNat : Int)) 1 == 1) = (r ^^^ x).getLsbD 0 := by
  rw [bx_xor]
  conv in (1 : Int) => rw [one_lit]
  rw [bx_and, and_one]
  cases (r ^^^ x).getLsbD 0 <;> rfl
theorem step_two (r x : BitVec 32) (hx : x.toNat ≤ 1) : Crc.S (r ^^^ x) = (r >>> 1) ^^^ (if (r ^^^ x).getLsbD 0 then Crc.poly else 0#32) := by
  unfold Crc.S
  congr 1
  rw [BitVec.ushiftRight_xor_distrib]
  have : x >>> 1 = 0#32 := by
    apply BitVec.eq_of_toNat_eq
    rw [BitVec.toNat_ushiftRight, Nat.shiftRight_eq_div_pow]
    show x.toNat / 2 = 0
    omega
  rw [this, BitVec.xor_zero]
theorem step_yes (r x : BitVec 32) (hx : x.toNat ≤ 1) (h : (r ^^^ x).getLsbD 0 = true) : bits .xor .u32 ((r.toNat : Int) / 2) 3988292384 = ((Crc.S (r ^^^ x)).toNat : Int) := by
  rw [step_two r x hx, if_pos h, reg_half, poly_lit, bx_xor]
theorem step_no (r x : BitVec 32) (hx : x.toNat ≤ 1) (h : (r ^^^ x).getLsbD 0 = false) : (r.toNat : Int) / (2 : Int) = ((Crc.S (r ^^^ x)).toNat : Int) := by
  rw [step_two r x hx, h, reg_half]; simp
end Go.Proofs.YthfffbpcmlgoiaaGreatDoor
