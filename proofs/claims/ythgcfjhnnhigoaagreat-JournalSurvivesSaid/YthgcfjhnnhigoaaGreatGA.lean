/- The texts Disk, Crc, Frame, Wal, one behind the other. Own work. -/
import Init
set_option linter.unusedSimpArgs false
set_option linter.unusedVariables false
/- Plain mathematics of layer 1: what each function comes to. No program is named. Own work. -/
namespace Go.Proofs.YthgcfjhnnhigoaaGreat
namespace Disk

structure Dev where
  s : List UInt8
  t : List UInt8
  cap : Int
  down : Bool

def Dev.size (d : Dev) : Nat := d.s.length + d.t.length
def Dev.all (d : Dev) : List UInt8 := d.s ++ d.t
def zero : Dev := ⟨[], [], 0, false⟩
def bad (d : Dev) : Prop := d.cap < 0 ∨ 20000 < d.cap ∨ d.cap < d.size ∨ (d.down = true ∧ 0 < d.t.length)
instance (d : Dev) : Decidable (bad d) := by unfold bad; infer_instance
def check (d : Dev) : Int := if bad d then 8 else 0
def up (d : Dev) : Int := if bad d then 8 else if d.down = true then 20 else 0
def new (c : Int) : Dev × Int := if c < 0 ∨ 20000 < c then (zero, 2) else (⟨[], [], c, false⟩, 0)
def size (d : Dev) : Int × Int := if bad d then (0, 8) else (d.size, 0)
def read (d : Dev) (at_ n : Int) : List UInt8 × Int :=
  if up d ≠ 0 then ([], up d) else if at_ < 0 ∨ n < 0 ∨ d.size - at_ < n then ([], 2) else ((d.all.drop at_.toNat).take n.toNat, 0)
def append (d : Dev) (b : List UInt8) : Dev × Int :=
  if up d ≠ 0 then (zero, up d) else if d.cap - d.size < b.length then (zero, 18) else (⟨d.s, d.t ++ b, d.cap, d.down⟩, 0)
def sync (d : Dev) : Dev × Int := if up d ≠ 0 then (zero, up d) else (⟨d.s ++ d.t, [], d.cap, d.down⟩, 0)
def truncate (d : Dev) (n : Int) : Dev × Int :=
  if up d ≠ 0 then (zero, up d) else if n < 0 ∨ d.size < n then (zero, 2) else (⟨d.s.take n.toNat, d.t.take (n.toNat - d.s.length), d.cap, d.down⟩, 0)
def drop (d : Dev) (n : Int) : Dev × Int :=
  if up d ≠ 0 then (zero, up d) else if n < 0 ∨ d.s.length < n then (zero, 2) else (⟨d.s.drop n.toNat, d.t, d.cap, d.down⟩, 0)
def crash (d : Dev) (n : Int) : Dev × Int :=
  if up d ≠ 0 then (zero, up d) else if n < 0 ∨ d.t.length < n then (zero, 2) else (⟨d.s ++ d.t.take n.toNat, [], d.cap, true⟩, 0)
def start (d : Dev) : Dev × Int := if bad d then (zero, 8) else if d.down = false then (zero, 36) else (⟨d.s, [], d.cap, false⟩, 0)

structure Op where
  kind : Int
  data : List UInt8
  n : Int
def Op.ok (o : Op) : Prop :=
  (o.kind = 1 ∧ o.n = 0) ∨ ((o.kind = 3 ∨ o.kind = 4 ∨ o.kind = 5) ∧ o.data = []) ∨ ((o.kind = 2 ∨ o.kind = 6) ∧ o.data = [] ∧ o.n = 0)
instance (o : Op) : Decidable o.ok := by unfold Op.ok; infer_instance
def step (d : Dev) (o : Op) : Dev × Int :=
  if ¬ o.ok then (zero, 2) else if o.kind = 1 then append d o.data else if o.kind = 2 then sync d else if o.kind = 3 then truncate d o.n
  else if o.kind = 4 then drop d o.n else if o.kind = 5 then crash d o.n else start d
/-- The operations from the one with number i on. -/
def steps (d : Dev) (i : Int) : List Op → Dev × Int × Int
  | [] => (d, i, 0)
  | o :: r => if (step d o).2 ≠ 0 then (d, i, (step d o).2) else steps (step d o).1 (i + 1) r
def run (d : Dev) (l : List Op) : Dev × Int × Int :=
  if bad d then (zero, 0, 8) else if 200 < l.length then (zero, 0, 4) else steps d 0 l

theorem bad_iff {s t : List UInt8} {cap : Int} {dn : Bool} : bad ⟨s, t, cap, dn⟩ ↔ (cap < 0 ∨ 20000 < cap ∨ cap < (s.length : Int) + t.length ∨ (dn = true ∧ 0 < t.length)) := by
  simp only [bad, Dev.size, Int.natCast_add]
theorem check_bad {d : Dev} (h : bad d) : check d = 8 := if_pos h
theorem check_ok {d : Dev} (h : ¬ bad d) : check d = 0 := if_neg h
theorem up_bad {d : Dev} (h : bad d) : up d = 8 := if_pos h
theorem up_down {d : Dev} (h : ¬ bad d) (hd : d.down = true) : up d = 20 := by unfold up; rw [if_neg h, if_pos hd]
theorem up_ok {d : Dev} (h : ¬ bad d) (hd : d.down = false) : up d = 0 := by unfold up; rw [if_neg h, if_neg (by simp [hd])]
theorem Dev.ext' {s s' t t' : List UInt8} {c c' : Int} {b b' : Bool} (h1 : s = s') (h2 : t = t') (h3 : c = c') (h4 : b = b') : (⟨s, t, c, b⟩ : Dev) = ⟨s', t', c', b'⟩ := by subst h1 h2 h3 h4; rfl
theorem up_zero {d : Dev} (h : up d = 0) : ¬ bad d ∧ d.down = false := by
  unfold up at h; split at h
  · cases h
  · rename_i hb; split at h
    · cases h
    · exact ⟨hb, by simpa using ‹¬ d.down = true›⟩
theorem size_le {d : Dev} (h : ¬ bad d) : 0 ≤ d.cap ∧ d.cap ≤ 20000 ∧ (d.size : Int) ≤ d.cap := by unfold bad at h; omega
end Disk
end Go.Proofs.YthgcfjhnnhigoaaGreat

/- Plain mathematics of layer 2: registers of 32 bits, steps, sums. Own work. -/
namespace Crc

def poly : BitVec 32 := 0xEDB88320#32
/-- A step by a bit 0. -/
def S (r : BitVec 32) : BitVec 32 := (r >>> 1) ^^^ (if r.getLsbD 0 then poly else 0#32)
/-- n steps by a bit 0. -/
def it : Nat → BitVec 32 → BitVec 32
  | 0, r => r
  | n + 1, r => it n (S r)
def ofB (b : UInt8) : BitVec 32 := BitVec.ofNat 32 b.toNat
def stepB (r : BitVec 32) (b : UInt8) : BitVec 32 := it 8 (r ^^^ ofB b)
def steps (r : BitVec 32) (l : List UInt8) : BitVec 32 := l.foldl stepB r
def upd (c : BitVec 32) (l : List UInt8) : BitVec 32 := ~~~ steps (~~~ c) l
def sum (l : List UInt8) : BitVec 32 := upd 0#32 l

theorem it_add (m n : Nat) (r : BitVec 32) : it (m + n) r = it n (it m r) := by
  induction m generalizing r with
  | zero => simp [it]
  | succ m ih => rw [Nat.succ_add]; exact ih _
theorem it_succ' (n : Nat) (r : BitVec 32) : it (n + 1) r = S (it n r) := it_add n 1 r
theorem S_xor (a b : BitVec 32) : S (a ^^^ b) = S a ^^^ S b := by
  unfold S
  rw [BitVec.getLsbD_xor]
  cases a.getLsbD 0 <;> cases b.getLsbD 0 <;> simp [BitVec.ushiftRight_xor_distrib] <;> ext i hi <;> simp <;> grind
/-- The undoing of a step. -/
def U (r : BitVec 32) : BitVec 32 := if r.getLsbD 31 then ((r ^^^ poly) <<< 1) ||| 1#32 else r <<< 1
def ut : Nat → BitVec 32 → BitVec 32
  | 0, r => r
  | n + 1, r => ut n (U r)
theorem steps_take (r : BitVec 32) (l : List UInt8) (k : Nat) (h : k < l.length) : steps r (l.take (k + 1)) = it 8 (steps r (l.take k) ^^^ ofB l[k]) := by
  rw [List.take_succ_eq_append_getElem h]
  unfold steps
  rw [List.foldl_append, List.foldl_cons, List.foldl_nil]
  unfold stepB
  exact Eq.refl _
theorem steps_take' (r : BitVec 32) (l : List UInt8) (k : Nat) (h : k < l.length) : steps r (l.take (k + 1)) = stepB (steps r (l.take k)) l[k] := steps_take r l k h
/-- With the limit. -/
def updE (x : BitVec 32) (l : List UInt8) : BitVec 32 := if l.length ≤ 20000 then upd x l else 0#32
def sumE (l : List UInt8) : BitVec 32 := updE 0#32 l
def errE (l : List UInt8) : Int := if l.length ≤ 20000 then 0 else 4
theorem updE_le {x : BitVec 32} {l : List UInt8} (h : l.length ≤ 20000) : updE x l = upd x l := if_pos h
theorem updE_gt {x : BitVec 32} {l : List UInt8} (h : ¬ l.length ≤ 20000) : updE x l = 0#32 := if_neg h
theorem sumE_le {l : List UInt8} (h : l.length ≤ 20000) : sumE l = sum l := if_pos h
theorem errE_le {l : List UInt8} (h : l.length ≤ 20000) : errE l = 0 := if_pos h
theorem errE_gt {l : List UInt8} (h : ¬ l.length ≤ 20000) : errE l = 4 := if_neg h
theorem steps_append (r : BitVec 32) (a b : List UInt8) : steps r (a ++ b) = steps (steps r a) b := List.foldl_append
/-- Continuing is joining. -/
theorem upd_append (c : BitVec 32) (a b : List UInt8) : upd (upd c a) b = upd c (a ++ b) := by
  unfold upd; rw [BitVec.not_not, steps_append]
/-- Joined sums. -/
def join (a b : BitVec 32) (n : Nat) : BitVec 32 := it (8 * n) a ^^^ b
/-- Three lists. -/
def mix : List UInt8 → List UInt8 → List UInt8 → List UInt8
  | a :: as, b :: bs, c :: cs => (a ^^^ b ^^^ c) :: mix as bs cs
  | _, _, _ => []
/-- Four bytes as a register. -/
def word (t0 t1 t2 t3 : UInt8) : BitVec 32 := ofB t0 ^^^ (ofB t1 <<< 8) ^^^ (ofB t2 <<< 16) ^^^ (ofB t3 <<< 24)
theorem ofB_hi (b : UInt8) (i : Nat) (h : 8 ≤ i) : (ofB b).getLsbD i = false := by
  unfold ofB
  rw [BitVec.getLsbD_ofNat]
  have hb := b.toNat_lt
  have : b.toNat < 2 ^ i := Nat.lt_of_lt_of_le hb (Nat.pow_le_pow_right (by omega) h)
  rw [Nat.testBit_lt_two_pow this]; simp
theorem ofB_shr8 (b : UInt8) : ofB b >>> 8 = 0#32 := by
  apply BitVec.eq_of_getLsbD_eq
  intro i hi
  rw [BitVec.getLsbD_ushiftRight, ofB_hi b _ (by omega)]; simp
theorem S_shl (x : BitVec 32) (h : x.getLsbD 31 = false) : S (x <<< 1) = x := by
  unfold S
  have h0 : (x <<< 1).getLsbD 0 = false := by simp
  rw [h0]
  ext i hi
  by_cases h31 : i = 31
  · subst h31; simp at *; simp [h]
  · have h1 : 1 + i < 32 := by omega
    simp [h1]
/-- The reference's register behind j bits. -/
def refIt (r : BitVec 32) (b : UInt8) (j : Nat) : BitVec 32 := it j (r ^^^ ofB b) ^^^ (ofB b >>> j)
def bitOf (b : UInt8) (j : Nat) : BitVec 32 := (ofB b >>> j) &&& 1#32
theorem bitOf_le (b : UInt8) (j : Nat) : (bitOf b j).toNat ≤ 1 := by
  unfold bitOf; rw [BitVec.toNat_and]; exact Nat.and_le_right
theorem refIt_zero (r : BitVec 32) (b : UInt8) : refIt r b 0 = r := by simp [refIt, it, BitVec.xor_assoc]
theorem refIt_eight (r : BitVec 32) (b : UInt8) : refIt r b 8 = stepB r b := by
  unfold refIt; rw [ofB_shr8, BitVec.xor_zero]; exact Eq.refl _
/-- The reference's round. -/
theorem ref_round (r : BitVec 32) (b : UInt8) (j : Nat) (hj : j < 8) :
    S ((it j (r ^^^ ofB b) ^^^ (ofB b >>> j)) ^^^ ((ofB b >>> j) &&& 1#32)) = it (j + 1) (r ^^^ ofB b) ^^^ (ofB b >>> (j + 1)) := by
  have e : (ofB b >>> j) ^^^ ((ofB b >>> j) &&& 1#32) = (ofB b >>> (j + 1)) <<< 1 := by
    apply BitVec.eq_of_getLsbD_eq
    intro i hi
    simp only [BitVec.getLsbD_xor, BitVec.getLsbD_and, BitVec.getLsbD_ushiftRight, BitVec.getLsbD_shiftLeft]
    by_cases h0 : i = 0
    · subst h0; simp
    · have h1 : (1#32).getLsbD i = false := by simp [h0]
      rw [h1]
      simp [hi, show ¬ i < 1 by omega, show j + 1 + (i - 1) = j + i by omega]
  rw [BitVec.xor_assoc, e, S_xor, S_shl _ (by rw [BitVec.getLsbD_ushiftRight, ofB_hi b _ (by omega)]), ← it_succ']
theorem refIt_succ (r : BitVec 32) (b : UInt8) (j : Nat) (hj : j < 8) : S (refIt r b j ^^^ bitOf b j) = refIt r b (j + 1) := ref_round r b j hj
/-- The bytes of a register, the lowest one first. -/
def byteAt (r : BitVec 32) (i : Nat) : UInt8 := UInt8.ofNat (r >>> (8 * i)).toNat
theorem ofB_byteAt (r : BitVec 32) (i : Nat) : ofB (byteAt r i) = (r >>> (8 * i)) &&& 0xFF#32 := by
  unfold ofB byteAt
  apply BitVec.eq_of_toNat_eq
  rw [BitVec.toNat_and, BitVec.toNat_ofNat, UInt8.toNat_ofNat']
  show _ = _ &&& 255
  rw [show (255 : Nat) = 2 ^ 8 - 1 from rfl, Nat.and_two_pow_sub_one_eq_mod]
  omega
theorem word_bytes (r : BitVec 32) : word (byteAt r 0) (byteAt r 1) (byteAt r 2) (byteAt r 3) = r := by
  unfold word
  rw [ofB_byteAt, ofB_byteAt, ofB_byteAt, ofB_byteAt]
  have hf : ∀ j, (0xFF#32).getLsbD j = decide (j < 8) := by
    intro j
    by_cases hj : j < 32
    · revert j; decide
    · simp [BitVec.getLsbD_of_ge, show 32 ≤ j by omega]; omega
  apply BitVec.eq_of_getLsbD_eq
  intro i hi
  simp only [BitVec.getLsbD_xor, BitVec.getLsbD_and, BitVec.getLsbD_shiftLeft, BitVec.getLsbD_ushiftRight, hf]
  have h4 : i < 8 ∨ (8 ≤ i ∧ i < 16) ∨ (16 ≤ i ∧ i < 24) ∨ (24 ≤ i ∧ i < 32) := by omega
  rcases h4 with h | ⟨h, h'⟩ | ⟨h, h'⟩ | ⟨h, h'⟩
  · simp [h, hi, show i < 16 by omega, show i < 24 by omega]
  · simp [show ¬ i < 8 by omega, hi, h', show i < 24 by omega, show i - 8 < 8 by omega, show 8 + (i - 8) = i by omega]
  · simp [show ¬ i < 8 by omega, show ¬ i < 16 by omega, hi, h', show ¬ i - 8 < 8 by omega, show i - 16 < 8 by omega, show 16 + (i - 16) = i by omega]
  · simp [show ¬ i < 8 by omega, show ¬ i < 16 by omega, show ¬ i < 24 by omega, hi, show ¬ i - 8 < 8 by omega, show ¬ i - 16 < 8 by omega, show i - 24 < 8 by omega, show 24 + (i - 24) = i by omega]
theorem word_inj {a b c d a' b' c' d' : UInt8} (h : word a b c d = word a' b' c' d') : a = a' ∧ b = b' ∧ c = c' ∧ d = d' := by
  have key : ∀ i, i < 32 → (word a b c d).getLsbD i = (word a' b' c' d').getLsbD i := fun i _ => by rw [h]
  have bit : ∀ (x y : UInt8), (∀ j, j < 8 → (ofB x).getLsbD j = (ofB y).getLsbD j) → x = y := by
    intro x y hxy
    have : ofB x = ofB y := by
      apply BitVec.eq_of_getLsbD_eq
      intro i hi
      by_cases h8 : i < 8
      · exact hxy i h8
      · rw [ofB_hi x i (by omega), ofB_hi y i (by omega)]
    have h2 := congrArg BitVec.toNat this
    unfold ofB at h2
    rw [BitVec.toNat_ofNat, BitVec.toNat_ofNat] at h2
    have hx := x.toNat_lt; have hy := y.toNat_lt
    apply UInt8.toNat_inj.1
    omega
  unfold word at key
  simp only [BitVec.getLsbD_xor, BitVec.getLsbD_shiftLeft] at key
  refine ⟨bit _ _ fun j hj => ?_, bit _ _ fun j hj => ?_, bit _ _ fun j hj => ?_, bit _ _ fun j hj => ?_⟩
  · have := key j (by omega)
    simpa [hj, show j < 16 by omega, show j < 24 by omega] using this
  · have := key (8 + j) (by omega)
    rw [ofB_hi a _ (by omega), ofB_hi a' _ (by omega)] at this
    simpa [show ¬ 8 + j < 8 by omega, show 8 + j < 32 by omega, show 8 + j < 16 by omega, show 8 + j < 24 by omega, ofB_hi] using this
  · have := key (16 + j) (by omega)
    rw [ofB_hi a _ (by omega), ofB_hi a' _ (by omega), ofB_hi b _ (by omega), ofB_hi b' _ (by omega)] at this
    simpa [show ¬ 16 + j < 16 by omega, show ¬ 16 + j < 8 by omega, show 16 + j < 32 by omega, show 16 + j - 8 = 8 + j by omega, show 16 + j < 24 by omega, ofB_hi] using this
  · have := key (24 + j) (by omega)
    rw [ofB_hi a _ (by omega), ofB_hi a' _ (by omega), ofB_hi b _ (by omega), ofB_hi b' _ (by omega), ofB_hi c _ (by omega), ofB_hi c' _ (by omega)] at this
    simpa [show ¬ 24 + j < 24 by omega, show ¬ 24 + j < 16 by omega, show ¬ 24 + j < 8 by omega, show 24 + j < 32 by omega, show 24 + j - 8 = 16 + j by omega, show 24 + j - 16 = 8 + j by omega, ofB_hi] using this
/-- What is put behind bytes for a sum. -/
def tailW (l : List UInt8) (want : BitVec 32) : BitVec 32 := steps (~~~ 0#32) l ^^^ ut 32 (~~~ want)
/-- A row. -/
def rowE (i : Int) : BitVec 32 × Int := if 0 ≤ i ∧ i ≤ 255 then (it 8 (BitVec.ofNat 32 i.toNat), 0) else (0#32, 2)
/-- Not looked at. -/
def long (l : List UInt8) : Bool := (decide (1000 < l.length) && decide (l.length ≤ 20000)) || decide (21000 < l.length)
/-- What the first j bits make. -/
def part (d : Nat) (r : BitVec 32) : Nat → BitVec 32
  | 0 => 0#32
  | j + 1 => part d r j ^^^ (if r.getLsbD j then it d (1#32 <<< j) else 0#32)
/-- Joining, with its error. -/
def joinE (a b : BitVec 32) (n : Int) : BitVec 32 × Int := if 0 ≤ n ∧ n ≤ 1000000000 then (join a b n.toNat, 0) else (0#32, 2)
/-- The tail as a register, and its error. -/
def tailE (l : List UInt8) (want : BitVec 32) : BitVec 32 := if l.length ≤ 20000 then tailW l want else 0#32
/-- The first j of four bytes changed. -/
def chg (a : List UInt8) (n : Nat) (f : Nat → UInt8) : Nat → List UInt8
  | 0 => a
  | j + 1 => (chg a n f j).set (n + j) ((chg a n f j).getD (n + j) 0 ^^^ f j)
end Crc

/- Records as bytes, and scans: plain mathematics. Own work. -/
namespace Go.Proofs.YthgcfjhnnhigoaaGreat
namespace Frame

structure Rec where
  num : Int
  data : List UInt8

def Valid (r : Rec) : Prop := 0 ≤ r.num ∧ r.num ≤ 1000000000 ∧ r.data.length ≤ 1000
def w4 (x : BitVec 32) : List UInt8 := [Crc.byteAt x 0, Crc.byteAt x 1, Crc.byteAt x 2, Crc.byteAt x 3]
def head (r : Rec) : List UInt8 := w4 (BitVec.ofNat 32 r.data.length) ++ w4 (BitVec.ofNat 32 r.num.toNat)
def enc (r : Rec) : List UInt8 := head r ++ (w4 (Crc.sum (head r ++ r.data)) ++ r.data)
def all (l : List Rec) : List UInt8 := (l.map enc).flatten
def rd (b : List UInt8) (k : Nat) : BitVec 32 := Crc.word (b.getD k 0) (b.getD (k + 1) 0) (b.getD (k + 2) 0) (b.getD (k + 3) 0)
/-- b begins with the bytes of the valid record r. -/
def Pre (r : Rec) (b : List UInt8) : Prop := Valid r ∧ enc r <+: b

@[simp] theorem w4_length (x : BitVec 32) : (w4 x).length = 4 := rfl
@[simp] theorem head_length (r : Rec) : (head r).length = 8 := rfl
theorem enc_length (r : Rec) : (enc r).length = 12 + r.data.length := by unfold enc; simp; omega
theorem all_nil : all [] = [] := rfl
theorem all_cons (r : Rec) (l : List Rec) : all (r :: l) = enc r ++ all l := by simp [all]
theorem all_append (l m : List Rec) : all (l ++ m) = all l ++ all m := by simp [all]
theorem all_one (r : Rec) : all [r] = enc r := by simp [all]
theorem all_take_succ (l : List Rec) (k : Nat) (h : k < l.length) : all (l.take (k + 1)) = all (l.take k) ++ enc l[k] := by
  rw [List.take_succ_eq_append_getElem h, all_append, all_one]

theorem rd_w4 (x : BitVec 32) (l : List UInt8) : rd (w4 x ++ l) 0 = x := Crc.word_bytes x
theorem rd_skip (p l : List UInt8) (k j : Nat) (h : p.length = j) : rd (p ++ l) (j + k) = rd l k := by
  subst h
  unfold rd
  simp only [List.getD_eq_getElem?_getD]
  rw [List.getElem?_append_right (by omega), List.getElem?_append_right (by omega), List.getElem?_append_right (by omega), List.getElem?_append_right (by omega)]
  congr 3 <;> congr 1 <;> omega
theorem w4_rd (b : List UInt8) (k : Nat) (h : k + 4 ≤ b.length) : w4 (rd b k) = (b.drop k).take 4 := by
  have e := Crc.word_inj (Crc.word_bytes (rd b k))
  unfold w4
  rw [e.1, e.2.1, e.2.2.1, e.2.2.2]
  apply List.ext_getElem
  · simp; omega
  · intro i h1 h2
    have hi : i < 4 := h1
    rw [List.getElem_take, List.getElem_drop]
    match i, hi with
    | 0, _ => simp [List.getD_eq_getElem?_getD, List.getElem?_eq_getElem (show k < b.length by omega)]
    | 1, _ => simp [List.getD_eq_getElem?_getD, List.getElem?_eq_getElem (show k + 1 < b.length by omega)]
    | 2, _ => simp [List.getD_eq_getElem?_getD, List.getElem?_eq_getElem (show k + 2 < b.length by omega)]
    | 3, _ => simp [List.getD_eq_getElem?_getD, List.getElem?_eq_getElem (show k + 3 < b.length by omega)]
theorem nat32 (n : Nat) (h : n ≤ 1000000000) : (BitVec.ofNat 32 n).toNat = n := by
  rw [BitVec.toNat_ofNat]; omega

theorem pre_facts {r : Rec} {b : List UInt8} (h : Pre r b) : 12 + r.data.length ≤ b.length ∧ (rd b 0).toNat = r.data.length ∧ ((rd b 4).toNat : Int) = r.num ∧
    (b.drop 12).take r.data.length = r.data ∧ b.take 8 = head r ∧ rd b 8 = Crc.sum (head r ++ r.data) := by
  obtain ⟨⟨v1, v2, v3⟩, t, rfl⟩ := h
  have e0 : enc r ++ t = w4 (BitVec.ofNat 32 r.data.length) ++ (w4 (BitVec.ofNat 32 r.num.toNat) ++ (w4 (Crc.sum (head r ++ r.data)) ++ (r.data ++ t))) := by simp [enc, head]
  refine ⟨by rw [List.length_append, enc_length]; omega, ?_, ?_, ?_, ?_, ?_⟩
  · rw [e0, rd_w4, nat32 _ (by omega)]
  · rw [e0, show (4 : Nat) = 4 + 0 from rfl, rd_skip _ _ _ _ (by simp), rd_w4, nat32 _ (by omega)]; omega
  · rw [e0]
    rw [← List.append_assoc, ← List.append_assoc, List.drop_left' (by simp), List.take_left' rfl]
  · rw [e0, ← List.append_assoc, List.take_left' (by simp)]; rfl
  · rw [e0, show (8 : Nat) = 4 + (4 + 0) from rfl, rd_skip _ _ _ _ (by simp), rd_skip _ _ _ _ (by simp), rd_w4]

theorem pre_unique {r s : Rec} {b : List UInt8} (h : Pre r b) (k : Pre s b) : r = s := by
  obtain ⟨_, h1, h2, h3, _⟩ := pre_facts h
  obtain ⟨_, k1, k2, k3, _⟩ := pre_facts k
  obtain ⟨n, d⟩ := r
  obtain ⟨n', d'⟩ := s
  simp only at h1 h2 h3 k1 k2 k3
  have hl : d.length = d'.length := by omega
  rw [hl] at h3
  simp only [Rec.mk.injEq]
  exact ⟨by omega, h3.symm.trans k3⟩
theorem pre_is {r : Rec} {b : List UInt8} (h : Pre r b) : r = ⟨((rd b 4).toNat : Int), (b.drop 12).take (rd b 0).toNat⟩ := by
  obtain ⟨_, h1, h2, h3, _⟩ := pre_facts h
  rw [h1, h2, h3]
theorem pre_mono {r : Rec} {b c : List UInt8} (h : Pre r b) (hp : b <+: c) : Pre r c := ⟨h.1, h.2.trans hp⟩
theorem no_short {b : List UInt8} (h : b.length < 12) (r : Rec) : ¬ Pre r b := fun k => by have := (pre_facts k).1; omega
theorem no_len {b : List UInt8} (h : 1000 < (rd b 0).toNat) (r : Rec) : ¬ Pre r b := fun k => by have := (pre_facts k).2.1; have := k.1.2.2; omega
theorem no_num {b : List UInt8} (h : 1000000000 < (rd b 4).toNat) (r : Rec) : ¬ Pre r b := fun k => by have := (pre_facts k).2.2.1; have := k.1.2.1; omega
theorem no_room {b : List UInt8} (h : b.length < 12 + (rd b 0).toNat) (r : Rec) : ¬ Pre r b := fun k => by have := (pre_facts k).2.1; have := (pre_facts k).1; omega
theorem no_sum {b : List UInt8} (h : rd b 8 ≠ Crc.sum (b.take 8 ++ (b.drop 12).take (rd b 0).toNat)) (r : Rec) : ¬ Pre r b := fun k => by
  obtain ⟨_, h1, _, h3, h4, h5⟩ := pre_facts k
  exact h (by rw [h1, h3, h4, h5])
theorem pre_of {b : List UInt8} (h1 : (rd b 0).toNat ≤ 1000) (h2 : (rd b 4).toNat ≤ 1000000000) (h3 : (rd b 0).toNat + 12 ≤ b.length)
    (h4 : rd b 8 = Crc.sum (b.take 8 ++ (b.drop 12).take (rd b 0).toNat)) : Pre ⟨((rd b 4).toNat : Int), (b.drop 12).take (rd b 0).toNat⟩ b := by
  have hl : ((b.drop 12).take (rd b 0).toNat).length = (rd b 0).toNat := by simp; omega
  refine ⟨⟨by simp, by simp; omega, by simp only; omega⟩, ?_⟩
  have hh : head ⟨((rd b 4).toNat : Int), (b.drop 12).take (rd b 0).toNat⟩ = b.take 8 := by
    unfold head
    simp only [hl, Int.toNat_natCast, BitVec.ofNat_toNat, BitVec.setWidth_eq]
    rw [w4_rd b 0 (by omega), w4_rd b 4 (by omega), List.drop_zero, show (8 : Nat) = 4 + 4 from rfl, List.take_add]
  unfold enc
  rw [hh]
  simp only
  rw [← h4, w4_rd b 8 (by omega)]
  refine ⟨b.drop (12 + (rd b 0).toNat), ?_⟩
  rw [List.append_assoc, List.append_assoc, ← List.drop_drop, List.take_append_drop, show b.drop 12 = (b.drop 8).drop 4 by rw [List.drop_drop], List.take_append_drop, List.take_append_drop]

/-- r may follow l. -/
def Next (l : List Rec) (r : Rec) : Prop := ∀ h : 0 < l.length, r.num = l[l.length - 1].num + 1
/-- Valid records with numbers one behind the other. -/
def Foll (l : List Rec) : Prop := ∀ i (h : i < l.length), Valid l[i] ∧ ∀ _ : 0 < i, l[i].num = l[i - 1].num + 1
theorem foll_nil : Foll [] := fun i h => absurd h (by simp)
theorem foll_snoc {l : List Rec} {r : Rec} (h : Foll l) (v : Valid r) (n : Next l r) : Foll (l ++ [r]) := by
  intro i hi
  rcases Nat.lt_or_ge i l.length with hl | hl
  · rw [List.getElem_append_left hl]
    refine ⟨(h i hl).1, fun h0 => ?_⟩
    rw [List.getElem_append_left (by omega)]
    exact (h i hl).2 h0
  · have he : i = l.length := by simp at hi; omega
    subst he
    rw [List.getElem_append_right (by omega)]
    refine ⟨by simpa using v, fun h0 => ?_⟩
    rw [List.getElem_append_left (by omega)]
    simpa using n h0
theorem foll_take {l : List Rec} (h : Foll l) (k : Nat) : Foll (l.take k) := by
  intro i hi
  have hi' : i < l.length := by simp at hi; omega
  rw [List.getElem_take]
  refine ⟨(h i hi').1, fun h0 => ?_⟩
  rw [List.getElem_take]
  exact (h i hi').2 h0
theorem next_take {l : List Rec} (h : Foll l) (k : Nat) (hk : k < l.length) : Next (l.take k) l[k] := by
  intro h0
  have h1 : (l.take k).length = k := by simp; omega
  have h2 := (h k hk).2 (by omega)
  rw [h2, List.getElem_take]
  congr 3; omega

/-- A scan of b finds l, and uses u. -/
def IsScan (b : List UInt8) (l : List Rec) (u : Nat) : Prop := Foll l ∧ u = (all l).length ∧ all l <+: b ∧ ∀ r, Pre r (b.drop u) → ¬ Next l r

theorem pre_at {l : List Rec} {b : List UInt8} (hF : Foll l) (hp : all l <+: b) (k : Nat) (h : k < l.length) : Pre l[k] (b.drop (all (l.take k)).length) := by
  obtain ⟨t, rfl⟩ := hp
  refine ⟨(hF k h).1, all (l.drop (k + 1)) ++ t, ?_⟩
  have e : all l = all (l.take k) ++ (enc l[k] ++ all (l.drop (k + 1))) := by
    conv => lhs; rw [← List.take_append_drop k l, all_append, List.drop_eq_getElem_cons h, all_cons]
  rw [e, List.append_assoc, List.drop_left' rfl, List.append_assoc]
theorem all_take_prefix (l : List Rec) (k : Nat) : all (l.take k) <+: all l := by
  conv => rhs; rw [← List.take_append_drop k l, all_append]
  exact List.prefix_append _ _
theorem longest {b : List UInt8} {l m : List Rec} {u : Nat} (hF : Foll l) (hp : all l <+: b) (hs : IsScan b m u) : l <+: m := by
  obtain ⟨mF, rfl, mp, stop⟩ := hs
  have key : ∀ n, n ≤ l.length → l.take n <+: m := by
    intro n
    induction n with
    | zero => intro _; simp
    | succ n ih =>
      intro hn
      have hlt : n < l.length := by omega
      have h1 := ih (by omega)
      have hlen : (l.take n).length = n := by simp; omega
      have hm := List.prefix_iff_eq_take.1 h1
      rw [hlen] at hm
      have p1 := pre_at hF hp n hlt
      rcases Nat.lt_or_ge n m.length with h2 | h2
      · have p2 := pre_at mF mp n h2
        rw [← hm] at p2
        have e := pre_unique p1 p2
        rw [List.take_succ_eq_append_getElem hlt, e, hm, ← List.take_succ_eq_append_getElem h2]
        exact List.take_prefix _ _
      · have hm2 : l.take n = m := by rw [hm]; exact List.take_of_length_le (by omega)
        rw [hm2] at p1
        have hn := next_take hF n hlt
        rw [hm2] at hn
        exact absurd hn (stop _ p1)
  have := key l.length (Nat.le_refl _)
  rwa [List.take_length] at this
theorem scan_unique {b : List UInt8} {l m : List Rec} {u v : Nat} (h : IsScan b l u) (k : IsScan b m v) : l = m ∧ u = v := by
  have h1 := longest h.1 h.2.2.1 k
  have h2 := longest k.1 k.2.2.1 h
  have e : l = m := h1.eq_of_length (Nat.le_antisymm h1.length_le h2.length_le)
  subst e
  exact ⟨rfl, h.2.1.trans k.2.1.symm⟩
theorem scan_le {b : List UInt8} {l : List Rec} {u : Nat} (h : IsScan b l u) : u ≤ b.length := by rw [h.2.1]; exact h.2.2.1.length_le
theorem scan_torn {l : List Rec} (hF : Foll l) (n k : Nat) (hk : k ≤ l.length) (hn : n ≤ (all l).length) (h1 : (all (l.take k)).length ≤ n)
    (h2 : k = l.length ∨ n < (all (l.take (k + 1))).length) : IsScan ((all l).take n) (l.take k) (all (l.take k)).length := by
  refine ⟨foll_take hF k, rfl, ?_, fun r hr => ?_⟩
  · have := all_take_prefix l k
    exact List.prefix_take_iff.2 ⟨this, h1⟩
  · exfalso
    rcases Nat.lt_or_ge k l.length with hlt | hge
    · have h3 : n < (all (l.take (k + 1))).length := by rcases h2 with h | h <;> omega
      rw [all_take_succ l k hlt, List.length_append] at h3
      have p1 := pre_at hF (List.prefix_refl _) k hlt
      have p2 : Pre r ((all l).drop (all (l.take k)).length) := by
        refine pre_mono hr ?_
        rw [List.drop_take]
        exact List.take_prefix _ _
      have e := pre_unique p1 p2
      have h4 := hr.2.length_le
      rw [← e] at h4
      simp at h4
      omega
    · have hk' : k = l.length := by omega
      refine no_short ?_ r hr
      rw [hk', List.take_length]
      simp; omega
theorem scan_back {b : List UInt8} {l : List Rec} {u : Nat} (h : IsScan b l u) : all l = b.take u ∧ IsScan (b.take u) l u := by
  obtain ⟨hF, rfl, hp, _⟩ := h
  have e := List.prefix_iff_eq_take.1 hp
  refine ⟨e, hF, rfl, by rw [← e]; exact List.prefix_refl _, fun r hr => ?_⟩
  exact absurd hr (no_short (by simp) r)

end Frame
end Go.Proofs.YthgcfjhnnhigoaaGreat

/- Logs of records on a device: plain mathematics of layer 4. Own work. -/
namespace Go.Proofs.YthgcfjhnnhigoaaGreat
namespace Wal
open Frame

structure Log where
  dev : Disk.Dev
  first : Int
  next : Int
def zero : Log := ⟨Disk.zero, 0, 0⟩

/-- The number of the first record. -/
def base : List Rec → Int
  | [] => 0
  | r :: _ => r.num

theorem num_at {l : List Rec} (h : Foll l) : ∀ i (hi : i < l.length), l[i].num = base l + i := by
  intro i
  induction i with
  | zero =>
    intro hi
    cases l with
    | nil => exact absurd hi (by simp)
    | cons r l => simp [base]
  | succ i ih =>
    intro hi
    have h1 := (h (i + 1) hi).2 (by omega)
    rw [h1]
    have h2 := ih (by omega)
    simp only [Nat.add_sub_cancel]
    rw [h2]
    omega
theorem base_rng {l : List Rec} (h : Foll l) (h0 : 0 < l.length) : 0 ≤ base l ∧ base l + l.length ≤ 1000000001 := by
  have a := (h 0 h0).1
  have b := (h (l.length - 1) (by omega)).1
  have ea := num_at h 0 h0
  have eb := num_at h (l.length - 1) (by omega)
  unfold Valid at a b
  omega
theorem foll_drop {l : List Rec} (h : Foll l) (k : Nat) : Foll (l.drop k) := by
  intro i hi
  have hi' : k + i < l.length := by simp at hi; omega
  rw [List.getElem_drop]
  refine ⟨(h _ hi').1, fun h0 => ?_⟩
  rw [List.getElem_drop]
  rw [(h _ hi').2 (by omega)]
  congr 3
  omega
theorem base_take (l : List Rec) (k : Nat) (hk : 0 < k) : base (l.take k) = base l := by
  cases l with
  | nil => simp
  | cons r l => cases k with
    | zero => omega
    | succ k => rfl
theorem base_snoc {l : List Rec} (r : Rec) (h : 0 < l.length) : base (l ++ [r]) = base l := by
  cases l with
  | nil => exact absurd h (by simp)
  | cons r l => rfl
theorem take_mono (l : List Rec) {j k : Nat} (h : j ≤ k) : (all (l.take j)).length ≤ (all (l.take k)).length := by
  have := all_take_prefix (l.take k) j
  rw [List.take_take, Nat.min_eq_left h] at this
  exact this.length_le
theorem take_le (l : List Rec) (k : Nat) : (all (l.take k)).length ≤ (all l).length := (all_take_prefix l k).length_le
theorem all_len (l : List Rec) : 12 * l.length ≤ (all l).length := by
  induction l with
  | nil => simp
  | cons r l ih => rw [all_cons, List.length_append, enc_length, List.length_cons]; omega
theorem take_step (l : List Rec) (k : Nat) (h : k < l.length) : (all (l.take (k + 1))).length = (all (l.take k)).length + (12 + l[k].data.length) := by
  rw [all_take_succ l k h, List.length_append, enc_length]

/-- How many records are there as a whole among the first n bytes. -/
def cut : List Rec → Nat → Nat
  | [], _ => 0
  | r :: l, n => if 12 + r.data.length ≤ n then cut l (n - (12 + r.data.length)) + 1 else 0
theorem cut_le (l : List Rec) : ∀ n, cut l n ≤ l.length := by
  induction l with
  | nil => intro n; simp [cut]
  | cons r l ih =>
    intro n
    unfold cut
    split
    · have := ih (n - (12 + r.data.length)); simp; exact this
    · simp
theorem cut_in (l : List Rec) : ∀ n, (all (l.take (cut l n))).length ≤ n := by
  induction l with
  | nil => intro n; simp [cut, all_nil]
  | cons r l ih =>
    intro n
    unfold cut
    split
    · rename_i h
      have := ih (n - (12 + r.data.length))
      rw [List.take_succ_cons, all_cons, List.length_append, enc_length]; omega
    · simp [all_nil]
theorem cut_out (l : List Rec) : ∀ n, cut l n = l.length ∨ n < (all (l.take (cut l n + 1))).length := by
  induction l with
  | nil => intro n; exact .inl rfl
  | cons r l ih =>
    intro n
    unfold cut
    split
    · rename_i h
      rcases ih (n - (12 + r.data.length)) with h1 | h1
      · exact .inl (by rw [h1]; rfl)
      · right
        rw [List.take_succ_cons, all_cons, List.length_append, enc_length]; omega
    · rename_i h
      right
      rw [List.take_succ_cons, all_cons, List.length_append, enc_length]; omega
theorem le_cut {l : List Rec} {n k : Nat} (hk : k ≤ l.length) (h : (all (l.take k)).length ≤ n) : k ≤ cut l n := by
  rcases Nat.lt_or_ge (cut l n) k with h1 | h1
  · rcases cut_out l n with h2 | h2
    · omega
    · have := take_mono l (show cut l n + 1 ≤ k from h1); omega
  · exact h1
theorem cut_eq {l : List Rec} {n k : Nat} (hk : k ≤ l.length) (h : (all (l.take k)).length ≤ n) (h2 : k = l.length ∨ n < (all (l.take (k + 1))).length) : cut l n = k := by
  have h1 := le_cut hk h
  rcases h2 with h2 | h2
  · have := cut_le l n; omega
  · rcases Nat.lt_or_ge k (cut l n) with h3 | h3
    · have := take_mono l (show k + 1 ≤ cut l n from h3); have := cut_in l n; omega
    · omega
theorem cut_mono (l : List Rec) {n m : Nat} (h : n ≤ m) : cut l n ≤ cut l m := le_cut (cut_le l n) (Nat.le_trans (cut_in l n) h)
theorem cut_all (l : List Rec) : cut l (all l).length = l.length := cut_eq (Nat.le_refl _) (by rw [List.take_length]; exact Nat.le_refl _) (.inl rfl)
theorem scan_cut {l : List Rec} (hF : Foll l) (n : Nat) (hn : n ≤ (all l).length) : IsScan ((all l).take n) (l.take (cut l n)) (all (l.take (cut l n))).length :=
  scan_torn hF n (cut l n) (cut_le l n) hn (cut_in l n) (cut_out l n)
theorem scan_full {l : List Rec} (h : Foll l) : IsScan (all l) l (all l).length := ⟨h, rfl, List.prefix_refl _, fun r hr => absurd hr (no_short (by simp) r)⟩

/-- First and Next are those of the records. -/
def Fits (rs : List Rec) (f n : Int) : Prop := n = f + rs.length ∧ (0 < rs.length → f = base rs) ∧ 0 ≤ f ∧ f ≤ 1000000001
/-- A valid log with the records rs. -/
def Good (l : Log) (rs : List Rec) : Prop := Disk.up l.dev = 0 ∧ Foll rs ∧ l.dev.s ++ l.dev.t = all rs ∧ Fits rs l.first l.next

theorem scan_count {n : Nat} {b : List UInt8} {l : List Rec} {u : Nat} (h : IsScan b l u) (hn : l.length = n) (hb : b.length ≤ 20000) : n ≤ 20000 := by
  have h1 := all_len l
  have h2 := h.2.2.1.length_le
  omega
theorem scan_exists (b : List UInt8) : ∃ l u, IsScan b l u := by
  have key : ∀ k (l : List Rec), Foll l → all l <+: b → b.length - (all l).length ≤ k → ∃ m u, IsScan b m u := by
    intro k
    induction k with
    | zero =>
      intro l hF hp hk
      refine ⟨l, _, hF, rfl, hp, fun r hr _ => no_short ?_ r hr⟩
      have := hp.length_le
      simp; omega
    | succ k ih =>
      intro l hF hp hk
      by_cases h : ∃ r, Pre r (b.drop (all l).length) ∧ Next l r
      · obtain ⟨r, hr, hn⟩ := h
        have h1 := (pre_facts hr).1
        simp at h1
        refine ih (l ++ [r]) (foll_snoc hF hr.1 hn) ?_ ?_
        · obtain ⟨t, rfl⟩ := hp
          obtain ⟨s, hs⟩ := hr.2
          rw [List.drop_left' rfl] at hs
          exact ⟨s, by rw [all_append, all_one, List.append_assoc, hs]⟩
        · rw [all_append, all_one, List.length_append, enc_length]; omega
      · exact ⟨l, _, hF, rfl, hp, fun r hr hn => h ⟨r, hr, hn⟩⟩
  exact key _ [] foll_nil List.nil_prefix (Nat.le_refl _)

section
variable {l : Log} {rs : List Rec} {d : Disk.Dev} {s t : List UInt8} {cap f n : Int} {dn : Bool} {u : Nat}
theorem Good.scan (h : Good l rs) : IsScan (l.dev.s ++ l.dev.t) rs (l.dev.s ++ l.dev.t).length := by rw [h.2.2.1]; exact scan_full h.2.1
theorem good_of (hs : IsScan (s ++ t) rs u) (hu : Disk.up ⟨s, t, cap, dn⟩ = 0) (hl : u = (s ++ t).length) (hf : Fits rs f n) : Good ⟨⟨s, t, cap, dn⟩, f, n⟩ rs := by
  refine ⟨hu, hs.1, ?_, hf⟩
  have h1 := (scan_back hs).1
  rw [hl, List.take_length] at h1
  exact h1.symm
theorem Good.unique {rs' : List Rec} (h : Good l rs) (k : Good l rs') : rs = rs' := (scan_unique h.scan k.scan).1
/-- What a log's records are, if it is valid. -/
def Is (l : Log) (g : Option (List Rec)) : Prop := match g with
  | none => ∀ rs, ¬ Good l rs
  | some rs => Good l rs
theorem is_exists (l : Log) : ∃ g, Is l g := by
  by_cases h : ∃ rs, Good l rs
  · obtain ⟨rs, h⟩ := h; exact ⟨some rs, h⟩
  · exact ⟨none, fun rs hr => h ⟨rs, hr⟩⟩
theorem Good.isUp (h : Good l rs) : l.dev.down = false := (Disk.up_zero h.1).2
theorem Good.nb (h : Good l rs) : ¬ Disk.bad l.dev := (Disk.up_zero h.1).1
theorem Good.room (h : Good l rs) : 0 ≤ l.dev.cap ∧ l.dev.cap ≤ 20000 ∧ (l.dev.size : Int) ≤ l.dev.cap := Disk.size_le h.nb
theorem Good.len (h : Good l rs) : l.dev.s.length + l.dev.t.length = (all rs).length := by rw [← h.2.2.1, List.length_append]
theorem Good.count (h : Good l rs) : 12 * rs.length ≤ 20000 := by
  have h1 := all_len rs
  have h2 := h.len
  have h3 := h.room
  unfold Disk.Dev.size at h3
  omega
theorem Good.rng (h : Good l rs) : 0 ≤ l.first ∧ l.first ≤ 1000000001 ∧ l.first ≤ l.next ∧ l.next ≤ 1000000001 := by
  obtain ⟨_, hF, _, h1, h2, h3, h4⟩ := h
  rcases Nat.eq_zero_or_pos rs.length with h0 | h0
  · omega
  · have := base_rng hF h0
    have := h2 h0
    omega
theorem Good.synced (h : Good l rs) : IsScan l.dev.s (rs.take (cut rs l.dev.s.length)) (all (rs.take (cut rs l.dev.s.length))).length := by
  have h1 := scan_cut h.2.1 l.dev.s.length (by have := h.len; omega)
  rw [← h.2.2.1, List.take_left' rfl] at h1
  exact h1
theorem up_mk (h0 : 0 ≤ cap) (h1 : cap ≤ 20000) (h2 : (s.length : Int) + t.length ≤ cap) : Disk.up ⟨s, t, cap, false⟩ = 0 := by
  refine Disk.up_ok ?_ rfl
  rw [Disk.bad_iff]
  rintro (h | h | h | ⟨h, _⟩)
  · omega
  · omega
  · omega
  · cases h
theorem up_iff : Disk.up ⟨s, t, cap, false⟩ = 0 ↔ 0 ≤ cap ∧ cap ≤ 20000 ∧ (s.length : Int) + t.length ≤ cap := by
  constructor
  · intro h
    have h1 := Disk.size_le (Disk.up_zero h).1
    simp only [Disk.Dev.size] at h1
    omega
  · intro h; exact up_mk h.1 h.2.1 h.2.2

theorem good_sync (h : Good ⟨⟨s, t, cap, false⟩, f, n⟩ rs) : Good ⟨⟨s ++ t, [], cap, false⟩, f, n⟩ rs := by
  obtain ⟨h1, h2, h3, h4⟩ := h
  refine ⟨?_, h2, by simpa using h3, h4⟩
  rw [up_iff] at h1 ⊢
  simp
  omega
theorem good_append (h : Good ⟨⟨s, t, cap, false⟩, f, n⟩ rs) (b : List UInt8) (hb : b.length ≤ 1000) (hn : n ≤ 1000000000) (hr : (s.length : Int) + t.length + (12 + b.length) ≤ cap) :
    Good ⟨⟨s, t ++ enc ⟨n, b⟩, cap, false⟩, f, n + 1⟩ (rs ++ [⟨n, b⟩]) := by
  have hg := h.rng
  obtain ⟨h1, h2, h3, h4, h5, h6, h7⟩ := h
  simp only at h1 h3 h4 h5 h6 h7 hg
  refine ⟨?_, ?_, ?_, ?_, ?_, h6, h7⟩
  · rw [up_iff] at h1 ⊢
    rw [List.length_append, enc_length]
    simp only
    omega
  · refine foll_snoc h2 ⟨by simp only; omega, hn, hb⟩ ?_
    intro h0
    have := num_at h2 (rs.length - 1) (by omega)
    rw [this]
    have := h5 h0
    simp only
    omega
  · rw [all_append, all_one, ← List.append_assoc, h3]
  · simp only [List.length_append, List.length_cons, List.length_nil]; omega
  · intro _
    rcases Nat.eq_zero_or_pos rs.length with h0 | h0
    · have : rs = [] := List.eq_nil_of_length_eq_zero h0
      subst this
      simp only [List.nil_append, base]
      simp at h4
      omega
    · rw [base_snoc _ h0]; exact h5 h0
end

/-! What each function comes to; g tells the records of a log, if it is valid. -/
def check (g : Option (List Rec)) : Int := match g with
  | none => 8
  | some _ => 0
def open_ (d : Disk.Dev) (n : Int) (rs : List Rec) (u : Nat) : Log × Int :=
  if Disk.bad d then (zero, 8) else if n < 0 ∨ 1000000000 < n then (zero, 2)
  else if rs.length = 0 ∨ base rs + rs.length < n then (⟨⟨[], [], d.cap, false⟩, n, n⟩, 0)
  else (⟨⟨(d.s ++ d.t).take u, [], d.cap, false⟩, base rs, base rs + rs.length⟩, 0)
def append (l : Log) (b : List UInt8) (g : Option (List Rec)) : Log × Int × Int := match g with
  | none => (zero, 0, 8)
  | some _ => if 1000 < b.length then (zero, 0, 4) else if 1000000000 < l.next then (zero, 0, 2)
    else if l.dev.cap - l.dev.size < 12 + b.length then (zero, 0, 18)
    else (⟨⟨l.dev.s, l.dev.t ++ enc ⟨l.next, b⟩, l.dev.cap, false⟩, l.first, l.next + 1⟩, l.next, 0)
def sync (l : Log) (g : Option (List Rec)) : Log × Int := match g with
  | none => (zero, 8)
  | some _ => (⟨⟨l.dev.s ++ l.dev.t, [], l.dev.cap, false⟩, l.first, l.next⟩, 0)
def synced (l : Log) (g : Option (List Rec)) : Int × Int := match g with
  | none => (0, 8)
  | some rs => (l.first + cut rs l.dev.s.length, 0)
def records (l : Log) (m : Int) (g : Option (List Rec)) : List Rec × Int := match g with
  | none => ([], 8)
  | some rs => if m < l.first ∨ l.next < m then ([], 2) else (rs.drop (m - l.first).toNat, 0)
def drop (l : Log) (m : Int) (g : Option (List Rec)) : Log × Int := match g with
  | none => (zero, 8)
  | some rs => if m < l.first ∨ l.next < m then (zero, 2) else if l.first + cut rs l.dev.s.length < m then (zero, 32)
    else (⟨⟨l.dev.s.drop (all (rs.take (m - l.first).toNat)).length, l.dev.t, l.dev.cap, false⟩, m, l.next⟩, 0)
def crash (l : Log) (k : Int) (g : Option (List Rec)) : Disk.Dev × Int := match g with
  | none => (Disk.zero, 8)
  | some _ => Disk.crash l.dev k
end Wal
end Go.Proofs.YthgcfjhnnhigoaaGreat
