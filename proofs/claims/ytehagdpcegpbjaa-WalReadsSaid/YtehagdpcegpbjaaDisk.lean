/- Plain mathematics of layer 1: what each function comes to. No program is named. Own work. -/
import Init
namespace Go.Proofs.Ytehagdpcegpbjaa
namespace Disk

structure Dev where
  s : List UInt8
  t : List UInt8
  cap : Int
  down : Bool

def Dev.size (d : Dev) : Nat := d.s.length + d.t.length
def Dev.all (d : Dev) : List UInt8 := d.s ++ d.t
def zero : Dev := ⟨[], [], 0, false⟩
def bad (d : Dev) : Prop := d.cap < 0 ∨ 20000 < d.cap ∨ d.cap < d.size ∨ (d.down = true ∧ 0 < d.t.length)
instance (d : Dev) : Decidable (bad d) := by unfold bad; infer_instance
def check (d : Dev) : Int := if bad d then 8 else 0
def up (d : Dev) : Int := if bad d then 8 else if d.down = true then 20 else 0
def new (c : Int) : Dev × Int := if c < 0 ∨ 20000 < c then (zero, 2) else (⟨[], [], c, false⟩, 0)
def size (d : Dev) : Int × Int := if bad d then (0, 8) else (d.size, 0)
def read (d : Dev) (at_ n : Int) : List UInt8 × Int :=
  if up d ≠ 0 then ([], up d) else if at_ < 0 ∨ n < 0 ∨ d.size - at_ < n then ([], 2) else ((d.all.drop at_.toNat).take n.toNat, 0)
def append (d : Dev) (b : List UInt8) : Dev × Int :=
  if up d ≠ 0 then (zero, up d) else if d.cap - d.size < b.length then (zero, 18) else (⟨d.s, d.t ++ b, d.cap, d.down⟩, 0)
def sync (d : Dev) : Dev × Int := if up d ≠ 0 then (zero, up d) else (⟨d.s ++ d.t, [], d.cap, d.down⟩, 0)
def truncate (d : Dev) (n : Int) : Dev × Int :=
  if up d ≠ 0 then (zero, up d) else if n < 0 ∨ d.size < n then (zero, 2) else (⟨d.s.take n.toNat, d.t.take (n.toNat - d.s.length), d.cap, d.down⟩, 0)
def drop (d : Dev) (n : Int) : Dev × Int :=
  if up d ≠ 0 then (zero, up d) else if n < 0 ∨ d.s.length < n then (zero, 2) else (⟨d.s.drop n.toNat, d.t, d.cap, d.down⟩, 0)
def crash (d : Dev) (n : Int) : Dev × Int :=
  if up d ≠ 0 then (zero, up d) else if n < 0 ∨ d.t.length < n then (zero, 2) else (⟨d.s ++ d.t.take n.toNat, [], d.cap, true⟩, 0)
def start (d : Dev) : Dev × Int := if bad d then (zero, 8) else if d.down = false then (zero, 36) else (⟨d.s, [], d.cap, false⟩, 0)

structure Op where
  kind : Int
  data : List UInt8
  n : Int
def Op.ok (o : Op) : Prop :=
  (o.kind = 1 ∧ o.n = 0) ∨ ((o.kind = 3 ∨ o.kind = 4 ∨ o.kind = 5) ∧ o.data = []) ∨ ((o.kind = 2 ∨ o.kind = 6) ∧ o.data = [] ∧ o.n = 0)
instance (o : Op) : Decidable o.ok := by unfold Op.ok; infer_instance
def step (d : Dev) (o : Op) : Dev × Int :=
  if ¬ o.ok then (zero, 2) else if o.kind = 1 then append d o.data else if o.kind = 2 then sync d else if o.kind = 3 then truncate d o.n
  else if o.kind = 4 then drop d o.n else if o.kind = 5 then crash d o.n else start d
/-- The operations from the one with number i on. -/
def steps (d : Dev) (i : Int) : List Op → Dev × Int × Int
  | [] => (d, i, 0)
  | o :: r => if (step d o).2 ≠ 0 then (d, i, (step d o).2) else steps (step d o).1 (i + 1) r
def run (d : Dev) (l : List Op) : Dev × Int × Int :=
  if bad d then (zero, 0, 8) else if 200 < l.length then (zero, 0, 4) else steps d 0 l

theorem bad_iff {s t : List UInt8} {cap : Int} {dn : Bool} : bad ⟨s, t, cap, dn⟩ ↔ (cap < 0 ∨ 20000 < cap ∨ cap < (s.length : Int) + t.length ∨ (dn = true ∧ 0 < t.length)) := by
  simp only [bad, Dev.size, Int.natCast_add]
theorem check_bad {d : Dev} (h : bad d) : check d = 8 := if_pos h
theorem check_ok {d : Dev} (h : ¬ bad d) : check d = 0 := if_neg h
theorem up_bad {d : Dev} (h : bad d) : up d = 8 := if_pos h
theorem up_down {d : Dev} (h : ¬ bad d) (hd : d.down = true) : up d = 20 := by unfold up; rw [if_neg h, if_pos hd]
theorem up_ok {d : Dev} (h : ¬ bad d) (hd : d.down = false) : up d = 0 := by unfold up; rw [if_neg h, if_neg (by simp [hd])]
theorem Dev.ext' {s s' t t' : List UInt8} {c c' : Int} {b b' : Bool} (h1 : s = s') (h2 : t = t') (h3 : c = c') (h4 : b = b') : (⟨s, t, c, b⟩ : Dev) = ⟨s', t', c', b'⟩ := by subst h1 h2 h3 h4; rfl
theorem cut_take (s t : List UInt8) (k : Nat) : ((s ++ t).take k).take (min k s.length) = s.take k := by
  rw [List.take_take, Nat.min_eq_left (Nat.min_le_left _ _), List.take_append_of_le_length (Nat.min_le_right _ _), Nat.min_comm, List.take_eq_take_iff]; omega
theorem cut_drop (s t : List UInt8) (k : Nat) : ((s ++ t).take k).drop (min k s.length) = t.take (k - s.length) := by
  rcases Nat.lt_or_ge s.length k with h | h
  · rw [Nat.min_eq_right (by omega), List.drop_take, List.drop_left]
  · rw [Nat.min_eq_left h, List.drop_take, Nat.sub_self, List.take_zero, Nat.sub_eq_zero_of_le h, List.take_zero]
theorem drop_cut (s t : List UInt8) (k : Nat) (h : k ≤ s.length) : ((s ++ t).drop k).take (s.length - k) = s.drop k ∧ ((s ++ t).drop k).drop (s.length - k) = t := by
  rw [List.drop_append_of_le_length h]
  exact ⟨List.take_left' (by simp), List.drop_left' (by simp)⟩
theorem crash_cut (s t : List UInt8) (k : Nat) : ((s ++ t).take (s.length + k)).take (s.length + k) = s ++ t.take k ∧ ((s ++ t).take (s.length + k)).drop (s.length + k) = [] := by
  have h : (s ++ t).take (s.length + k) = s ++ t.take k := by rw [List.take_append, List.take_of_length_le (by omega)]; congr 2; omega
  rw [List.take_take, Nat.min_self, h]
  exact ⟨rfl, List.drop_of_length_le (by simp; omega)⟩
theorem up_zero {d : Dev} (h : up d = 0) : ¬ bad d ∧ d.down = false := by
  unfold up at h; split at h
  · cases h
  · rename_i hb; split at h
    · cases h
    · exact ⟨hb, by simpa using ‹¬ d.down = true›⟩
theorem size_le {d : Dev} (h : ¬ bad d) : 0 ≤ d.cap ∧ d.cap ≤ 20000 ∧ (d.size : Int) ≤ d.cap := by unfold bad at h; omega
end Disk
end Go.Proofs.Ytehagdpcegpbjaa
