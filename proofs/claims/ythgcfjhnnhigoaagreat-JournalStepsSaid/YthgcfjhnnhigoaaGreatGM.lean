/- The texts Slots, SMath, WMath3, Jour, Jour2, one behind the other. Own work. -/
import Derived.Test.YthgcfjhnnhigoaaGreatGA
set_option linter.unusedVariables false
/- Plain mathematics of layer 5: what each function of slots comes to. No program is named. Own work. -/
namespace Go.Proofs.YthgcfjhnnhigoaaGreat
namespace Slots
open Frame (Rec Pre IsScan enc)
open Disk (Dev)

open Classical in
/-- The first record that a scan of bytes finds. -/
noncomputable def first (b : List UInt8) : Option Rec := if h : ∃ r, Pre r b then some h.choose else none
theorem first_pre {r : Rec} {b : List UInt8} (h : Pre r b) : first b = some r := by
  have hx : ∃ r, Pre r b := ⟨r, h⟩
  unfold first
  rw [dif_pos hx, Frame.pre_unique hx.choose_spec h]
theorem first_no {b : List UInt8} (h : ∀ r, ¬ Pre r b) : first b = none := by
  unfold first
  rw [dif_neg (by rintro ⟨r, hr⟩; exact h r hr)]
theorem first_some {b : List UInt8} {r : Rec} (h : first b = some r) : Pre r b := by
  unfold first at h
  split at h
  · rename_i hx; rw [← Option.some.inj h]; exact hx.choose_spec
  · cases h
theorem first_scan {b : List UInt8} {l : List Rec} {u : Nat} (h : IsScan b l u) : first b = l.head? := by
  rcases l with _ | ⟨r, l⟩
  · obtain ⟨_, hu, _, hn⟩ := h
    subst hu
    refine first_no fun r hr => hn r (by simpa [Frame.all] using hr) (fun h => absurd h (by simp))
  · refine first_pre ?_
    have := Frame.pre_at h.1 h.2.2.1 0 (by simp)
    simpa [Frame.all] using this
theorem first_valid {b : List UInt8} {r : Rec} (h : first b = some r) : Frame.Valid r := (first_some h).1

structure Sl where
  a : Dev
  b : Dev
  n : Int
def zero : Sl := ⟨Disk.zero, Disk.zero, 0⟩
def bad1 (d : Dev) : Prop := Disk.up d ≠ 0 ∨ 0 < d.t.length
instance (d : Dev) : Decidable (bad1 d) := by unfold bad1; infer_instance
def bad (s : Sl) : Prop := bad1 s.a ∨ bad1 s.b ∨ s.n < 1 ∨ 1000000001 < s.n
instance (s : Sl) : Decidable (bad s) := by unfold bad; infer_instance
def check (s : Sl) : Int := if bad s then 8 else 0
def Sl.cur (s : Sl) : Dev := if s.n % 2 = 0 then s.a else s.b
def Sl.oth (s : Sl) : Dev := if s.n % 2 = 0 then s.b else s.a
def Sl.put (s : Sl) (d e : Dev) (n : Int) : Sl := if s.n % 2 = 0 then ⟨d, e, n⟩ else ⟨e, d, n⟩
def asked (s : Sl) (b : List UInt8) : Int :=
  if bad s then 8 else if 1000 < b.length then 4 else if 1000000000 < s.n then 2 else if s.cur.cap < 12 + (b.length : Int) then 18 else 0
def wr1 (d : Dev) (k : Int) : Dev := if 1 ≤ k then (Disk.truncate d 0).1 else d
def wr2 (d : Dev) (r : List UInt8) (k : Int) : Dev := if 2 ≤ k then (Disk.append d r).1 else d
def wr3 (d : Dev) (k : Int) : Dev := if 3 ≤ k then (Disk.sync d).1 else d
def wr (d : Dev) (r : List UInt8) (k : Int) : Dev := wr3 (wr2 (wr1 d k) r k) k
def save (s : Sl) (b : List UInt8) : Sl × Int × Int :=
  if asked s b ≠ 0 then (zero, 0, asked s b) else (s.put (wr s.cur (enc ⟨s.n, b⟩) 3) s.oth (s.n + 1), s.n, 0)
def half (s : Sl) (b : List UInt8) (k keep : Int) : Sl × Int :=
  if asked s b ≠ 0 then (zero, asked s b) else if k < 0 ∨ 3 < k then (zero, 2)
  else if (Disk.crash (wr s.cur (enc ⟨s.n, b⟩) k) keep).2 ≠ 0 then (zero, (Disk.crash (wr s.cur (enc ⟨s.n, b⟩) k) keep).2)
  else (s.put (Disk.crash (wr s.cur (enc ⟨s.n, b⟩) k) keep).1 (Disk.crash s.oth 0).1 s.n, 0)
/-- The checkpoint of a device with an index. -/
noncomputable def ck (d : Dev) (i : Int) : Option Rec := match first d.all with | some r => if r.num % 2 = i then some r else none | none => none
def newer : Option Rec → Option Rec → Option Rec
  | none, q => q
  | some r, none => some r
  | some r, some q => if r.num < q.num then some q else some r
noncomputable def newest (s : Sl) : Option Rec := newer (ck s.a 0) (ck s.b 1)
def found : Option Rec → Int × List UInt8 × Int
  | none => (0, [], 6)
  | some r => (r.num, r.data, 0)
noncomputable def load (s : Sl) : Int × List UInt8 × Int := if bad s then (0, [], 8) else found (newest s)
def op (d : Dev) : Dev := ⟨d.s ++ d.t, [], d.cap, false⟩
def nextOf : Option Rec → Int
  | none => 1
  | some r => r.num + 1
noncomputable def opened (s : Sl) : Sl := ⟨op s.a, op s.b, nextOf (newest ⟨op s.a, op s.b, 1⟩)⟩
noncomputable def open_ (s : Sl) : Sl × Int := if Disk.bad s.a ∨ Disk.bad s.b then (zero, 8) else (opened s, 0)
def new (c : Int) : Sl × Int := if c < 0 ∨ 20000 < c then (zero, 2) else (⟨⟨[], [], c, false⟩, ⟨[], [], c, false⟩, 1⟩, 0)

/-! Valid slots. -/
structure Ok (d : Dev) : Prop where
  up : d.down = false
  tail : d.t = []
  cap0 : 0 ≤ d.cap
  cap1 : d.cap ≤ 20000
  fits : (d.s.length : Int) ≤ d.cap
theorem ok_of {d : Dev} (h : ¬ bad1 d) : Ok d := by
  unfold bad1 at h
  have hu : Disk.up d = 0 := Decidable.byContradiction fun k => h (.inl k)
  have ht : d.t = [] := List.eq_nil_of_length_eq_zero (Decidable.byContradiction fun k => h (.inr (by omega)))
  obtain ⟨h1, h2⟩ := Disk.up_zero hu
  have := Disk.size_le h1
  simp only [Disk.Dev.size, ht, List.length_nil] at this
  exact ⟨h2, ht, this.1, this.2.1, by omega⟩
theorem Ok.nb {d : Dev} (h : Ok d) : ¬ Disk.bad d := by
  obtain ⟨h1, h2, h3, h4, h5⟩ := h
  unfold Disk.bad Disk.Dev.size
  rw [h1, h2]
  simp
  omega
theorem Ok.isUp {d : Dev} (h : Ok d) : Disk.up d = 0 := Disk.up_ok h.nb h.up
theorem Ok.nb1 {d : Dev} (h : Ok d) : ¬ bad1 d := by
  unfold bad1
  rw [h.isUp, h.tail]
  simp
theorem Ok.eq {d : Dev} (h : Ok d) : d = ⟨d.s, [], d.cap, false⟩ := by
  obtain ⟨h1, h2, h3, h4, h5⟩ := h
  cases d; simp only at h1 h2; subst h1 h2; rfl
theorem ok_mk {s : List UInt8} {c : Int} (h1 : c ≤ 20000) (h2 : (s.length : Int) ≤ c) : Ok ⟨s, [], c, false⟩ := ⟨rfl, rfl, by simp only; omega, h1, h2⟩
theorem Ok.size {d : Dev} (h : Ok d) : d.s.length ≤ 20000 := by have := h.cap1; have := h.fits; omega

structure Good (s : Sl) : Prop where
  a : Ok s.a
  b : Ok s.b
  lo : 1 ≤ s.n
  hi : s.n ≤ 1000000001
theorem good_of {s : Sl} (h : ¬ bad s) : Good s := by
  unfold bad at h
  exact ⟨ok_of fun k => h (.inl k), ok_of fun k => h (.inr (.inl k)), by omega, by omega⟩
theorem Good.nb {s : Sl} (h : Good s) : ¬ bad s := by
  have h1 := h.a.nb1
  have h2 := h.b.nb1
  have := h.lo
  have := h.hi
  unfold bad
  rintro (k | k | k | k)
  · exact h1 k
  · exact h2 k
  · omega
  · omega
theorem check_bad {s : Sl} (h : bad s) : check s = 8 := if_pos h
theorem check_ok {s : Sl} (h : ¬ bad s) : check s = 0 := if_neg h
theorem asked_good {s : Sl} {b : List UInt8} (h : asked s b = 0) : Good s ∧ b.length ≤ 1000 ∧ s.n ≤ 1000000000 ∧ 12 + (b.length : Int) ≤ s.cur.cap := by
  unfold asked at h
  split at h; · cases h
  rename_i h1
  split at h; · cases h
  split at h; · cases h
  split at h; · cases h
  exact ⟨good_of h1, by omega, by omega, by omega⟩
theorem Good.cur {s : Sl} (h : Good s) : Ok s.cur := by unfold Sl.cur; split; exact h.a; exact h.b
theorem Good.oth {s : Sl} (h : Good s) : Ok s.oth := by unfold Sl.oth; split; exact h.b; exact h.a

theorem asked_bad {s : Sl} {b : List UInt8} (h : bad s) : asked s b = 8 := if_pos h
theorem asked_many {s : Sl} {b : List UInt8} (h : ¬ bad s) (h2 : 1000 < b.length) : asked s b = 4 := (if_neg h).trans (if_pos h2)
theorem asked_arg {s : Sl} {b : List UInt8} (h : ¬ bad s) (h2 : ¬ 1000 < b.length) (h3 : 1000000000 < s.n) : asked s b = 2 := (if_neg h).trans ((if_neg h2).trans (if_pos h3))
theorem asked_full {s : Sl} {b : List UInt8} (h : ¬ bad s) (h2 : ¬ 1000 < b.length) (h3 : ¬ 1000000000 < s.n) (h4 : s.cur.cap < 12 + (b.length : Int)) : asked s b = 18 :=
  (if_neg h).trans ((if_neg h2).trans ((if_neg h3).trans (if_pos h4)))
theorem asked_ok {s : Sl} {b : List UInt8} (h : ¬ bad s) (h2 : ¬ 1000 < b.length) (h3 : ¬ 1000000000 < s.n) (h4 : ¬ s.cur.cap < 12 + (b.length : Int)) : asked s b = 0 :=
  (if_neg h).trans ((if_neg h2).trans ((if_neg h3).trans (if_neg h4)))

/-! Lengths. -/
def Small (d : Dev) : Prop := d.s.length ≤ 1000000 ∧ d.t.length ≤ 1000000
theorem small_zero : Small Disk.zero := ⟨Nat.zero_le _, Nat.zero_le _⟩
theorem small_trunc {d : Dev} (n : Int) (h : Small d) : Small (Disk.truncate d n).1 := by
  unfold Disk.truncate
  split; · exact small_zero
  split; · exact small_zero
  exact ⟨by simp only [List.length_take]; have := h.1; omega, by simp only [List.length_take]; have := h.2; omega⟩
theorem small_app {d : Dev} (b : List UInt8) (h : Small d) : Small (Disk.append d b).1 := by
  unfold Disk.append
  split; · exact small_zero
  rename_i hu
  have hu : Disk.up d = 0 := Decidable.byContradiction fun k => hu k
  have := Disk.size_le (Disk.up_zero hu).1
  split; · exact small_zero
  simp only [Disk.Dev.size] at *
  exact ⟨by simp only; omega, by simp only [List.length_append]; omega⟩
theorem small_sync {d : Dev} (h : Small d) : Small (Disk.sync d).1 := by
  unfold Disk.sync
  split; · exact small_zero
  rename_i hu
  have hu : Disk.up d = 0 := Decidable.byContradiction fun k => hu k
  have := Disk.size_le (Disk.up_zero hu).1
  simp only [Disk.Dev.size] at *
  exact ⟨by simp only [List.length_append]; omega, Nat.zero_le _⟩
theorem small_wr {d : Dev} (r : List UInt8) (k : Int) (h : Small d) : Small (wr d r k) := by
  have h1 : Small (wr1 d k) := by unfold wr1; split; exact small_trunc _ h; exact h
  have h2 : Small (wr2 (wr1 d k) r k) := by unfold wr2; split; exact small_app _ h1; exact h1
  unfold wr wr3
  split
  · exact small_sync h2
  · exact h2
theorem wr_0 {d : Dev} {r : List UInt8} {k : Int} (h : k < 1) : wr d r k = d := by
  unfold wr wr1 wr2 wr3
  rw [if_neg (by omega), if_neg (by omega), if_neg (by omega)]
theorem wr_1 {d : Dev} {r : List UInt8} {k : Int} (h : 1 ≤ k) (h2 : k < 2) : wr d r k = (Disk.truncate d 0).1 := by
  unfold wr wr1 wr2 wr3
  rw [if_neg (by omega), if_neg (by omega), if_pos h]
theorem wr_2 {d : Dev} {r : List UInt8} {k : Int} (h : 2 ≤ k) (h2 : k < 3) : wr d r k = (Disk.append (Disk.truncate d 0).1 r).1 := by
  unfold wr wr1 wr2 wr3
  rw [if_neg (by omega), if_pos h, if_pos (by omega)]
theorem wr_3 {d : Dev} {r : List UInt8} {k : Int} (h : 3 ≤ k) : wr d r k = (Disk.sync (Disk.append (Disk.truncate d 0).1 r).1).1 := by
  unfold wr wr1 wr2 wr3
  rw [if_pos h, if_pos (by omega), if_pos (by omega)]

/-! The steps of saving. -/
theorem sync_ok {d : Dev} (h : Ok d) : Disk.sync d = (d, 0) := by
  unfold Disk.sync
  rw [if_neg (by simp [h.isUp])]
  refine Prod.ext ?_ rfl
  conv => rhs; rw [h.eq]
  simp only [h.tail, h.up, List.append_nil]
/-! Opening. -/
theorem op_up {s t : List UInt8} {cap : Int} (h : ¬ Disk.bad ⟨s, t, cap, false⟩) : Disk.sync ⟨s, t, cap, false⟩ = (op ⟨s, t, cap, false⟩, 0) := by
  unfold Disk.sync op
  rw [if_neg (by rw [Disk.up_ok h rfl]; simp)]
theorem op_start {s t : List UInt8} {cap : Int} (h : ¬ Disk.bad ⟨s, t, cap, true⟩) : Disk.start ⟨s, t, cap, true⟩ = (⟨s, [], cap, false⟩, 0) := by
  unfold Disk.start
  rw [if_neg h, if_neg (by simp)]
theorem down_tail {s t : List UInt8} {cap : Int} (h : ¬ Disk.bad ⟨s, t, cap, true⟩) : t = [] := by
  rw [Disk.bad_iff] at h
  exact List.eq_nil_of_length_eq_zero (Decidable.byContradiction fun k => h (.inr (.inr (.inr ⟨rfl, by omega⟩))))
theorem op_down {s t : List UInt8} {cap : Int} (h : ¬ Disk.bad ⟨s, t, cap, true⟩) : Disk.sync ⟨s, [], cap, false⟩ = (op ⟨s, t, cap, true⟩, 0) := by
  obtain rfl := down_tail h
  have h' : ¬ Disk.bad ⟨s, [], cap, false⟩ := by
    rw [Disk.bad_iff] at h ⊢
    intro k
    apply h
    rcases k with k | k | k | k
    · exact .inl k
    · exact .inr (.inl k)
    · exact .inr (.inr (.inl k))
    · exact absurd k.1 (by simp)
  rw [op_up h']
  rfl
theorem op_ok {d : Dev} (h : ¬ Disk.bad d) : Ok (op d) := by
  have := Disk.size_le h
  simp only [Disk.Dev.size] at this
  exact ok_mk (by omega) (by simp; omega)
theorem small_op {d : Dev} (h : ¬ Disk.bad d) : Small (op d) := by
  have := (op_ok h).size
  exact ⟨by omega, Nat.zero_le _⟩
end Slots
end Go.Proofs.YthgcfjhnnhigoaaGreat

/- Mathematics of layer 5: what survives. No program is named. Own work. -/
namespace Go.Proofs.YthgcfjhnnhigoaaGreat
namespace Slots
open Frame (Rec Pre IsScan enc)
open Disk (Dev)

theorem ck_some {d : Dev} {i : Int} {r : Rec} (h : ck d i = some r) : first d.all = some r ∧ r.num % 2 = i ∧ Frame.Valid r := by
  unfold ck at h
  split at h
  · rename_i q hq
    split at h
    · cases h; exact ⟨hq, by assumption, first_valid hq⟩
    · cases h
  · cases h
theorem newest_valid {s : Sl} {r : Rec} (h : newest s = some r) : Frame.Valid r := by
  unfold newest at h
  rcases h1 : ck s.a 0 with _ | p <;> rcases h2 : ck s.b 1 with _ | q <;> rw [h1, h2] at h <;> simp only [newer] at h
  · cases h
  · cases h; exact (ck_some h2).2.2
  · cases h; exact (ck_some h1).2.2
  · split at h
    · cases h; exact (ck_some h2).2.2
    · cases h; exact (ck_some h1).2.2
theorem next_lo {s : Sl} : 1 ≤ nextOf (newest s) ∧ nextOf (newest s) ≤ 1000000001 := by
  rcases h : newest s with _ | r
  · exact ⟨by decide, by decide⟩
  · have := newest_valid h
    have h1 := this.1
    have h2 := this.2.1
    unfold nextOf
    simp only
    omega
theorem Good.num {s : Sl} (h : Good s) {n : Int} (h1 : 1 ≤ n) (h2 : n ≤ 1000000001) : Good ⟨s.a, s.b, n⟩ := ⟨h.a, h.b, h1, h2⟩
/-- Opened slots. -/
def Op (o : Sl) : Prop := Good o ∧ o.n = nextOf (newest o)

/-! Halves. -/
/-- What a crash after some steps leaves on the slot of Next. -/
def left (o : Sl) (b : List UInt8) (k keep : Int) (xs : List UInt8) : Prop :=
  (k = 0 ∧ xs = o.cur.s) ∨ (k = 1 ∧ xs = []) ∨ (k = 2 ∧ 0 ≤ keep ∧ keep ≤ 12 + (b.length : Int) ∧ xs = (enc ⟨o.n, b⟩).take keep.toNat) ∨ (k = 3 ∧ xs = enc ⟨o.n, b⟩)
end Slots
end Go.Proofs.YthgcfjhnnhigoaaGreat

/- Opening: plain mathematics. Own work. -/
namespace Go.Proofs.YthgcfjhnnhigoaaGreat
namespace Wal
open Frame
end Wal
end Go.Proofs.YthgcfjhnnhigoaaGreat

/- Plain mathematics of layer 6: states, operations, their bytes, bases. No program is named. Own work. -/
namespace Go.Proofs.YthgcfjhnnhigoaaGreat
namespace Jour
open Frame (Rec)

structure Move where
  cell : Int
  add : Int
def Valid (m : Move) : Prop := 0 ≤ m.cell ∧ m.cell < 8 ∧ -1000000 ≤ m.add ∧ m.add ≤ 1000000
instance (m : Move) : Decidable (Valid m) := by unfold Valid; infer_instance
def State (c : List Int) : Prop := ∀ x ∈ c, -1000000000 ≤ x ∧ x ≤ 1000000000
instance (c : List Int) : Decidable (State c) := by unfold State; infer_instance
def zeros : List Int := [0, 0, 0, 0, 0, 0, 0, 0]
def bump (c : List Int) (m : Move) : List Int := c.set m.cell.toNat (c.getD m.cell.toNat 0 + m.add)
def go (c : List Int) : List Move → List Int × Int
  | [] => (c, 0)
  | m :: l => if ¬ Valid m then (zeros, 2) else if ¬ State (bump c m) then (zeros, 16) else go (bump c m) l
def apply (c : List Int) (l : List Move) : List Int × Int := if ¬ State c then (zeros, 8) else go c l

theorem bump_length (c : List Int) (m : Move) : (bump c m).length = c.length := by simp [bump]
theorem ext_getD {c d : List Int} (hl : c.length = d.length) (h : ∀ i, i < c.length → c.getD i 0 = d.getD i 0) : c = d := by
  apply List.ext_getElem hl
  intro i h1 h2
  have := h i h1
  simpa [List.getD_eq_getElem?_getD, h1, h2] using this
theorem go_valid {c : List Int} : ∀ {l : List Move}, (go c l).2 = 0 → ∀ m ∈ l, Valid m := by
  intro l
  induction l generalizing c with
  | nil => intro _ m hm; cases hm
  | cons x l ih =>
    intro h m hm
    unfold go at h
    split at h
    · cases h
    · split at h
      · cases h
      · rcases List.mem_cons.1 hm with rfl | hm
        · rename_i h1 _; simpa using h1
        · exact ih h m hm
/-! Numbers as eight bytes. -/
def bytesN : Nat → Nat → List UInt8
  | 0, _ => []
  | k + 1, x => UInt8.ofNat (x % 256) :: bytesN k (x / 256)
def valN : List UInt8 → Nat
  | [] => 0
  | b :: l => b.toNat + 256 * valN l
/-- The number of 64 bits. -/
def low (n : Int) : Nat := (n % 18446744073709551616).toNat
def high (x : Nat) : Int := if x < 9223372036854775808 then (x : Int) else (x : Int) - 18446744073709551616
def eight (n : Int) : List UInt8 := bytesN 8 (low n)
def read (b : List UInt8) : Int := high (valN (b.take 8))
theorem bytesN_length (k x : Nat) : (bytesN k x).length = k := by
  induction k generalizing x with
  | zero => rfl
  | succ k ih => simp [bytesN, ih]
theorem eight_length (n : Int) : (eight n).length = 8 := bytesN_length 8 _
/-! The bytes of operations and of checkpoints. -/
def written (m : Move) : List UInt8 := UInt8.ofNat m.cell.toNat :: eight m.add
def moved (b : List UInt8) : Option Move :=
  if b.length = 9 ∧ Valid ⟨((b.getD 0 0).toNat : Int), read (b.drop 1)⟩ then some ⟨((b.getD 0 0).toNat : Int), read (b.drop 1)⟩ else none
theorem written_length (m : Move) : (written m).length = 9 := by simp [written, eight_length]
def point (n : Int) (c : List Int) : List UInt8 := eight n ++ (c.map eight).flatten
def cellsAt (b : List UInt8) : List Int := (List.range 8).map fun i => read (b.drop (8 * (i + 1)))
def unpoint (b : List UInt8) : Option (Int × List Int) :=
  if b.length = 72 ∧ 0 ≤ read b ∧ read b ≤ 1000000000 ∧ State (cellsAt b) then some (read b, cellsAt b) else none
theorem flat_length (c : List Int) : ((c.map eight).flatten).length = 8 * c.length := by
  induction c with
  | nil => rfl
  | cons x c ih => simp only [List.map_cons, List.flatten_cons, List.length_append, eight_length, List.length_cons, ih]; omega
/-! Bases, and what records make of them. -/
noncomputable def base (s : Slots.Sl) : Option (Int × List Int) :=
  match Slots.newest s with
  | none => some (0, zeros)
  | some r => unpoint r.data
def replay (c : List Int) (frm : Int) : List Rec → Option (List Int)
  | [] => some c
  | r :: l => if r.num < frm then replay c frm l else
    match moved r.data with
    | none => none
    | some m => if State (bump c m) then replay (bump c m) frm l else none
theorem replay_append (c : List Int) (frm : Int) (l m : List Rec) : replay c frm (l ++ m) = (replay c frm l).bind fun d => replay d frm m := by
  induction l generalizing c with
  | nil => rfl
  | cons r l ih =>
    simp only [List.cons_append, replay]
    split
    · exact ih c
    · rcases moved r.data with _ | x
      · rfl
      · simp only
        split
        · exact ih _
        · rfl
theorem replay_old {c : List Int} {frm : Int} {l : List Rec} (h : ∀ r ∈ l, r.num < frm) : replay c frm l = some c := by
  induction l with
  | nil => rfl
  | cons r l ih =>
    simp only [replay]
    rw [if_pos (h r (by simp))]
    exact ih fun r hr => h r (by simp [hr])
theorem replay_state {c d : List Int} {frm : Int} {l : List Rec} (hc : State c) (h : replay c frm l = some d) : State d ∧ d.length = c.length := by
  induction l generalizing c with
  | nil => cases h; exact ⟨hc, rfl⟩
  | cons r l ih =>
    simp only [replay] at h
    split at h
    · exact ih hc h
    · rcases hm : moved r.data with _ | x <;> rw [hm] at h <;> simp only at h
      · cases h
      · split at h
        · have := ih (by assumption) h
          exact ⟨this.1, this.2.trans (bump_length _ _)⟩
        · cases h
end Jour
end Go.Proofs.YthgcfjhnnhigoaaGreat

/- Plain mathematics of layer 6: journals. No program is named. Own work. -/
namespace Go.Proofs.YthgcfjhnnhigoaaGreat
namespace Jour
open Frame (Rec Foll IsScan enc)

structure J where
  slots : Slots.Sl
  log : Wal.Log
  cells : List Int
/-- A valid journal, its records and its base. -/
structure Good (j : J) (rs : List Rec) (n : Int) (c : List Int) : Prop where
  op : Slots.Op j.slots
  log : Wal.Good j.log rs
  base : base j.slots = some (n, c)
  lo : j.log.first ≤ n
  hi : n ≤ j.log.next
  rep : replay c n rs = some j.cells

theorem zeros_state : State zeros := by decide
theorem base_state {s : Slots.Sl} {n : Int} {c : List Int} (h : base s = some (n, c)) : 0 ≤ n ∧ n ≤ 1000000000 ∧ State c ∧ c.length = 8 := by
  unfold base at h
  split at h
  · cases h; exact ⟨by decide, by decide, zeros_state, rfl⟩
  · unfold unpoint at h
    split at h
    · rename_i k
      cases h
      exact ⟨k.2.1, k.2.2.1, k.2.2.2, by simp [cellsAt]⟩
    · cases h
theorem Good.state {j : J} {rs : List Rec} {n : Int} {c : List Int} (h : Good j rs n c) : State j.cells ∧ j.cells.length = 8 := by
  obtain ⟨_, _, h3, h4⟩ := base_state h.base
  obtain ⟨h5, h6⟩ := replay_state h3 h.rep
  exact ⟨h5, h6.trans h4⟩
theorem Good.unique {j : J} {rs rs' : List Rec} {n n' : Int} {c c' : List Int} (h : Good j rs n c) (k : Good j rs' n' c') : rs = rs' ∧ n = n' ∧ c = c' := by
  refine ⟨h.log.unique k.log, ?_⟩
  have := h.base.symm.trans k.base
  cases this
  exact ⟨rfl, rfl⟩

end Jour
end Go.Proofs.YthgcfjhnnhigoaaGreat
