/- The texts Slots, SMath, WMath3, Jour, Jour2, one behind the other. Own work. -/
import Derived.Test.YthgcfjhnnhigoaaGreatGA
set_option linter.unusedVariables false
/- Plain mathematics of layer 5: what each function of slots comes to. No program is named. Own work. -/
namespace Go.Proofs.YthgcfjhnnhigoaaGreat
namespace Slots
open Frame (Rec Pre IsScan enc)
open Disk (Dev)

open Classical in
/-- The first record that a scan of bytes finds. -/
noncomputable def first (b : List UInt8) : Option Rec := if h : ∃ r, Pre r b then some h.choose else none
theorem first_pre {r : Rec} {b : List UInt8} (h : Pre r b) : first b = some r := by
  have hx : ∃ r, Pre r b := ⟨r, h⟩
  unfold first
  rw [dif_pos hx, Frame.pre_unique hx.choose_spec h]
theorem first_no {b : List UInt8} (h : ∀ r, ¬ Pre r b) : first b = none := by
  unfold first
  rw [dif_neg (by rintro ⟨r, hr⟩; exact h r hr)]
theorem first_some {b : List UInt8} {r : Rec} (h : first b = some r) : Pre r b := by
  unfold first at h
  split at h
  · rename_i hx; rw [← Option.some.inj h]; exact hx.choose_spec
  · cases h
theorem first_scan {b : List UInt8} {l : List Rec} {u : Nat} (h : IsScan b l u) : first b = l.head? := by
  rcases l with _ | ⟨r, l⟩
  · obtain ⟨_, hu, _, hn⟩ := h
    subst hu
    refine first_no fun r hr => hn r (by simpa [Frame.all] using hr) (fun h => absurd h (by simp))
  · refine first_pre ?_
    have := Frame.pre_at h.1 h.2.2.1 0 (by simp)
    simpa [Frame.all] using this
theorem first_enc {r : Rec} (v : Frame.Valid r) (t : List UInt8) : first (enc r ++ t) = some r := first_pre ⟨v, List.prefix_append _ _⟩
theorem first_torn {r : Rec} (v : Frame.Valid r) (k : Nat) (hk : k < (enc r).length) : first ((enc r).take k) = none := by
  refine first_no fun q hq => ?_
  have h1 : Pre q (enc r) := Frame.pre_mono hq (List.take_prefix _ _)
  obtain rfl : q = r := Frame.pre_unique h1 ⟨v, List.prefix_rfl⟩
  have := hq.2.length_le
  rw [List.length_take] at this
  omega
theorem first_nil : first [] = none := first_no fun r hr => by have := (Frame.pre_facts hr).1; simp at this
theorem first_valid {b : List UInt8} {r : Rec} (h : first b = some r) : Frame.Valid r := (first_some h).1

structure Sl where
  a : Dev
  b : Dev
  n : Int
def zero : Sl := ⟨Disk.zero, Disk.zero, 0⟩
def bad1 (d : Dev) : Prop := Disk.up d ≠ 0 ∨ 0 < d.t.length
instance (d : Dev) : Decidable (bad1 d) := by unfold bad1; infer_instance
def bad (s : Sl) : Prop := bad1 s.a ∨ bad1 s.b ∨ s.n < 1 ∨ 1000000001 < s.n
instance (s : Sl) : Decidable (bad s) := by unfold bad; infer_instance
def check (s : Sl) : Int := if bad s then 8 else 0
def Sl.cur (s : Sl) : Dev := if s.n % 2 = 0 then s.a else s.b
def Sl.oth (s : Sl) : Dev := if s.n % 2 = 0 then s.b else s.a
def Sl.put (s : Sl) (d e : Dev) (n : Int) : Sl := if s.n % 2 = 0 then ⟨d, e, n⟩ else ⟨e, d, n⟩
def asked (s : Sl) (b : List UInt8) : Int :=
  if bad s then 8 else if 1000 < b.length then 4 else if 1000000000 < s.n then 2 else if s.cur.cap < 12 + (b.length : Int) then 18 else 0
def wr1 (d : Dev) (k : Int) : Dev := if 1 ≤ k then (Disk.truncate d 0).1 else d
def wr2 (d : Dev) (r : List UInt8) (k : Int) : Dev := if 2 ≤ k then (Disk.append d r).1 else d
def wr3 (d : Dev) (k : Int) : Dev := if 3 ≤ k then (Disk.sync d).1 else d
def wr (d : Dev) (r : List UInt8) (k : Int) : Dev := wr3 (wr2 (wr1 d k) r k) k
def save (s : Sl) (b : List UInt8) : Sl × Int × Int :=
  if asked s b ≠ 0 then (zero, 0, asked s b) else (s.put (wr s.cur (enc ⟨s.n, b⟩) 3) s.oth (s.n + 1), s.n, 0)
def half (s : Sl) (b : List UInt8) (k keep : Int) : Sl × Int :=
  if asked s b ≠ 0 then (zero, asked s b) else if k < 0 ∨ 3 < k then (zero, 2)
  else if (Disk.crash (wr s.cur (enc ⟨s.n, b⟩) k) keep).2 ≠ 0 then (zero, (Disk.crash (wr s.cur (enc ⟨s.n, b⟩) k) keep).2)
  else (s.put (Disk.crash (wr s.cur (enc ⟨s.n, b⟩) k) keep).1 (Disk.crash s.oth 0).1 s.n, 0)
/-- The checkpoint of a device with an index. -/
noncomputable def ck (d : Dev) (i : Int) : Option Rec := match first d.all with | some r => if r.num % 2 = i then some r else none | none => none
def newer : Option Rec → Option Rec → Option Rec
  | none, q => q
  | some r, none => some r
  | some r, some q => if r.num < q.num then some q else some r
noncomputable def newest (s : Sl) : Option Rec := newer (ck s.a 0) (ck s.b 1)
def found : Option Rec → Int × List UInt8 × Int
  | none => (0, [], 6)
  | some r => (r.num, r.data, 0)
noncomputable def load (s : Sl) : Int × List UInt8 × Int := if bad s then (0, [], 8) else found (newest s)
def op (d : Dev) : Dev := ⟨d.s ++ d.t, [], d.cap, false⟩
def nextOf : Option Rec → Int
  | none => 1
  | some r => r.num + 1
noncomputable def opened (s : Sl) : Sl := ⟨op s.a, op s.b, nextOf (newest ⟨op s.a, op s.b, 1⟩)⟩
noncomputable def open_ (s : Sl) : Sl × Int := if Disk.bad s.a ∨ Disk.bad s.b then (zero, 8) else (opened s, 0)
def new (c : Int) : Sl × Int := if c < 0 ∨ 20000 < c then (zero, 2) else (⟨⟨[], [], c, false⟩, ⟨[], [], c, false⟩, 1⟩, 0)

/-! Valid slots. -/
structure Ok (d : Dev) : Prop where
  up : d.down = false
  tail : d.t = []
  cap0 : 0 ≤ d.cap
  cap1 : d.cap ≤ 20000
  fits : (d.s.length : Int) ≤ d.cap
theorem ok_of {d : Dev} (h : ¬ bad1 d) : Ok d := by
  unfold bad1 at h
  have hu : Disk.up d = 0 := Decidable.byContradiction fun k => h (.inl k)
  have ht : d.t = [] := List.eq_nil_of_length_eq_zero (Decidable.byContradiction fun k => h (.inr (by omega)))
  obtain ⟨h1, h2⟩ := Disk.up_zero hu
  have := Disk.size_le h1
  simp only [Disk.Dev.size, ht, List.length_nil] at this
  exact ⟨h2, ht, this.1, this.2.1, by omega⟩
theorem Ok.nb {d : Dev} (h : Ok d) : ¬ Disk.bad d := by
  obtain ⟨h1, h2, h3, h4, h5⟩ := h
  unfold Disk.bad Disk.Dev.size
  rw [h1, h2]
  simp
  omega
theorem Ok.isUp {d : Dev} (h : Ok d) : Disk.up d = 0 := Disk.up_ok h.nb h.up
theorem Ok.nb1 {d : Dev} (h : Ok d) : ¬ bad1 d := by
  unfold bad1
  rw [h.isUp, h.tail]
  simp
theorem Ok.eq {d : Dev} (h : Ok d) : d = ⟨d.s, [], d.cap, false⟩ := by
  obtain ⟨h1, h2, h3, h4, h5⟩ := h
  cases d; simp only at h1 h2; subst h1 h2; rfl
theorem ok_mk {s : List UInt8} {c : Int} (h1 : c ≤ 20000) (h2 : (s.length : Int) ≤ c) : Ok ⟨s, [], c, false⟩ := ⟨rfl, rfl, by simp only; omega, h1, h2⟩
theorem Ok.size {d : Dev} (h : Ok d) : d.s.length ≤ 20000 := by have := h.cap1; have := h.fits; omega

structure Good (s : Sl) : Prop where
  a : Ok s.a
  b : Ok s.b
  lo : 1 ≤ s.n
  hi : s.n ≤ 1000000001
theorem good_of {s : Sl} (h : ¬ bad s) : Good s := by
  unfold bad at h
  exact ⟨ok_of fun k => h (.inl k), ok_of fun k => h (.inr (.inl k)), by omega, by omega⟩
theorem Good.nb {s : Sl} (h : Good s) : ¬ bad s := by
  have h1 := h.a.nb1
  have h2 := h.b.nb1
  have := h.lo
  have := h.hi
  unfold bad
  rintro (k | k | k | k)
  · exact h1 k
  · exact h2 k
  · omega
  · omega
theorem check_bad {s : Sl} (h : bad s) : check s = 8 := if_pos h
theorem check_ok {s : Sl} (h : ¬ bad s) : check s = 0 := if_neg h
theorem asked_good {s : Sl} {b : List UInt8} (h : asked s b = 0) : Good s ∧ b.length ≤ 1000 ∧ s.n ≤ 1000000000 ∧ 12 + (b.length : Int) ≤ s.cur.cap := by
  unfold asked at h
  split at h; · cases h
  rename_i h1
  split at h; · cases h
  split at h; · cases h
  split at h; · cases h
  exact ⟨good_of h1, by omega, by omega, by omega⟩
theorem Good.cur {s : Sl} (h : Good s) : Ok s.cur := by unfold Sl.cur; split; exact h.a; exact h.b
theorem Good.oth {s : Sl} (h : Good s) : Ok s.oth := by unfold Sl.oth; split; exact h.b; exact h.a

theorem asked_bad {s : Sl} {b : List UInt8} (h : bad s) : asked s b = 8 := if_pos h
theorem asked_many {s : Sl} {b : List UInt8} (h : ¬ bad s) (h2 : 1000 < b.length) : asked s b = 4 := (if_neg h).trans (if_pos h2)
theorem asked_arg {s : Sl} {b : List UInt8} (h : ¬ bad s) (h2 : ¬ 1000 < b.length) (h3 : 1000000000 < s.n) : asked s b = 2 := (if_neg h).trans ((if_neg h2).trans (if_pos h3))
theorem asked_full {s : Sl} {b : List UInt8} (h : ¬ bad s) (h2 : ¬ 1000 < b.length) (h3 : ¬ 1000000000 < s.n) (h4 : s.cur.cap < 12 + (b.length : Int)) : asked s b = 18 :=
  (if_neg h).trans ((if_neg h2).trans ((if_neg h3).trans (if_pos h4)))
theorem asked_ok {s : Sl} {b : List UInt8} (h : ¬ bad s) (h2 : ¬ 1000 < b.length) (h3 : ¬ 1000000000 < s.n) (h4 : ¬ s.cur.cap < 12 + (b.length : Int)) : asked s b = 0 :=
  (if_neg h).trans ((if_neg h2).trans ((if_neg h3).trans (if_neg h4)))

/-! Lengths. -/
def Small (d : Dev) : Prop := d.s.length ≤ 1000000 ∧ d.t.length ≤ 1000000
theorem small_zero : Small Disk.zero := ⟨Nat.zero_le _, Nat.zero_le _⟩
theorem small_trunc {d : Dev} (n : Int) (h : Small d) : Small (Disk.truncate d n).1 := by
  unfold Disk.truncate
  split; · exact small_zero
  split; · exact small_zero
  exact ⟨by simp only [List.length_take]; have := h.1; omega, by simp only [List.length_take]; have := h.2; omega⟩
theorem small_app {d : Dev} (b : List UInt8) (h : Small d) : Small (Disk.append d b).1 := by
  unfold Disk.append
  split; · exact small_zero
  rename_i hu
  have hu : Disk.up d = 0 := Decidable.byContradiction fun k => hu k
  have := Disk.size_le (Disk.up_zero hu).1
  split; · exact small_zero
  simp only [Disk.Dev.size] at *
  exact ⟨by simp only; omega, by simp only [List.length_append]; omega⟩
theorem small_sync {d : Dev} (h : Small d) : Small (Disk.sync d).1 := by
  unfold Disk.sync
  split; · exact small_zero
  rename_i hu
  have hu : Disk.up d = 0 := Decidable.byContradiction fun k => hu k
  have := Disk.size_le (Disk.up_zero hu).1
  simp only [Disk.Dev.size] at *
  exact ⟨by simp only [List.length_append]; omega, Nat.zero_le _⟩
theorem small_crash {d : Dev} (n : Int) (h : Small d) : Small (Disk.crash d n).1 := by
  unfold Disk.crash
  split; · exact small_zero
  rename_i hu
  have hu : Disk.up d = 0 := Decidable.byContradiction fun k => hu k
  have := Disk.size_le (Disk.up_zero hu).1
  split; · exact small_zero
  simp only [Disk.Dev.size] at *
  exact ⟨by simp only [List.length_append, List.length_take]; omega, Nat.zero_le _⟩
theorem small_wr {d : Dev} (r : List UInt8) (k : Int) (h : Small d) : Small (wr d r k) := by
  have h1 : Small (wr1 d k) := by unfold wr1; split; exact small_trunc _ h; exact h
  have h2 : Small (wr2 (wr1 d k) r k) := by unfold wr2; split; exact small_app _ h1; exact h1
  unfold wr wr3
  split
  · exact small_sync h2
  · exact h2
theorem wr_0 {d : Dev} {r : List UInt8} {k : Int} (h : k < 1) : wr d r k = d := by
  unfold wr wr1 wr2 wr3
  rw [if_neg (by omega), if_neg (by omega), if_neg (by omega)]
theorem wr_1 {d : Dev} {r : List UInt8} {k : Int} (h : 1 ≤ k) (h2 : k < 2) : wr d r k = (Disk.truncate d 0).1 := by
  unfold wr wr1 wr2 wr3
  rw [if_neg (by omega), if_neg (by omega), if_pos h]
theorem wr_2 {d : Dev} {r : List UInt8} {k : Int} (h : 2 ≤ k) (h2 : k < 3) : wr d r k = (Disk.append (Disk.truncate d 0).1 r).1 := by
  unfold wr wr1 wr2 wr3
  rw [if_neg (by omega), if_pos h, if_pos (by omega)]
theorem wr_3 {d : Dev} {r : List UInt8} {k : Int} (h : 3 ≤ k) : wr d r k = (Disk.sync (Disk.append (Disk.truncate d 0).1 r).1).1 := by
  unfold wr wr1 wr2 wr3
  rw [if_pos h, if_pos (by omega), if_pos (by omega)]

/-! The steps of saving. -/
theorem trunc_ok {d : Dev} (h : Ok d) : Disk.truncate d 0 = (⟨[], [], d.cap, false⟩, 0) := by
  unfold Disk.truncate
  rw [if_neg (by simp [h.isUp]), if_neg (by omega), h.tail, h.up]
  simp
theorem app_ok {c : Int} {r : List UInt8} (h1 : c ≤ 20000) (h2 : (r.length : Int) ≤ c) : Disk.append ⟨[], [], c, false⟩ r = (⟨[], r, c, false⟩, 0) := by
  unfold Disk.append
  rw [if_neg (by simp [(ok_mk (s := []) h1 (by simp; omega)).isUp]), if_neg (by simp [Disk.Dev.size]; omega)]
  simp
theorem upTail {r : List UInt8} {c : Int} (h1 : c ≤ 20000) (h2 : (r.length : Int) ≤ c) : Disk.up ⟨[], r, c, false⟩ = 0 := by
  refine Disk.up_ok ?_ rfl
  rw [Disk.bad_iff]; simp; omega
theorem sync_tail {c : Int} {r : List UInt8} (h1 : c ≤ 20000) (h2 : (r.length : Int) ≤ c) : Disk.sync ⟨[], r, c, false⟩ = (⟨r, [], c, false⟩, 0) := by
  unfold Disk.sync
  rw [if_neg (by simp [upTail h1 h2])]
  simp
theorem sync_ok {d : Dev} (h : Ok d) : Disk.sync d = (d, 0) := by
  unfold Disk.sync
  rw [if_neg (by simp [h.isUp])]
  refine Prod.ext ?_ rfl
  conv => rhs; rw [h.eq]
  simp only [h.tail, h.up, List.append_nil]
theorem crash_ok {d : Dev} (h : Ok d) : Disk.crash d 0 = (⟨d.s, [], d.cap, true⟩, 0) := by
  unfold Disk.crash
  rw [if_neg (by simp [h.isUp]), if_neg (by rw [h.tail]; simp), h.tail]
  simp
theorem crash_ok' {d : Dev} (h : Ok d) {k : Int} (hk : k ≠ 0) : Disk.crash d k = (Disk.zero, 2) := by
  unfold Disk.crash
  rw [if_neg (by simp [h.isUp]), if_pos (by rw [h.tail]; simp; omega)]
theorem crash_tail {c : Int} {r : List UInt8} (h1 : c ≤ 20000) (h2 : (r.length : Int) ≤ c) (k : Int) :
    Disk.crash ⟨[], r, c, false⟩ k = if k < 0 ∨ (r.length : Int) < k then (Disk.zero, 2) else (⟨r.take k.toNat, [], c, true⟩, 0) := by
  unfold Disk.crash
  rw [if_neg (by simp [upTail h1 h2])]
  simp

/-! Opening. -/
theorem op_up {s t : List UInt8} {cap : Int} (h : ¬ Disk.bad ⟨s, t, cap, false⟩) : Disk.sync ⟨s, t, cap, false⟩ = (op ⟨s, t, cap, false⟩, 0) := by
  unfold Disk.sync op
  rw [if_neg (by rw [Disk.up_ok h rfl]; simp)]
theorem op_start {s t : List UInt8} {cap : Int} (h : ¬ Disk.bad ⟨s, t, cap, true⟩) : Disk.start ⟨s, t, cap, true⟩ = (⟨s, [], cap, false⟩, 0) := by
  unfold Disk.start
  rw [if_neg h, if_neg (by simp)]
theorem down_tail {s t : List UInt8} {cap : Int} (h : ¬ Disk.bad ⟨s, t, cap, true⟩) : t = [] := by
  rw [Disk.bad_iff] at h
  exact List.eq_nil_of_length_eq_zero (Decidable.byContradiction fun k => h (.inr (.inr (.inr ⟨rfl, by omega⟩))))
theorem op_down {s t : List UInt8} {cap : Int} (h : ¬ Disk.bad ⟨s, t, cap, true⟩) : Disk.sync ⟨s, [], cap, false⟩ = (op ⟨s, t, cap, true⟩, 0) := by
  obtain rfl := down_tail h
  have h' : ¬ Disk.bad ⟨s, [], cap, false⟩ := by
    rw [Disk.bad_iff] at h ⊢
    intro k
    apply h
    rcases k with k | k | k | k
    · exact .inl k
    · exact .inr (.inl k)
    · exact .inr (.inr (.inl k))
    · exact absurd k.1 (by simp)
  rw [op_up h']
  rfl
theorem op_ok {d : Dev} (h : ¬ Disk.bad d) : Ok (op d) := by
  have := Disk.size_le h
  simp only [Disk.Dev.size] at this
  exact ok_mk (by omega) (by simp; omega)
theorem small_op {d : Dev} (h : ¬ Disk.bad d) : Small (op d) := by
  have := (op_ok h).size
  exact ⟨by omega, Nat.zero_le _⟩
end Slots
end Go.Proofs.YthgcfjhnnhigoaaGreat

/- Mathematics of layer 5: what survives. No program is named. Own work. -/
namespace Go.Proofs.YthgcfjhnnhigoaaGreat
namespace Slots
open Frame (Rec Pre IsScan enc)
open Disk (Dev)

theorem op_eq {d : Dev} (h : Ok d) : op d = d := by
  conv => rhs; rw [h.eq]
  unfold op
  rw [h.tail, List.append_nil]
theorem ck_some {d : Dev} {i : Int} {r : Rec} (h : ck d i = some r) : first d.all = some r ∧ r.num % 2 = i ∧ Frame.Valid r := by
  unfold ck at h
  split at h
  · rename_i q hq
    split at h
    · cases h; exact ⟨hq, by assumption, first_valid hq⟩
    · cases h
  · cases h
theorem ck_of {d : Dev} {i : Int} {r : Rec} (h : first d.all = some r) (hi : r.num % 2 = i) : ck d i = some r := by
  unfold ck; rw [h]; exact if_pos hi
theorem ck_none {d : Dev} {i : Int} (h : first d.all = none) : ck d i = none := by unfold ck; rw [h]
theorem newest_valid {s : Sl} {r : Rec} (h : newest s = some r) : Frame.Valid r := by
  unfold newest at h
  rcases h1 : ck s.a 0 with _ | p <;> rcases h2 : ck s.b 1 with _ | q <;> rw [h1, h2] at h <;> simp only [newer] at h
  · cases h
  · cases h; exact (ck_some h2).2.2
  · cases h; exact (ck_some h1).2.2
  · split at h
    · cases h; exact (ck_some h2).2.2
    · cases h; exact (ck_some h1).2.2
theorem next_lo {s : Sl} : 1 ≤ nextOf (newest s) ∧ nextOf (newest s) ≤ 1000000001 := by
  rcases h : newest s with _ | r
  · exact ⟨by decide, by decide⟩
  · have := newest_valid h
    have h1 := this.1
    have h2 := this.2.1
    unfold nextOf
    simp only
    omega
theorem Good.num {s : Sl} (h : Good s) {n : Int} (h1 : 1 ≤ n) (h2 : n ≤ 1000000001) : Good ⟨s.a, s.b, n⟩ := ⟨h.a, h.b, h1, h2⟩
theorem open_good {s : Sl} (ha : Ok s.a) (hb : Ok s.b) : open_ s = (⟨s.a, s.b, nextOf (newest s)⟩, 0) := by
  unfold open_
  rw [if_neg (by rintro (k | k); exact ha.nb k; exact hb.nb k)]
  unfold opened
  rw [op_eq ha, op_eq hb]
  rfl
theorem put_oth {s : Sl} (d e : Dev) (n : Int) (hd : Ok d) (he : Ok e) (h1 : 1 ≤ n) (h2 : n ≤ 1000000001) : Good (s.put d e n) := by
  unfold Sl.put; split
  · exact ⟨hd, he, h1, h2⟩
  · exact ⟨he, hd, h1, h2⟩
theorem newest_put_num (s : Sl) (d e : Dev) (n k : Int) : newest (s.put d e n) = newest (s.put d e k) := by unfold Sl.put; split <;> rfl

/-- Opened slots. -/
def Op (o : Sl) : Prop := Good o ∧ o.n = nextOf (newest o)

theorem newest_saved {o : Sl} (h : Op o) {b : List UInt8} (hn : o.n ≤ 1000000000) (hb : b.length ≤ 1000) {x : Dev} (hx : first x.all = some ⟨o.n, b⟩) (k : Int) :
    newest (o.put x o.oth k) = some ⟨o.n, b⟩ := by
  obtain ⟨hg, he⟩ := h
  unfold newest at he ⊢
  unfold Sl.put Sl.oth
  by_cases hp : o.n % 2 = 0
  · rw [if_pos hp, if_pos hp]
    simp only
    rw [ck_of hx hp]
    rcases h2 : ck o.b 1 with _ | q
    · rfl
    · simp only [newer]
      rw [if_neg]
      rcases h1 : ck o.a 0 with _ | p <;> rw [h1, h2] at he <;> simp only [newer, nextOf] at he
      · first | omega | (simp only; omega)
      · by_cases hlt : p.num < q.num
        · rw [if_pos hlt] at he; simp only at he; first | omega | (simp only; omega)
        · rw [if_neg hlt] at he; simp only at he; first | omega | (simp only; omega)
  · have hp1 : o.n % 2 = 1 := by omega
    rw [if_neg hp, if_neg hp]
    simp only
    rw [ck_of hx hp1]
    rcases h1 : ck o.a 0 with _ | p
    · rfl
    · simp only [newer]
      rw [if_pos]
      rcases h2 : ck o.b 1 with _ | q <;> rw [h1, h2] at he <;> simp only [newer, nextOf] at he
      · first | omega | (simp only; omega)
      · by_cases hlt : p.num < q.num
        · rw [if_pos hlt] at he; simp only at he; first | omega | (simp only; omega)
        · rw [if_neg hlt] at he; simp only at he; first | omega | (simp only; omega)
theorem newest_before {o : Sl} (h : Op o) {x : Dev} (hx : first x.all = none) (k : Int) : newest (o.put x o.oth k) = newest o := by
  obtain ⟨hg, he⟩ := h
  unfold newest at he ⊢
  unfold Sl.put Sl.oth
  by_cases hp : o.n % 2 = 0
  · rw [if_pos hp, if_pos hp]
    simp only
    rw [ck_none hx]
    rcases h1 : ck o.a 0 with _ | p
    · rfl
    · have hp1 := (ck_some h1).2.1
      rcases h2 : ck o.b 1 with _ | q
      · rw [h1, h2] at he
        simp only [newer, nextOf] at he
        exfalso; omega
      · have hq1 := (ck_some h2).2.1
        rw [h1, h2] at he
        simp only [newer, nextOf] at he ⊢
        by_cases hlt : p.num < q.num
        · rw [if_pos hlt]
        · rw [if_neg hlt] at he; simp only at he; exfalso; omega
  · rw [if_neg hp, if_neg hp]
    simp only
    rw [ck_none hx]
    rcases h2 : ck o.b 1 with _ | q
    · rcases h1 : ck o.a 0 with _ | p <;> rfl
    · have hq1 := (ck_some h2).2.1
      rcases h1 : ck o.a 0 with _ | p
      · rw [h1, h2] at he
        simp only [newer, nextOf] at he
        exfalso; omega
      · have hp1 := (ck_some h1).2.1
        rw [h1, h2] at he
        simp only [newer, nextOf] at he ⊢
        by_cases hlt : p.num < q.num
        · rw [if_pos hlt] at he; simp only at he; exfalso; omega
        · rw [if_neg hlt]
theorem newest_same {o : Sl} (k : Int) : newest (o.put o.cur o.oth k) = newest o := by
  unfold newest Sl.put Sl.cur Sl.oth
  split <;> rfl

theorem wr_good {s : Sl} {b : List UInt8} (h : asked s b = 0) : wr s.cur (enc ⟨s.n, b⟩) 3 = ⟨enc ⟨s.n, b⟩, [], s.cur.cap, false⟩ := by
  obtain ⟨hg, hb, hn, hr⟩ := asked_good h
  have hc := hg.cur
  have hl : ((enc ⟨s.n, b⟩).length : Int) ≤ s.cur.cap := by rw [Frame.enc_length]; simp only; omega
  rw [wr_3 (by decide), trunc_ok hc, app_ok hc.cap1 hl, sync_tail hc.cap1 hl]
theorem save_ok {s : Sl} {b : List UInt8} (h : asked s b = 0) : save s b = (s.put ⟨enc ⟨s.n, b⟩, [], s.cur.cap, false⟩ s.oth (s.n + 1), s.n, 0) := by
  unfold save
  rw [if_neg (by rw [h]; simp), wr_good h]
theorem asked_err {s : Sl} {b : List UInt8} (hg : Good s) (hb : b.length ≤ 1000) (h : asked s b ≠ 0) : asked s b = 2 ∨ asked s b = 18 := by
  by_cases h3 : 1000000000 < s.n
  · exact .inl (asked_arg hg.nb (by omega) h3)
  · by_cases h4 : s.cur.cap < 12 + (b.length : Int)
    · exact .inr (asked_full hg.nb (by omega) h3 h4)
    · exact absurd (asked_ok hg.nb (by omega) h3 h4) h
theorem valid_of {s : Sl} {b : List UInt8} (h : asked s b = 0) : Frame.Valid ⟨s.n, b⟩ := by
  obtain ⟨hg, hb, hn, hr⟩ := asked_good h
  exact ⟨by have := hg.lo; simp only; omega, hn, hb⟩
/-- What is saved is loaded. -/
theorem saved_newest {o : Sl} (h : Op o) {b : List UInt8} (ha : asked o b = 0) (k : Int) : newest (o.put ⟨enc ⟨o.n, b⟩, [], o.cur.cap, false⟩ o.oth k) = some ⟨o.n, b⟩ := by
  obtain ⟨hg, hb, hn, hr⟩ := asked_good ha
  refine newest_saved h hn hb ?_ k
  show first (enc ⟨o.n, b⟩ ++ []) = _
  exact first_enc (valid_of ha) []
theorem saved_good {o : Sl} {b : List UInt8} (ha : asked o b = 0) : Good (o.put ⟨enc ⟨o.n, b⟩, [], o.cur.cap, false⟩ o.oth (o.n + 1)) := by
  obtain ⟨hg, hb, hn, hr⟩ := asked_good ha
  refine put_oth _ _ _ (ok_mk hg.cur.cap1 (by rw [Frame.enc_length]; simp only; omega)) hg.oth (by have := hg.lo; omega) (by omega)
theorem saved_op {o : Sl} (h : Op o) {b : List UInt8} (ha : asked o b = 0) : Op (o.put ⟨enc ⟨o.n, b⟩, [], o.cur.cap, false⟩ o.oth (o.n + 1)) := by
  refine ⟨saved_good ha, ?_⟩
  rw [saved_newest h ha]
  unfold Sl.put; split <;> rfl

/-! Halves. -/
/-- What a crash after some steps leaves on the slot of Next. -/
def left (o : Sl) (b : List UInt8) (k keep : Int) (xs : List UInt8) : Prop :=
  (k = 0 ∧ xs = o.cur.s) ∨ (k = 1 ∧ xs = []) ∨ (k = 2 ∧ 0 ≤ keep ∧ keep ≤ 12 + (b.length : Int) ∧ xs = (enc ⟨o.n, b⟩).take keep.toNat) ∨ (k = 3 ∧ xs = enc ⟨o.n, b⟩)
theorem half_cases {o : Sl} {b : List UInt8} {k keep : Int} {h : Sl} {er : Int} (hg : Good o) (hb : b.length ≤ 1000) (hh : (h, er) = half o b k keep) :
    (er = 2 ∨ er = 18) ∨ (er = 0 ∧ asked o b = 0 ∧ ∃ xs, left o b k keep xs ∧ (xs.length : Int) ≤ o.cur.cap ∧ h = o.put ⟨xs, [], o.cur.cap, true⟩ ⟨o.oth.s, [], o.oth.cap, true⟩ o.n) := by
  unfold half at hh
  by_cases ha : asked o b = 0
  · rw [if_neg (by rw [ha]; simp)] at hh
    obtain ⟨_, _, hn, hr⟩ := asked_good ha
    have hc := hg.cur
    have hl : ((enc ⟨o.n, b⟩).length : Int) ≤ o.cur.cap := by rw [Frame.enc_length]; simp only; omega
    have hle : ((enc ⟨o.n, b⟩).length : Int) = 12 + (b.length : Int) := by rw [Frame.enc_length]; simp
    by_cases hk : k < 0 ∨ 3 < k
    · rw [if_pos hk] at hh
      exact .inl (.inl (Prod.mk.inj hh).2)
    rw [if_neg hk, crash_ok hg.oth] at hh
    have hk' : k = 0 ∨ k = 1 ∨ k = 2 ∨ k = 3 := by omega
    rcases hk' with rfl | rfl | rfl | rfl
    · rw [wr_0 (by decide)] at hh
      by_cases hz : keep = 0
      · subst hz
        rw [crash_ok hc] at hh
        simp only [ne_eq, not_true, if_false] at hh
        obtain ⟨h1, h2⟩ := Prod.mk.inj hh
        exact .inr ⟨h2, ha, o.cur.s, .inl ⟨rfl, rfl⟩, hc.fits, h1⟩
      · rw [crash_ok' hc hz] at hh
        simp only at hh
        rw [if_pos (by decide)] at hh
        exact .inl (.inl (Prod.mk.inj hh).2)
    · rw [wr_1 (by decide) (by decide), trunc_ok hc] at hh
      have ho : Ok ⟨[], [], o.cur.cap, false⟩ := ok_mk hc.cap1 (by simpa using hc.cap0)
      by_cases hz : keep = 0
      · subst hz
        rw [crash_ok ho] at hh
        simp only [ne_eq, not_true, if_false] at hh
        obtain ⟨h1, h2⟩ := Prod.mk.inj hh
        exact .inr ⟨h2, ha, [], .inr (.inl ⟨rfl, rfl⟩), by simpa using hc.cap0, h1⟩
      · rw [crash_ok' ho hz] at hh
        simp only at hh
        rw [if_pos (by decide)] at hh
        exact .inl (.inl (Prod.mk.inj hh).2)
    · rw [wr_2 (by decide) (by decide), trunc_ok hc, app_ok hc.cap1 hl, crash_tail hc.cap1 hl] at hh
      by_cases hz : keep < 0 ∨ ((enc ⟨o.n, b⟩).length : Int) < keep
      · rw [if_pos hz] at hh
        simp only at hh
        rw [if_pos (by decide)] at hh
        exact .inl (.inl (Prod.mk.inj hh).2)
      · rw [if_neg hz] at hh
        simp only [ne_eq, not_true, if_false] at hh
        obtain ⟨h1, h2⟩ := Prod.mk.inj hh
        refine .inr ⟨h2, ha, _, .inr (.inr (.inl ⟨rfl, by omega, by omega, rfl⟩)), ?_, h1⟩
        rw [List.length_take]; omega
    · rw [wr_good ha] at hh
      have ho : Ok ⟨enc ⟨o.n, b⟩, [], o.cur.cap, false⟩ := ok_mk hc.cap1 hl
      by_cases hz : keep = 0
      · subst hz
        rw [crash_ok ho] at hh
        simp only [ne_eq, not_true, if_false] at hh
        obtain ⟨h1, h2⟩ := Prod.mk.inj hh
        exact .inr ⟨h2, ha, _, .inr (.inr (.inr ⟨rfl, rfl⟩)), hl, h1⟩
      · rw [crash_ok' ho hz] at hh
        simp only at hh
        rw [if_pos (by decide)] at hh
        exact .inl (.inl (Prod.mk.inj hh).2)
  · rw [if_pos ha] at hh
    have h1 := (Prod.mk.inj hh).2
    rcases asked_err hg hb ha with e | e
    · exact .inl (.inl (h1.trans e))
    · exact .inl (.inr (h1.trans e))
theorem open_left {o : Sl} (hg : Good o) {xs : List UInt8} (hl : (xs.length : Int) ≤ o.cur.cap) :
    open_ (o.put ⟨xs, [], o.cur.cap, true⟩ ⟨o.oth.s, [], o.oth.cap, true⟩ o.n) =
      (⟨(o.put ⟨xs, [], o.cur.cap, false⟩ o.oth 1).a, (o.put ⟨xs, [], o.cur.cap, false⟩ o.oth 1).b, nextOf (newest (o.put ⟨xs, [], o.cur.cap, false⟩ o.oth 1))⟩, 0) := by
  have n1 : ¬ Disk.bad ⟨xs, [], o.cur.cap, true⟩ := by
    rw [Disk.bad_iff]; have := hg.cur.cap0; have := hg.cur.cap1; simp; omega
  have n2 : ¬ Disk.bad ⟨o.oth.s, [], o.oth.cap, true⟩ := by
    rw [Disk.bad_iff]; have := hg.oth.cap0; have := hg.oth.cap1; have := hg.oth.fits; simp; omega
  have e1 : op ⟨xs, [], o.cur.cap, true⟩ = ⟨xs, [], o.cur.cap, false⟩ := by unfold op; simp
  have e2 : op ⟨o.oth.s, [], o.oth.cap, true⟩ = o.oth := by
    conv => rhs; rw [hg.oth.eq]
    unfold op; simp
  unfold open_ opened
  by_cases hp : o.n % 2 = 0
  · simp only [Sl.put, if_pos hp]
    rw [if_neg (by rintro (k | k); exact n1 k; exact n2 k), e1, e2]
  · simp only [Sl.put, if_neg hp]
    rw [if_neg (by rintro (k | k); exact n2 k; exact n1 k), e1, e2]
/-- What survives. -/
theorem survive {o : Sl} (h : Op o) {b : List UInt8} {k keep : Int} {xs : List UInt8} (ha : asked o b = 0) (hl : left o b k keep xs) :
    (newest (o.put ⟨xs, [], o.cur.cap, false⟩ o.oth 1) = some ⟨o.n, b⟩ ∧ 2 ≤ k ∧ k ≤ 3) ∨ (newest (o.put ⟨xs, [], o.cur.cap, false⟩ o.oth 1) = newest o ∧ 0 ≤ k ∧ k ≤ 2) := by
  have hv := valid_of ha
  rcases hl with ⟨rfl, rfl⟩ | ⟨rfl, rfl⟩ | ⟨rfl, h0, h1, rfl⟩ | ⟨rfl, rfl⟩
  · refine .inr ⟨?_, by decide, by decide⟩
    rw [show (⟨o.cur.s, [], o.cur.cap, false⟩ : Dev) = o.cur from h.1.cur.eq.symm]
    exact newest_same 1
  · refine .inr ⟨newest_before h ?_ 1, by decide, by decide⟩
    exact first_nil
  · by_cases hk : keep = 12 + (b.length : Int)
    · refine .inl ⟨?_, by decide, by decide⟩
      rw [List.take_of_length_le (by rw [Frame.enc_length]; simp only; omega)]
      exact saved_newest h ha 1
    · refine .inr ⟨newest_before h ?_ 1, by decide, by decide⟩
      show first ((enc ⟨o.n, b⟩).take keep.toNat ++ []) = none
      rw [List.append_nil]
      exact first_torn hv _ (by rw [Frame.enc_length]; simp only; omega)
  · exact .inl ⟨saved_newest h ha 1, by decide, by decide⟩
theorem left_good {o : Sl} (hg : Good o) {xs : List UInt8} (hl : (xs.length : Int) ≤ o.cur.cap) (n : Int) (h1 : 1 ≤ n) (h2 : n ≤ 1000000001) :
    Good ⟨(o.put ⟨xs, [], o.cur.cap, false⟩ o.oth 1).a, (o.put ⟨xs, [], o.cur.cap, false⟩ o.oth 1).b, n⟩ :=
  (put_oth (s := o) _ _ 1 (ok_mk hg.cur.cap1 hl) hg.oth (by decide) (by decide)).num h1 h2
theorem op_of {s : Sl} (ha : Ok s.a) (hb : Ok s.b) : Op ⟨s.a, s.b, nextOf (newest s)⟩ := ⟨⟨ha, hb, next_lo.1, next_lo.2⟩, rfl⟩
end Slots
end Go.Proofs.YthgcfjhnnhigoaaGreat

/- Opening: plain mathematics. Own work. -/
namespace Go.Proofs.YthgcfjhnnhigoaaGreat
namespace Wal
open Frame
theorem open_of {d : Disk.Dev} {rs : List Rec} {u : Nat} {f : Int} (hs : IsScan (d.s ++ d.t) rs u) (hb : ¬ Disk.bad d) (h0 : 0 ≤ f) (h1 : f ≤ 1000000000) (hf : 0 < rs.length → base rs = f) :
    ∃ o : Log, open_ d f rs u = (o, 0) ∧ Good o rs ∧ o.first = f ∧ o.next = f + rs.length ∧ o.dev.t = [] ∧ o.dev.s = all rs := by
  have hsz := Disk.size_le hb
  unfold Disk.Dev.size at hsz
  have hle := scan_le hs
  rw [List.length_append] at hle
  have hal := (scan_back hs).1
  have hu := hs.2.1
  rcases Nat.eq_zero_or_pos rs.length with h2 | h2
  · have : rs = [] := List.eq_nil_of_length_eq_zero h2
    subst this
    refine ⟨⟨⟨[], [], d.cap, false⟩, f, f⟩, ?_, ⟨up_mk hsz.1 hsz.2.1 (by simp; omega), foll_nil, rfl, by simp, fun h => absurd h (by simp), h0, by simp only; omega⟩, rfl, by simp, rfl, rfl⟩
    unfold open_
    rw [if_neg hb, if_neg (by omega), if_pos (.inl rfl)]
  · have hbf := hf h2
    refine ⟨⟨⟨(d.s ++ d.t).take u, [], d.cap, false⟩, base rs, base rs + rs.length⟩, ?_, ⟨?_, hs.1, ?_, rfl, fun _ => rfl, by simp only; omega, by simp only; omega⟩, hbf, by simp only; omega, rfl, hal.symm⟩
    · unfold open_
      rw [if_neg hb, if_neg (by omega), if_neg (by omega)]
    · refine up_mk hsz.1 hsz.2.1 ?_
      simp only [List.length_take, List.length_append, List.length_nil]
      omega
    · simp only [List.append_nil]; exact hal.symm
theorem open_good {s t : List UInt8} {cap f n : Int} {rs : List Rec} (hg : Good ⟨⟨s, t, cap, false⟩, f, n⟩ rs) (h1 : f ≤ 1000000000) :
    ∃ o : Log, open_ ⟨s, t, cap, false⟩ f rs (s ++ t).length = (o, 0) ∧ Good o rs ∧ o.first = f ∧ o.next = n ∧ o.dev.t = [] ∧ o.dev.s = s ++ t := by
  have hr := hg.rng
  obtain ⟨o, h2, h3, h4, h5, h6, h7⟩ := open_of (d := ⟨s, t, cap, false⟩) (f := f) hg.scan hg.nb hr.1 h1 (fun h => (hg.2.2.2.2.1 h).symm)
  refine ⟨o, h2, h3, h4, ?_, h6, ?_⟩
  · rw [h5]; exact hg.2.2.2.1.symm
  · rw [h7]; exact hg.2.2.1.symm
theorem crash_scan {s t : List UInt8} {cap f n : Int} {rs : List Rec} (hg : Good ⟨⟨s, t, cap, false⟩, f, n⟩ rs) (k : Nat) (hk : k ≤ t.length) :
    IsScan ((s ++ t.take k) ++ []) (rs.take (cut rs (s.length + k))) (all (rs.take (cut rs (s.length + k)))).length ∧ ¬ Disk.bad ⟨s ++ t.take k, [], cap, true⟩ := by
  have h3 := hg.2.2.1
  simp only at h3
  have hlen := hg.len
  simp only at hlen
  refine ⟨?_, ?_⟩
  · have h := scan_cut hg.2.1 (s.length + k) (by omega)
    rw [← h3, List.take_append, List.take_of_length_le (by omega), Nat.add_sub_cancel_left] at h
    rw [List.append_nil]
    exact h
  · have hr := hg.room
    simp only [Disk.Dev.size] at hr
    rw [Disk.bad_iff]
    simp only [List.length_append, List.length_take, List.length_nil]
    omega
end Wal
end Go.Proofs.YthgcfjhnnhigoaaGreat

/- Plain mathematics of layer 6: states, operations, their bytes, bases. No program is named. Own work. -/
namespace Go.Proofs.YthgcfjhnnhigoaaGreat
namespace Jour
open Frame (Rec)

structure Move where
  cell : Int
  add : Int
def Valid (m : Move) : Prop := 0 ≤ m.cell ∧ m.cell < 8 ∧ -1000000 ≤ m.add ∧ m.add ≤ 1000000
instance (m : Move) : Decidable (Valid m) := by unfold Valid; infer_instance
def State (c : List Int) : Prop := ∀ x ∈ c, -1000000000 ≤ x ∧ x ≤ 1000000000
instance (c : List Int) : Decidable (State c) := by unfold State; infer_instance
def zeros : List Int := [0, 0, 0, 0, 0, 0, 0, 0]
def bump (c : List Int) (m : Move) : List Int := c.set m.cell.toNat (c.getD m.cell.toNat 0 + m.add)
def go (c : List Int) : List Move → List Int × Int
  | [] => (c, 0)
  | m :: l => if ¬ Valid m then (zeros, 2) else if ¬ State (bump c m) then (zeros, 16) else go (bump c m) l
def apply (c : List Int) (l : List Move) : List Int × Int := if ¬ State c then (zeros, 8) else go c l

theorem bump_length (c : List Int) (m : Move) : (bump c m).length = c.length := by simp [bump]
theorem bump_get (c : List Int) (m : Move) (i : Nat) : (bump c m).getD i 0 = if i = m.cell.toNat ∧ i < c.length then c.getD i 0 + m.add else c.getD i 0 := by
  unfold bump
  simp only [List.getD_eq_getElem?_getD, List.getElem?_set]
  by_cases h : m.cell.toNat = i
  · subst h
    by_cases h2 : m.cell.toNat < c.length <;> simp [h2]
  · rw [if_neg h, if_neg (fun k => h k.1.symm)]
theorem ext_getD {c d : List Int} (hl : c.length = d.length) (h : ∀ i, i < c.length → c.getD i 0 = d.getD i 0) : c = d := by
  apply List.ext_getElem hl
  intro i h1 h2
  have := h i h1
  simpa [List.getD_eq_getElem?_getD, h1, h2] using this
theorem bump_comm (c : List Int) (m n : Move) : bump (bump c m) n = bump (bump c n) m := by
  refine ext_getD (by simp [bump_length]) fun i hi => ?_
  simp only [bump_get, bump_length]
  split <;> split <;> omega
theorem go_cons {c : List Int} {m : Move} {l : List Move} (h1 : Valid m) (h2 : State (bump c m)) : go c (m :: l) = go (bump c m) l := (if_neg (by simpa using h1)).trans (if_neg (by simpa using h2))
theorem go_valid {c : List Int} : ∀ {l : List Move}, (go c l).2 = 0 → ∀ m ∈ l, Valid m := by
  intro l
  induction l generalizing c with
  | nil => intro _ m hm; cases hm
  | cons x l ih =>
    intro h m hm
    unfold go at h
    split at h
    · cases h
    · split at h
      · cases h
      · rcases List.mem_cons.1 hm with rfl | hm
        · rename_i h1 _; simpa using h1
        · exact ih h m hm
theorem foldl_bump_comm (l : List Move) (c : List Int) (m : Move) : l.foldl bump (bump c m) = bump (l.foldl bump c) m := by
  induction l generalizing c with
  | nil => rfl
  | cons x l ih => simp only [List.foldl_cons]; rw [bump_comm c m x, ih]
/-- The order does not matter. -/
theorem foldl_bump_reverse (l : List Move) (c : List Int) : l.reverse.foldl bump c = l.foldl bump c := by
  induction l generalizing c with
  | nil => rfl
  | cons x l ih => rw [List.reverse_cons, List.foldl_append, ih]; simp only [List.foldl_cons, List.foldl_nil]; rw [foldl_bump_comm]

/-! Numbers as eight bytes. -/
def bytesN : Nat → Nat → List UInt8
  | 0, _ => []
  | k + 1, x => UInt8.ofNat (x % 256) :: bytesN k (x / 256)
def valN : List UInt8 → Nat
  | [] => 0
  | b :: l => b.toNat + 256 * valN l
/-- The number of 64 bits. -/
def low (n : Int) : Nat := (n % 18446744073709551616).toNat
def high (x : Nat) : Int := if x < 9223372036854775808 then (x : Int) else (x : Int) - 18446744073709551616
def eight (n : Int) : List UInt8 := bytesN 8 (low n)
def read (b : List UInt8) : Int := high (valN (b.take 8))
theorem bytesN_length (k x : Nat) : (bytesN k x).length = k := by
  induction k generalizing x with
  | zero => rfl
  | succ k ih => simp [bytesN, ih]
theorem eight_length (n : Int) : (eight n).length = 8 := bytesN_length 8 _
theorem val_bytes (k x : Nat) : valN (bytesN k x) = x % 256 ^ k := by
  induction k generalizing x with
  | zero => simp [bytesN, valN, Nat.mod_one]
  | succ k ih =>
    simp only [bytesN, valN, ih]
    have h1 : (UInt8.ofNat (x % 256)).toNat = x % 256 := by
      simp
    rw [h1, Nat.pow_succ, Nat.mul_comm (256 ^ k) 256, Nat.mod_mul]
theorem read_eight {n : Int} (h1 : -9223372036854775808 ≤ n) (h2 : n ≤ 9223372036854775807) (t : List UInt8) : read (eight n ++ t) = n := by
  unfold read
  rw [List.take_left' (eight_length n)]
  unfold eight
  rw [val_bytes]
  have hl : low n % 256 ^ 8 = low n := Nat.mod_eq_of_lt (by unfold low; omega)
  rw [hl]
  unfold high low
  split <;> omega
/-! The bytes of operations and of checkpoints. -/
def written (m : Move) : List UInt8 := UInt8.ofNat m.cell.toNat :: eight m.add
def moved (b : List UInt8) : Option Move :=
  if b.length = 9 ∧ Valid ⟨((b.getD 0 0).toNat : Int), read (b.drop 1)⟩ then some ⟨((b.getD 0 0).toNat : Int), read (b.drop 1)⟩ else none
theorem written_length (m : Move) : (written m).length = 9 := by simp [written, eight_length]
theorem moved_written {m : Move} (h : Valid m) : moved (written m) = some m := by
  obtain ⟨h1, h2, h3, h4⟩ := h
  have e0 : (((written m).getD 0 0).toNat : Int) = m.cell := by
    simp only [written, List.getD_cons_zero]
    have : (UInt8.ofNat m.cell.toNat).toNat = m.cell.toNat := by simp; omega
    rw [this]; omega
  have e1 : read ((written m).drop 1) = m.add := by
    have := read_eight (n := m.add) (by omega) (by omega) []
    simpa [written] using this
  unfold moved
  rw [e0, e1, if_pos ⟨written_length m, h1, h2, h3, h4⟩]
def point (n : Int) (c : List Int) : List UInt8 := eight n ++ (c.map eight).flatten
def cellsAt (b : List UInt8) : List Int := (List.range 8).map fun i => read (b.drop (8 * (i + 1)))
def unpoint (b : List UInt8) : Option (Int × List Int) :=
  if b.length = 72 ∧ 0 ≤ read b ∧ read b ≤ 1000000000 ∧ State (cellsAt b) then some (read b, cellsAt b) else none
theorem flat_length (c : List Int) : ((c.map eight).flatten).length = 8 * c.length := by
  induction c with
  | nil => rfl
  | cons x c ih => simp only [List.map_cons, List.flatten_cons, List.length_append, eight_length, List.length_cons, ih]; omega
theorem point_length (n : Int) (c : List Int) (h : c.length = 8) : (point n c).length = 72 := by
  unfold point; rw [List.length_append, eight_length, flat_length, h]
theorem flat_drop (c : List Int) (i : Nat) : ((c.map eight).flatten).drop (8 * i) = ((c.drop i).map eight).flatten := by
  induction c generalizing i with
  | nil => simp
  | cons x c ih =>
    cases i with
    | zero => rfl
    | succ i =>
      simp only [List.map_cons, List.flatten_cons, List.drop_succ_cons]
      rw [show 8 * (i + 1) = 8 + 8 * i by omega, ← List.drop_drop, List.drop_left' (eight_length x)]
      exact ih i
theorem cells_point (n : Int) {c : List Int} (h : c.length = 8) (hs : State c) : cellsAt (point n c) = c := by
  refine ext_getD (by simp [cellsAt, h]) fun i hi => ?_
  have hi8 : i < 8 := by simpa [cellsAt] using hi
  have hic : i < c.length := by omega
  have hx := hs c[i] (List.getElem_mem hic)
  have e : (cellsAt (point n c)).getD i 0 = read ((point n c).drop (8 * (i + 1))) := by
    simp [cellsAt, List.getD_eq_getElem?_getD, hi8]
  rw [e]
  unfold point
  rw [show 8 * (i + 1) = 8 + 8 * i by omega, ← List.drop_drop, List.drop_left' (eight_length n), flat_drop, List.drop_eq_getElem_cons hic, List.map_cons, List.flatten_cons, read_eight (by omega) (by omega)]
  simp [List.getD_eq_getElem?_getD, hic]
theorem unpoint_point {n : Int} {c : List Int} (h : c.length = 8) (hs : State c) (h0 : 0 ≤ n) (h1 : n ≤ 1000000000) : unpoint (point n c) = some (n, c) := by
  have e0 : read (point n c) = n := read_eight (by omega) (by omega) _
  unfold unpoint
  rw [e0, cells_point n h hs, if_pos ⟨point_length n c h, h0, h1, hs⟩]

/-! Bases, and what records make of them. -/
noncomputable def base (s : Slots.Sl) : Option (Int × List Int) :=
  match Slots.newest s with
  | none => some (0, zeros)
  | some r => unpoint r.data
def replay (c : List Int) (frm : Int) : List Rec → Option (List Int)
  | [] => some c
  | r :: l => if r.num < frm then replay c frm l else
    match moved r.data with
    | none => none
    | some m => if State (bump c m) then replay (bump c m) frm l else none
theorem replay_append (c : List Int) (frm : Int) (l m : List Rec) : replay c frm (l ++ m) = (replay c frm l).bind fun d => replay d frm m := by
  induction l generalizing c with
  | nil => rfl
  | cons r l ih =>
    simp only [List.cons_append, replay]
    split
    · exact ih c
    · rcases moved r.data with _ | x
      · rfl
      · simp only
        split
        · exact ih _
        · rfl
theorem replay_old {c : List Int} {frm : Int} {l : List Rec} (h : ∀ r ∈ l, r.num < frm) : replay c frm l = some c := by
  induction l with
  | nil => rfl
  | cons r l ih =>
    simp only [replay]
    rw [if_pos (h r (by simp))]
    exact ih fun r hr => h r (by simp [hr])
theorem replay_one {c : List Int} {frm : Int} {r : Rec} {m : Move} (hn : ¬ r.num < frm) (hm : moved r.data = some m) (hs : State (bump c m)) : replay c frm [r] = some (bump c m) := by
  simp only [replay]
  rw [if_neg hn, hm]
  simp only
  rw [if_pos hs]
theorem replay_state {c d : List Int} {frm : Int} {l : List Rec} (hc : State c) (h : replay c frm l = some d) : State d ∧ d.length = c.length := by
  induction l generalizing c with
  | nil => cases h; exact ⟨hc, rfl⟩
  | cons r l ih =>
    simp only [replay] at h
    split at h
    · exact ih hc h
    · rcases hm : moved r.data with _ | x <;> rw [hm] at h <;> simp only at h
      · cases h
      · split at h
        · have := ih (by assumption) h
          exact ⟨this.1, this.2.trans (bump_length _ _)⟩
        · cases h
end Jour
end Go.Proofs.YthgcfjhnnhigoaaGreat

/- Plain mathematics of layer 6: journals. No program is named. Own work. -/
namespace Go.Proofs.YthgcfjhnnhigoaaGreat
namespace Jour
open Frame (Rec Foll IsScan enc)

structure J where
  slots : Slots.Sl
  log : Wal.Log
  cells : List Int
/-- A valid journal, its records and its base. -/
structure Good (j : J) (rs : List Rec) (n : Int) (c : List Int) : Prop where
  op : Slots.Op j.slots
  log : Wal.Good j.log rs
  base : base j.slots = some (n, c)
  lo : j.log.first ≤ n
  hi : n ≤ j.log.next
  rep : replay c n rs = some j.cells

theorem zeros_state : State zeros := by decide
theorem base_state {s : Slots.Sl} {n : Int} {c : List Int} (h : base s = some (n, c)) : 0 ≤ n ∧ n ≤ 1000000000 ∧ State c ∧ c.length = 8 := by
  unfold base at h
  split at h
  · cases h; exact ⟨by decide, by decide, zeros_state, rfl⟩
  · unfold unpoint at h
    split at h
    · rename_i k
      cases h
      exact ⟨k.2.1, k.2.2.1, k.2.2.2, by simp [cellsAt]⟩
    · cases h
theorem Good.state {j : J} {rs : List Rec} {n : Int} {c : List Int} (h : Good j rs n c) : State j.cells ∧ j.cells.length = 8 := by
  obtain ⟨_, _, h3, h4⟩ := base_state h.base
  obtain ⟨h5, h6⟩ := replay_state h3 h.rep
  exact ⟨h5, h6.trans h4⟩
theorem Good.unique {j : J} {rs rs' : List Rec} {n n' : Int} {c c' : List Int} (h : Good j rs n c) (k : Good j rs' n' c') : rs = rs' ∧ n = n' ∧ c = c' := by
  refine ⟨h.log.unique k.log, ?_⟩
  have := h.base.symm.trans k.base
  cases this
  exact ⟨rfl, rfl⟩

/-- An operation logged and done. -/
theorem good_do {sl : Slots.Sl} {s t : List UInt8} {cap f nx : Int} {cs : List Int} {rs : List Rec} {n : Int} {c : List Int} (h : Good ⟨sl, ⟨⟨s, t, cap, false⟩, f, nx⟩, cs⟩ rs n c) {m : Move} (hm : Valid m) (hs : State (bump cs m))
    (hn : nx ≤ 1000000000) (hr : (s.length : Int) + t.length + 21 ≤ cap) :
    Good ⟨sl, ⟨⟨s, t ++ enc ⟨nx, written m⟩, cap, false⟩, f, nx + 1⟩, bump cs m⟩ (rs ++ [⟨nx, written m⟩]) n c := by
  refine ⟨h.op, Wal.good_append h.log (written m) (by rw [written_length]; decide) hn (by rw [written_length]; omega), h.base, h.lo, by have := h.hi; simp only at this ⊢; omega, ?_⟩
  have h1 := h.rep
  simp only at h1
  rw [replay_append, h1]
  exact replay_one (by have := h.hi; simp only at this ⊢; omega) (moved_written hm) hs
theorem good_synced {sl : Slots.Sl} {s t : List UInt8} {cap f nx : Int} {cs : List Int} {rs : List Rec} {n : Int} {c : List Int} (h : Good ⟨sl, ⟨⟨s, t, cap, false⟩, f, nx⟩, cs⟩ rs n c) :
    Good ⟨sl, ⟨⟨s ++ t, [], cap, false⟩, f, nx⟩, cs⟩ rs n c := ⟨h.op, Wal.good_sync h.log, h.base, h.lo, h.hi, h.rep⟩
/-- The base behind a checkpoint. -/
theorem base_saved {o : Slots.Sl} (h : Slots.Op o) {nx : Int} {cs : List Int} (ha : Slots.asked o (point nx cs) = 0) (hc : cs.length = 8) (hs : State cs) (h0 : 0 ≤ nx) (h1 : nx ≤ 1000000000) (k : Int) :
    base (o.put ⟨enc ⟨o.n, point nx cs⟩, [], o.cur.cap, false⟩ o.oth k) = some (nx, cs) := by
  unfold base
  rw [Slots.saved_newest h ha k]
  exact unpoint_point hc hs h0 h1
theorem good_save {sl : Slots.Sl} {s t : List UInt8} {cap f nx : Int} {cs : List Int} {rs : List Rec} {n : Int} {c : List Int} (h : Good ⟨sl, ⟨⟨s, t, cap, false⟩, f, nx⟩, cs⟩ rs n c) (ha : Slots.asked sl (point nx cs) = 0) (h1 : nx ≤ 1000000000) :
    Good ⟨sl.put ⟨enc ⟨sl.n, point nx cs⟩, [], sl.cur.cap, false⟩ sl.oth (sl.n + 1), ⟨⟨[], [], cap, false⟩, nx, nx⟩, cs⟩ [] nx cs := by
  have hst := h.state
  have hr := h.log.rng
  have hroom := h.log.room
  simp only [Disk.Dev.size] at hst hr hroom
  refine ⟨Slots.saved_op h.op ha, ⟨Wal.up_mk hroom.1 hroom.2.1 (by simp; omega), Frame.foll_nil, rfl, by simp, fun k => absurd k (by simp), by simp only; omega, by simp only; omega⟩,
    base_saved h.op ha hst.2 hst.1 (by omega) h1 _, Int.le_refl _, Int.le_refl _, rfl⟩
/-- All records lie before a number: they count for nothing. -/
theorem replay_before {rs : List Rec} (hF : Foll rs) {c : List Int} {n : Int} (h : 0 < rs.length → Wal.base rs + rs.length ≤ n) : replay c n rs = some c := by
  refine replay_old fun r hr => ?_
  obtain ⟨i, hi, rfl⟩ := List.getElem_of_mem hr
  have := Wal.num_at hF i hi
  have := h (by omega)
  omega
/-- Recovery of a log on slots that were opened. -/
theorem recover_gen {o : Slots.Sl} (hO : Slots.Op o) {n : Int} {c : List Int} (hb : base o = some (n, c)) {d : Disk.Dev} {rs : List Rec} {u : Nat} (hs : IsScan (d.s ++ d.t) rs u) (hd : ¬ Disk.bad d)
    (hf : 0 < rs.length → Wal.base rs ≤ n) {e : List Int} (hr : replay c n rs = some e) :
    ∃ l rs', Wal.open_ d n rs u = (l, 0) ∧ Good ⟨o, l, e⟩ rs' n c ∧ l.dev.t = [] ∧ l.dev.cap = d.cap ∧
      ((l.next = n ∧ (0 < rs.length → Wal.base rs + rs.length ≤ n)) ∨ (0 < rs.length ∧ l.next = Wal.base rs + rs.length ∧ l.first = Wal.base rs ∧ rs' = rs ∧ l.dev.s = Frame.all rs)) := by
  obtain ⟨h0, h1, hst, hc8⟩ := base_state hb
  have hsz := Disk.size_le hd
  unfold Disk.Dev.size at hsz
  by_cases hem : rs.length = 0 ∨ Wal.base rs + rs.length < n
  · have he : e = c := by
      have := replay_before (c := c) (n := n) hs.1 (fun k => by omega)
      rw [this] at hr; cases hr; rfl
    subst he
    refine ⟨⟨⟨[], [], d.cap, false⟩, n, n⟩, [], ?_, ⟨hO, ⟨Wal.up_mk hsz.1 hsz.2.1 (by simp; omega), Frame.foll_nil, rfl, by simp, fun k => absurd k (by simp), h0, by simp only; omega⟩, hb, Int.le_refl _, Int.le_refl _, rfl⟩, rfl, rfl, .inl ⟨rfl, fun k => by omega⟩⟩
    unfold Wal.open_
    rw [if_neg hd, if_neg (by omega), if_pos hem]
  · have hpos : 0 < rs.length := by omega
    have hbr := Wal.base_rng hs.1 hpos
    have hbn := hf hpos
    obtain ⟨o', h2, h3, h4, h5, h6, h7⟩ := Wal.open_of (f := Wal.base rs) hs hd hbr.1 (by omega) (fun _ => rfl)
    unfold Wal.open_ at h2
    rw [if_neg hd, if_neg (by omega), if_neg (by omega)] at h2
    have ho := (Prod.mk.inj h2).1
    refine ⟨o', rs, ?_, ⟨hO, h3, hb, by simp only; omega, by simp only; omega, hr⟩, h6, by rw [← ho], .inr ⟨hpos, h5, h4, rfl, h7⟩⟩
    unfold Wal.open_
    rw [if_neg hd, if_neg (by omega), if_neg hem]
    exact h2
/-- What a beginning of the records makes. -/
theorem replay_take {c d : List Int} {n : Int} {rs : List Rec} (h : replay c n rs = some d) (k : Nat) : ∃ e, replay c n (rs.take k) = some e := by
  have := replay_append c n (rs.take k) (rs.drop k)
  rw [List.take_append_drop, h] at this
  rcases hx : replay c n (rs.take k) with _ | e
  · rw [hx] at this; cases this
  · exact ⟨e, rfl⟩
/-- A crash that keeps k bytes of the log's tail, on slots that have not changed. -/
theorem recover_cut {sl : Slots.Sl} {s t : List UInt8} {cap f nx : Int} {cs : List Int} {rs : List Rec} {n : Int} {c : List Int} (h : Good ⟨sl, ⟨⟨s, t, cap, false⟩, f, nx⟩, cs⟩ rs n c) (k : Nat) (hk : k ≤ t.length) :
    ∃ l rs' e, Wal.open_ ⟨s ++ t.take k, [], cap, true⟩ n (rs.take (Wal.cut rs (s.length + k))) (Frame.all (rs.take (Wal.cut rs (s.length + k)))).length = (l, 0) ∧
      replay c n (rs.take (Wal.cut rs (s.length + k))) = some e ∧ Good ⟨sl, l, e⟩ rs' n c ∧ l.dev.t = [] ∧ l.dev.cap = cap ∧
      ((l.next = n ∧ f + (Wal.cut rs (s.length + k) : Int) ≤ n) ∨ l.next = f + (Wal.cut rs (s.length + k) : Int)) := by
  obtain ⟨hsc, hnb⟩ := Wal.crash_scan h.log k hk
  obtain ⟨e, he⟩ := replay_take h.rep (Wal.cut rs (s.length + k))
  have hle := Wal.cut_le rs (s.length + k)
  have hfit := h.log.2.2.2
  have hlo := h.lo
  simp only at hfit hlo
  have hbf : 0 < (rs.take (Wal.cut rs (s.length + k))).length → Wal.base (rs.take (Wal.cut rs (s.length + k))) = f := fun h0 => by
    rw [List.length_take] at h0
    rw [Wal.base_take _ _ (by omega)]
    exact (hfit.2.1 (by omega)).symm
  obtain ⟨l, rs', h1, h2, h3, h4, h5⟩ := recover_gen h.op h.base hsc hnb (fun h0 => by rw [hbf h0]; exact hlo) he
  have hlen : (rs.take (Wal.cut rs (s.length + k))).length = Wal.cut rs (s.length + k) := by rw [List.length_take]; omega
  refine ⟨l, rs', e, h1, he, h2, h3, h4, ?_⟩
  rcases h5 with ⟨h5, h6⟩ | ⟨h5, h6, _⟩
  · refine .inl ⟨h5, ?_⟩
    rcases Nat.eq_zero_or_pos (Wal.cut rs (s.length + k)) with hz | hz
    · rw [hz]; simp only [Int.natCast_zero]; omega
    · have := h6 (by omega)
      rw [hbf (by omega), hlen] at this
      exact this
  · refine .inr ?_
    rw [h6, hbf h5, hlen]
/-- All of the log, on slots with the old base. -/
theorem recover_old {sl o : Slots.Sl} {s t : List UInt8} {cap f nx : Int} {cs : List Int} {rs : List Rec} {n : Int} {c : List Int} (h : Good ⟨sl, ⟨⟨s, t, cap, false⟩, f, nx⟩, cs⟩ rs n c) (hO : Slots.Op o) (hb : base o = some (n, c))
    {d : Disk.Dev} {u : Nat} (hs : IsScan (d.s ++ d.t) rs u) (hd : ¬ Disk.bad d) :
    ∃ l rs', Wal.open_ d n rs u = (l, 0) ∧ Good ⟨o, l, cs⟩ rs' n c ∧ l.next = nx ∧ l.dev.t = [] ∧ l.dev.cap = d.cap := by
  have hfit := h.log.2.2.2
  have hlo := h.lo
  have hhi := h.hi
  unfold Wal.Fits at hfit
  simp only at hfit hlo hhi
  obtain ⟨l, rs', h1, h2, h3, h4, h5⟩ := recover_gen hO hb hs hd (fun h0 => by rw [← hfit.2.1 h0]; exact hlo) h.rep
  refine ⟨l, rs', h1, h2, ?_, h3, h4⟩
  rcases h5 with ⟨h5, h6⟩ | ⟨h5, h6, _⟩
  · rcases Nat.eq_zero_or_pos rs.length with hz | hz
    · rw [hz] at hfit; simp only [Int.natCast_zero] at hfit; omega
    · have := h6 hz
      have := hfit.2.1 hz
      omega
  · have := hfit.2.1 h5
    omega
/-- All of the log, or none, on slots with the new base. -/
theorem recover_new {sl o : Slots.Sl} {s t : List UInt8} {cap f nx : Int} {cs : List Int} {rs : List Rec} {n : Int} {c : List Int} (h : Good ⟨sl, ⟨⟨s, t, cap, false⟩, f, nx⟩, cs⟩ rs n c) (hO : Slots.Op o) (hb : base o = some (nx, cs))
    {d : Disk.Dev} {rs0 : List Rec} {u : Nat} (hs : IsScan (d.s ++ d.t) rs0 u) (h0 : rs0 = rs ∨ rs0 = []) (hd : ¬ Disk.bad d) :
    ∃ l rs', Wal.open_ d nx rs0 u = (l, 0) ∧ Good ⟨o, l, cs⟩ rs' nx cs ∧ l.next = nx ∧ l.dev.t = [] ∧ l.dev.cap = d.cap := by
  have hfit := h.log.2.2.2
  unfold Wal.Fits at hfit
  simp only at hfit
  have hend : 0 < rs0.length → Wal.base rs0 + rs0.length ≤ nx := fun hp => by
    rcases h0 with rfl | rfl
    · have := hfit.2.1 hp; omega
    · exact absurd hp (by simp)
  obtain ⟨l, rs', h1, h2, h3, h4, h5⟩ := recover_gen hO hb hs hd (fun hp => by have := hend hp; omega) (replay_before hs.1 hend)
  refine ⟨l, rs', h1, h2, ?_, h3, h4⟩
  rcases h5 with ⟨h5, _⟩ | ⟨h5, h6, _⟩
  · exact h5
  · rcases h0 with rfl | rfl
    · have := hfit.2.1 h5; omega
    · exact absurd h5 (by simp)
/-- The base of slots after some steps of saving, a crash and opening. -/
theorem base_left {o : Slots.Sl} (h : Slots.Op o) {nx : Int} {cs : List Int} {n : Int} {c : List Int} (hb : base o = some (n, c)) (ha : Slots.asked o (point nx cs) = 0) (hc : cs.length = 8) (hs : State cs) (h0 : 0 ≤ nx) (h1 : nx ≤ 1000000000)
    {k keep : Int} {xs : List UInt8} (hl : Slots.left o (point nx cs) k keep xs) (i : Int) :
    (base (o.put ⟨xs, [], o.cur.cap, false⟩ o.oth i) = some (nx, cs) ∧ 2 ≤ k) ∨ (base (o.put ⟨xs, [], o.cur.cap, false⟩ o.oth i) = some (n, c) ∧ k ≤ 2) := by
  rcases Slots.survive h ha hl with ⟨h2, h3, _⟩ | ⟨h2, _, h3⟩
  · refine .inl ⟨?_, h3⟩
    unfold base
    rw [Slots.newest_put_num _ _ _ i 1, h2]
    exact unpoint_point hc hs h0 h1
  · refine .inr ⟨?_, h3⟩
    unfold base at hb ⊢
    rw [Slots.newest_put_num _ _ _ i 1, h2]
    exact hb
end Jour
end Go.Proofs.YthgcfjhnnhigoaaGreat
