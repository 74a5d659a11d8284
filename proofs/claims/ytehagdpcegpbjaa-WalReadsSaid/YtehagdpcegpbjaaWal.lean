/- Logs of records on a device: plain mathematics of layer 4. Own work. -/
import Derived.Test.YtehagdpcegpbjaaFrame
import Derived.Test.YtehagdpcegpbjaaDisk
set_option linter.unusedVariables false
namespace Go.Proofs.Ytehagdpcegpbjaa
namespace Wal
open Frame

structure Log where
  dev : Disk.Dev
  first : Int
  next : Int
def zero : Log := ⟨Disk.zero, 0, 0⟩

/-- The number of the first record. -/
def base : List Rec → Int
  | [] => 0
  | r :: _ => r.num

theorem num_at {l : List Rec} (h : Foll l) : ∀ i (hi : i < l.length), l[i].num = base l + i := by
  intro i
  induction i with
  | zero =>
    intro hi
    cases l with
    | nil => exact absurd hi (by simp)
    | cons r l => simp [base]
  | succ i ih =>
    intro hi
    have h1 := (h (i + 1) hi).2 (by omega)
    rw [h1]
    have h2 := ih (by omega)
    simp only [Nat.add_sub_cancel]
    rw [h2]
    omega
theorem base_rng {l : List Rec} (h : Foll l) (h0 : 0 < l.length) : 0 ≤ base l ∧ base l + l.length ≤ 1000000001 := by
  have a := (h 0 h0).1
  have b := (h (l.length - 1) (by omega)).1
  have ea := num_at h 0 h0
  have eb := num_at h (l.length - 1) (by omega)
  unfold Valid at a b
  omega
theorem foll_drop {l : List Rec} (h : Foll l) (k : Nat) : Foll (l.drop k) := by
  intro i hi
  have hi' : k + i < l.length := by simp at hi; omega
  rw [List.getElem_drop]
  refine ⟨(h _ hi').1, fun h0 => ?_⟩
  rw [List.getElem_drop]
  rw [(h _ hi').2 (by omega)]
  congr 3
  omega
theorem base_drop {l : List Rec} (h : Foll l) (k : Nat) (hk : k < l.length) : base (l.drop k) = base l + k := by
  have h1 := num_at (foll_drop h k) 0 (by simp; omega)
  rw [List.getElem_drop] at h1
  have h2 := num_at h (k + 0) (by omega)
  omega
theorem base_take (l : List Rec) (k : Nat) (hk : 0 < k) : base (l.take k) = base l := by
  cases l with
  | nil => simp
  | cons r l => cases k with
    | zero => omega
    | succ k => rfl
theorem base_snoc {l : List Rec} (r : Rec) (h : 0 < l.length) : base (l ++ [r]) = base l := by
  cases l with
  | nil => exact absurd h (by simp)
  | cons r l => rfl
theorem all_split (l : List Rec) (k : Nat) : all l = all (l.take k) ++ all (l.drop k) := by rw [← all_append, List.take_append_drop]
theorem take_mono (l : List Rec) {j k : Nat} (h : j ≤ k) : (all (l.take j)).length ≤ (all (l.take k)).length := by
  have := all_take_prefix (l.take k) j
  rw [List.take_take, Nat.min_eq_left h] at this
  exact this.length_le
theorem take_le (l : List Rec) (k : Nat) : (all (l.take k)).length ≤ (all l).length := (all_take_prefix l k).length_le
theorem all_len (l : List Rec) : 12 * l.length ≤ (all l).length := by
  induction l with
  | nil => simp
  | cons r l ih => rw [all_cons, List.length_append, enc_length, List.length_cons]; omega
theorem take_step (l : List Rec) (k : Nat) (h : k < l.length) : (all (l.take (k + 1))).length = (all (l.take k)).length + (12 + l[k].data.length) := by
  rw [all_take_succ l k h, List.length_append, enc_length]

/-- How many records are there as a whole among the first n bytes. -/
def cut : List Rec → Nat → Nat
  | [], _ => 0
  | r :: l, n => if 12 + r.data.length ≤ n then cut l (n - (12 + r.data.length)) + 1 else 0
theorem cut_le (l : List Rec) : ∀ n, cut l n ≤ l.length := by
  induction l with
  | nil => intro n; simp [cut]
  | cons r l ih =>
    intro n
    unfold cut
    split
    · have := ih (n - (12 + r.data.length)); simp; exact this
    · simp
theorem cut_in (l : List Rec) : ∀ n, (all (l.take (cut l n))).length ≤ n := by
  induction l with
  | nil => intro n; simp [cut, all_nil]
  | cons r l ih =>
    intro n
    unfold cut
    split
    · rename_i h
      have := ih (n - (12 + r.data.length))
      rw [List.take_succ_cons, all_cons, List.length_append, enc_length]; omega
    · simp [all_nil]
theorem cut_out (l : List Rec) : ∀ n, cut l n = l.length ∨ n < (all (l.take (cut l n + 1))).length := by
  induction l with
  | nil => intro n; exact .inl rfl
  | cons r l ih =>
    intro n
    unfold cut
    split
    · rename_i h
      rcases ih (n - (12 + r.data.length)) with h1 | h1
      · exact .inl (by rw [h1]; rfl)
      · right
        rw [List.take_succ_cons, all_cons, List.length_append, enc_length]; omega
    · rename_i h
      right
      rw [List.take_succ_cons, all_cons, List.length_append, enc_length]; omega
theorem le_cut {l : List Rec} {n k : Nat} (hk : k ≤ l.length) (h : (all (l.take k)).length ≤ n) : k ≤ cut l n := by
  rcases Nat.lt_or_ge (cut l n) k with h1 | h1
  · rcases cut_out l n with h2 | h2
    · omega
    · have := take_mono l (show cut l n + 1 ≤ k from h1); omega
  · exact h1
theorem cut_eq {l : List Rec} {n k : Nat} (hk : k ≤ l.length) (h : (all (l.take k)).length ≤ n) (h2 : k = l.length ∨ n < (all (l.take (k + 1))).length) : cut l n = k := by
  have h1 := le_cut hk h
  rcases h2 with h2 | h2
  · have := cut_le l n; omega
  · rcases Nat.lt_or_ge k (cut l n) with h3 | h3
    · have := take_mono l (show k + 1 ≤ cut l n from h3); have := cut_in l n; omega
    · omega
theorem cut_mono (l : List Rec) {n m : Nat} (h : n ≤ m) : cut l n ≤ cut l m := le_cut (cut_le l n) (Nat.le_trans (cut_in l n) h)
theorem cut_all (l : List Rec) : cut l (all l).length = l.length := cut_eq (Nat.le_refl _) (by rw [List.take_length]; exact Nat.le_refl _) (.inl rfl)
theorem scan_cut {l : List Rec} (hF : Foll l) (n : Nat) (hn : n ≤ (all l).length) : IsScan ((all l).take n) (l.take (cut l n)) (all (l.take (cut l n))).length :=
  scan_torn hF n (cut l n) (cut_le l n) hn (cut_in l n) (cut_out l n)
theorem scan_full {l : List Rec} (h : Foll l) : IsScan (all l) l (all l).length := ⟨h, rfl, List.prefix_refl _, fun r hr => absurd hr (no_short (by simp) r)⟩

/-- First and Next are those of the records. -/
def Fits (rs : List Rec) (f n : Int) : Prop := n = f + rs.length ∧ (0 < rs.length → f = base rs) ∧ 0 ≤ f ∧ f ≤ 1000000001
/-- A valid log with the records rs. -/
def Good (l : Log) (rs : List Rec) : Prop := Disk.up l.dev = 0 ∧ Foll rs ∧ l.dev.s ++ l.dev.t = all rs ∧ Fits rs l.first l.next

theorem scan_count {n : Nat} {b : List UInt8} {l : List Rec} {u : Nat} (h : IsScan b l u) (hn : l.length = n) (hb : b.length ≤ 20000) : n ≤ 20000 := by
  have h1 := all_len l
  have h2 := h.2.2.1.length_le
  omega
theorem scan_exists (b : List UInt8) : ∃ l u, IsScan b l u := by
  have key : ∀ k (l : List Rec), Foll l → all l <+: b → b.length - (all l).length ≤ k → ∃ m u, IsScan b m u := by
    intro k
    induction k with
    | zero =>
      intro l hF hp hk
      refine ⟨l, _, hF, rfl, hp, fun r hr _ => no_short ?_ r hr⟩
      have := hp.length_le
      simp; omega
    | succ k ih =>
      intro l hF hp hk
      by_cases h : ∃ r, Pre r (b.drop (all l).length) ∧ Next l r
      · obtain ⟨r, hr, hn⟩ := h
        have h1 := (pre_facts hr).1
        simp at h1
        refine ih (l ++ [r]) (foll_snoc hF hr.1 hn) ?_ ?_
        · obtain ⟨t, rfl⟩ := hp
          obtain ⟨s, hs⟩ := hr.2
          rw [List.drop_left' rfl] at hs
          exact ⟨s, by rw [all_append, all_one, List.append_assoc, hs]⟩
        · rw [all_append, all_one, List.length_append, enc_length]; omega
      · exact ⟨l, _, hF, rfl, hp, fun r hr hn => h ⟨r, hr, hn⟩⟩
  exact key _ [] foll_nil List.nil_prefix (Nat.le_refl _)

section
variable {l : Log} {rs : List Rec} {d : Disk.Dev} {s t : List UInt8} {cap f n : Int} {dn : Bool} {u : Nat}
theorem Good.scan (h : Good l rs) : IsScan (l.dev.s ++ l.dev.t) rs (l.dev.s ++ l.dev.t).length := by rw [h.2.2.1]; exact scan_full h.2.1
theorem good_of (hs : IsScan (s ++ t) rs u) (hu : Disk.up ⟨s, t, cap, dn⟩ = 0) (hl : u = (s ++ t).length) (hf : Fits rs f n) : Good ⟨⟨s, t, cap, dn⟩, f, n⟩ rs := by
  refine ⟨hu, hs.1, ?_, hf⟩
  have h1 := (scan_back hs).1
  rw [hl, List.take_length] at h1
  exact h1.symm
theorem no_good_up (hu : Disk.up l.dev ≠ 0) : ∀ rs, ¬ Good l rs := fun _ h => hu h.1
theorem no_good (hs : IsScan (s ++ t) rs u) (h : u ≠ (s ++ t).length ∨ ¬ Fits rs f n) : ∀ rs', ¬ Good ⟨⟨s, t, cap, dn⟩, f, n⟩ rs' := by
  intro rs' hg
  obtain ⟨rfl, hu⟩ := scan_unique hs hg.scan
  rcases h with h | h
  · exact h hu
  · exact h hg.2.2.2
theorem Good.unique {rs' : List Rec} (h : Good l rs) (k : Good l rs') : rs = rs' := (scan_unique h.scan k.scan).1
/-- What a log's records are, if it is valid. -/
def Is (l : Log) (g : Option (List Rec)) : Prop := match g with
  | none => ∀ rs, ¬ Good l rs
  | some rs => Good l rs
theorem is_exists (l : Log) : ∃ g, Is l g := by
  by_cases h : ∃ rs, Good l rs
  · obtain ⟨rs, h⟩ := h; exact ⟨some rs, h⟩
  · exact ⟨none, fun rs hr => h ⟨rs, hr⟩⟩
theorem Good.isUp (h : Good l rs) : l.dev.down = false := (Disk.up_zero h.1).2
theorem Good.nb (h : Good l rs) : ¬ Disk.bad l.dev := (Disk.up_zero h.1).1
theorem Good.room (h : Good l rs) : 0 ≤ l.dev.cap ∧ l.dev.cap ≤ 20000 ∧ (l.dev.size : Int) ≤ l.dev.cap := Disk.size_le h.nb
theorem Good.len (h : Good l rs) : l.dev.s.length + l.dev.t.length = (all rs).length := by rw [← h.2.2.1, List.length_append]
theorem Good.count (h : Good l rs) : 12 * rs.length ≤ 20000 := by
  have h1 := all_len rs
  have h2 := h.len
  have h3 := h.room
  unfold Disk.Dev.size at h3
  omega
theorem Good.rng (h : Good l rs) : 0 ≤ l.first ∧ l.first ≤ 1000000001 ∧ l.first ≤ l.next ∧ l.next ≤ 1000000001 := by
  obtain ⟨_, hF, _, h1, h2, h3, h4⟩ := h
  rcases Nat.eq_zero_or_pos rs.length with h0 | h0
  · omega
  · have := base_rng hF h0
    have := h2 h0
    omega
theorem Good.synced (h : Good l rs) : IsScan l.dev.s (rs.take (cut rs l.dev.s.length)) (all (rs.take (cut rs l.dev.s.length))).length := by
  have h1 := scan_cut h.2.1 l.dev.s.length (by have := h.len; omega)
  rw [← h.2.2.1, List.take_left' rfl] at h1
  exact h1
theorem up_mk (h0 : 0 ≤ cap) (h1 : cap ≤ 20000) (h2 : (s.length : Int) + t.length ≤ cap) : Disk.up ⟨s, t, cap, false⟩ = 0 := by
  refine Disk.up_ok ?_ rfl
  rw [Disk.bad_iff]
  rintro (h | h | h | ⟨h, _⟩)
  · omega
  · omega
  · omega
  · cases h
theorem up_iff : Disk.up ⟨s, t, cap, false⟩ = 0 ↔ 0 ≤ cap ∧ cap ≤ 20000 ∧ (s.length : Int) + t.length ≤ cap := by
  constructor
  · intro h
    have h1 := Disk.size_le (Disk.up_zero h).1
    simp only [Disk.Dev.size] at h1
    omega
  · intro h; exact up_mk h.1 h.2.1 h.2.2

theorem good_sync (h : Good ⟨⟨s, t, cap, false⟩, f, n⟩ rs) : Good ⟨⟨s ++ t, [], cap, false⟩, f, n⟩ rs := by
  obtain ⟨h1, h2, h3, h4⟩ := h
  refine ⟨?_, h2, by simpa using h3, h4⟩
  rw [up_iff] at h1 ⊢
  simp
  omega
theorem good_append (h : Good ⟨⟨s, t, cap, false⟩, f, n⟩ rs) (b : List UInt8) (hb : b.length ≤ 1000) (hn : n ≤ 1000000000) (hr : (s.length : Int) + t.length + (12 + b.length) ≤ cap) :
    Good ⟨⟨s, t ++ enc ⟨n, b⟩, cap, false⟩, f, n + 1⟩ (rs ++ [⟨n, b⟩]) := by
  have hg := h.rng
  obtain ⟨h1, h2, h3, h4, h5, h6, h7⟩ := h
  simp only at h1 h3 h4 h5 h6 h7 hg
  refine ⟨?_, ?_, ?_, ?_, ?_, h6, h7⟩
  · rw [up_iff] at h1 ⊢
    rw [List.length_append, enc_length]
    simp only
    omega
  · refine foll_snoc h2 ⟨by simp only; omega, hn, hb⟩ ?_
    intro h0
    have := num_at h2 (rs.length - 1) (by omega)
    rw [this]
    have := h5 h0
    simp only
    omega
  · rw [all_append, all_one, ← List.append_assoc, h3]
  · simp only [List.length_append, List.length_cons, List.length_nil]; omega
  · intro _
    rcases Nat.eq_zero_or_pos rs.length with h0 | h0
    · have : rs = [] := List.eq_nil_of_length_eq_zero h0
      subst this
      simp only [List.nil_append, base]
      simp at h4
      omega
    · rw [base_snoc _ h0]; exact h5 h0
theorem good_drop (h : Good ⟨⟨s, t, cap, false⟩, f, n⟩ rs) (j : Nat) (hj : j ≤ cut rs s.length) :
    Good ⟨⟨s.drop (all (rs.take j)).length, t, cap, false⟩, f + j, n⟩ (rs.drop j) := by
  have hjr : j ≤ rs.length := Nat.le_trans hj (cut_le _ _)
  have hg := h.rng
  have hlen := h.len
  have hin : (all (rs.take j)).length ≤ s.length := Nat.le_trans (take_mono rs hj) (cut_in rs s.length)
  obtain ⟨h1, h2, h3, h4, h5, h6, h7⟩ := h
  simp only at h1 h3 h4 h5 h6 h7 hg hlen
  refine ⟨?_, foll_drop h2 j, ?_, ?_, ?_, ?_, ?_⟩
  · rw [up_iff] at h1 ⊢
    simp only [List.length_drop]
    omega
  · simp only
    rw [all_split rs j] at h3
    have h8 := congrArg (List.drop (all (rs.take j)).length) h3
    rw [List.drop_append_of_le_length hin, List.drop_left' rfl] at h8
    exact h8
  · simp only [List.length_drop]; omega
  · intro h0
    simp only [List.length_drop] at h0
    rw [base_drop h2 j (by omega)]
    have := h5 (by omega)
    simp only
    omega
  · simp only; omega
  · simp only; omega
end

/-! What each function comes to; g tells the records of a log, if it is valid. -/
def check (g : Option (List Rec)) : Int := match g with
  | none => 8
  | some _ => 0
def open_ (d : Disk.Dev) (n : Int) (rs : List Rec) (u : Nat) : Log × Int :=
  if Disk.bad d then (zero, 8) else if n < 0 ∨ 1000000000 < n then (zero, 2)
  else if rs.length = 0 ∨ base rs + rs.length < n then (⟨⟨[], [], d.cap, false⟩, n, n⟩, 0)
  else (⟨⟨(d.s ++ d.t).take u, [], d.cap, false⟩, base rs, base rs + rs.length⟩, 0)
def append (l : Log) (b : List UInt8) (g : Option (List Rec)) : Log × Int × Int := match g with
  | none => (zero, 0, 8)
  | some _ => if 1000 < b.length then (zero, 0, 4) else if 1000000000 < l.next then (zero, 0, 2)
    else if l.dev.cap - l.dev.size < 12 + b.length then (zero, 0, 18)
    else (⟨⟨l.dev.s, l.dev.t ++ enc ⟨l.next, b⟩, l.dev.cap, false⟩, l.first, l.next + 1⟩, l.next, 0)
def sync (l : Log) (g : Option (List Rec)) : Log × Int := match g with
  | none => (zero, 8)
  | some _ => (⟨⟨l.dev.s ++ l.dev.t, [], l.dev.cap, false⟩, l.first, l.next⟩, 0)
def synced (l : Log) (g : Option (List Rec)) : Int × Int := match g with
  | none => (0, 8)
  | some rs => (l.first + cut rs l.dev.s.length, 0)
def records (l : Log) (m : Int) (g : Option (List Rec)) : List Rec × Int := match g with
  | none => ([], 8)
  | some rs => if m < l.first ∨ l.next < m then ([], 2) else (rs.drop (m - l.first).toNat, 0)
def drop (l : Log) (m : Int) (g : Option (List Rec)) : Log × Int := match g with
  | none => (zero, 8)
  | some rs => if m < l.first ∨ l.next < m then (zero, 2) else if l.first + cut rs l.dev.s.length < m then (zero, 32)
    else (⟨⟨l.dev.s.drop (all (rs.take (m - l.first).toNat)).length, l.dev.t, l.dev.cap, false⟩, m, l.next⟩, 0)
def crash (l : Log) (k : Int) (g : Option (List Rec)) : Disk.Dev × Int := match g with
  | none => (Disk.zero, 8)
  | some _ => Disk.crash l.dev k
end Wal
end Go.Proofs.Ytehagdpcegpbjaa
