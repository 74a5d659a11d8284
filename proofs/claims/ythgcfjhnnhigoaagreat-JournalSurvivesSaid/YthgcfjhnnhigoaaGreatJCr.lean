/- What a crash of a good journal leaves, and what recovery makes of it: plain mathematics. Own work. -/
import Derived.Test.YthgcfjhnnhigoaaGreatGH
import Derived.Test.YthgcfjhnnhigoaaGreatJour3
set_option linter.unusedVariables false
set_option linter.ambiguousOpen false
namespace Go.Proofs.YthgcfjhnnhigoaaGreat
namespace Jour
open Frame (Rec Foll IsScan enc)

theorem crash_no18 (d : Disk.Dev) (k : Int) : (Disk.crash d k).2 ≠ 18 := by
  unfold Disk.crash
  split
  · show Disk.up d ≠ 18
    unfold Disk.up
    split
    · decide
    · split <;> decide
  · split <;> simp
theorem half_no18 {o : Slots.Sl} {b : List UInt8} {k keep : Int} (ha : Slots.asked o b = 0) : (Slots.half o b k keep).2 ≠ 18 := by
  unfold Slots.half
  rw [if_neg (by rw [ha]; simp)]
  split
  · simp
  · split
    · exact crash_no18 _ _
    · simp
/-- Slots whose devices are down. -/
def dn (o : Slots.Sl) : Slots.Sl := ⟨⟨o.a.s, [], o.a.cap, true⟩, ⟨o.b.s, [], o.b.cap, true⟩, o.n⟩
theorem open_dn {o : Slots.Sl} (h : Slots.Op o) : Slots.open_ (dn o) = (o, 0) := by
  obtain ⟨hg, hn⟩ := h
  have n1 : ¬ Disk.bad ⟨o.a.s, [], o.a.cap, true⟩ := by
    rw [Disk.bad_iff]; have := hg.a.cap0; have := hg.a.cap1; have := hg.a.fits; simp; omega
  have n2 : ¬ Disk.bad ⟨o.b.s, [], o.b.cap, true⟩ := by
    rw [Disk.bad_iff]; have := hg.b.cap0; have := hg.b.cap1; have := hg.b.fits; simp; omega
  have e1 : Slots.op ⟨o.a.s, [], o.a.cap, true⟩ = o.a := by
    conv => rhs; rw [hg.a.eq]
    unfold Slots.op; simp
  have e2 : Slots.op ⟨o.b.s, [], o.b.cap, true⟩ = o.b := by
    conv => rhs; rw [hg.b.eq]
    unfold Slots.op; simp
  unfold Slots.open_ Slots.opened dn
  rw [if_neg (by rintro (k | k); exact n1 k; exact n2 k)]
  simp only
  rw [e1, e2]
  show ((⟨o.a, o.b, Slots.nextOf (Slots.newest o)⟩ : Slots.Sl), (0 : Int)) = (o, 0)
  rw [← hn]
theorem dcrash {s t : List UInt8} {cap : Int} (hu : Disk.up ⟨s, t, cap, false⟩ = 0) (k : Int) :
    Disk.crash ⟨s, t, cap, false⟩ k = if k < 0 ∨ (t.length : Int) < k then (Disk.zero, 2) else (⟨s ++ t.take k.toNat, [], cap, true⟩, 0) := by
  unfold Disk.crash
  rw [if_neg (by rw [hu]; simp)]

section
variable {sl : Slots.Sl} {s t : List UInt8} {cap f nx : Int} {cs : List Int} {rs : List Rec} {n : Int} {c : List Int}
theorem Good.upLog (h : Good ⟨sl, ⟨⟨s, t, cap, false⟩, f, nx⟩, cs⟩ rs n c) : Disk.up ⟨s, t, cap, false⟩ = 0 := h.log.1
theorem Good.upSync (h : Good ⟨sl, ⟨⟨s, t, cap, false⟩, f, nx⟩, cs⟩ rs n c) : Disk.up ⟨s ++ t, [], cap, false⟩ = 0 := (good_synced h).log.1
theorem Good.upNone (h : Good ⟨sl, ⟨⟨s, t, cap, false⟩, f, nx⟩, cs⟩ rs n c) : Disk.up ⟨[], [], cap, false⟩ = 0 := by
  have hr := h.log.room
  simp only [Disk.Dev.size] at hr
  exact Wal.up_mk hr.1 hr.2.1 (by simp; omega)
theorem crash_of (h : Good ⟨sl, ⟨⟨s, t, cap, false⟩, f, nx⟩, cs⟩ rs n c) {k keep : Int} (h0 : 0 ≤ k) (h5 : k ≤ 5) :
    crashM ⟨sl, ⟨⟨s, t, cap, false⟩, f, nx⟩, cs⟩ k keep (some rs) =
      if (crashS ⟨sl, ⟨⟨s, t, cap, false⟩, f, nx⟩, cs⟩ k keep).2 ≠ 0 then (JX.zero, (crashS ⟨sl, ⟨⟨s, t, cap, false⟩, f, nx⟩, cs⟩ k keep).2)
      else crashL ⟨sl, ⟨⟨s, t, cap, false⟩, f, nx⟩, cs⟩ k (if 1 < k then 0 else keep) (crashS ⟨sl, ⟨⟨s, t, cap, false⟩, f, nx⟩, cs⟩ k keep).1 := by
  have h1 := check_of_good (x := ⟨sl, ⟨⟨s, t, cap, false⟩, f, nx⟩, cs⟩) h
  unfold crashM
  rw [h1, if_neg (by simp), if_neg (by omega)]
  rfl
theorem crash_stage (h : Good ⟨sl, ⟨⟨s, t, cap, false⟩, f, nx⟩, cs⟩ rs n c) {k keep : Int} (hk : k < 0 ∨ 5 < k) :
    crashM ⟨sl, ⟨⟨s, t, cap, false⟩, f, nx⟩, cs⟩ k keep (some rs) = (JX.zero, 2) := by
  have h1 := check_of_good (x := ⟨sl, ⟨⟨s, t, cap, false⟩, f, nx⟩, cs⟩) h
  unfold crashM
  rw [h1, if_neg (by simp), if_pos hk]
theorem crash_0 (h : Good ⟨sl, ⟨⟨s, t, cap, false⟩, f, nx⟩, cs⟩ rs n c) (keep : Int) :
    crashM ⟨sl, ⟨⟨s, t, cap, false⟩, f, nx⟩, cs⟩ 0 keep (some rs) = if keep < 0 ∨ (t.length : Int) < keep then (JX.zero, 2) else (⟨dn sl, ⟨⟨s ++ t.take keep.toNat, [], cap, true⟩, f, nx⟩, zeros⟩, 0) := by
  rw [crash_of h (by decide) (by decide), crashS_low (by decide) h.op.1, if_neg (by simp), if_neg (by decide)]
  unfold crashL
  rw [show (logAt ⟨⟨s, t, cap, false⟩, f, nx⟩ 0) = ⟨⟨s, t, cap, false⟩, f, nx⟩ from if_pos (by decide)]
  simp only
  rw [dcrash h.upLog]
  by_cases hk : keep < 0 ∨ (t.length : Int) < keep
  · rw [if_pos hk, if_pos hk]; rfl
  · rw [if_neg hk, if_neg hk]; rfl
theorem crash_1 (h : Good ⟨sl, ⟨⟨s, t, cap, false⟩, f, nx⟩, cs⟩ rs n c) (keep : Int) :
    crashM ⟨sl, ⟨⟨s, t, cap, false⟩, f, nx⟩, cs⟩ 1 keep (some rs) = if keep ≠ 0 then (JX.zero, 2) else (⟨dn sl, ⟨⟨s ++ t, [], cap, true⟩, f, nx⟩, zeros⟩, 0) := by
  rw [crash_of h (by decide) (by decide), crashS_low (by decide) h.op.1, if_neg (by simp), if_neg (by decide)]
  unfold crashL
  rw [show (logAt ⟨⟨s, t, cap, false⟩, f, nx⟩ 1) = ⟨⟨s ++ t, [], cap, false⟩, f, nx⟩ from (if_neg (by decide)).trans (if_pos (by decide))]
  simp only
  rw [dcrash h.upSync]
  by_cases hk : keep = 0
  · subst hk
    rw [if_neg (by simp), if_neg (by simp)]
    simp only [List.take_nil, List.append_nil]
    rfl
  · have hb : keep < 0 ∨ ((([] : List UInt8).length : Nat) : Int) < keep := by simp; omega
    rw [if_pos hb, if_pos hk]; rfl
/-- The log behind a stage from 2 on. -/
def late (s t : List UInt8) (cap f nx k : Int) : Wal.Log := if k < 5 then ⟨⟨s ++ t, [], cap, true⟩, f, nx⟩ else ⟨⟨[], [], cap, true⟩, nx, nx⟩
theorem crash_2 (h : Good ⟨sl, ⟨⟨s, t, cap, false⟩, f, nx⟩, cs⟩ rs n c) {k keep : Int} (h2 : 1 < k) (h5 : k ≤ 5) :
    crashM ⟨sl, ⟨⟨s, t, cap, false⟩, f, nx⟩, cs⟩ k keep (some rs) =
      if (Slots.half sl (point nx cs) (min k 4 - 1) keep).2 ≠ 0 then (JX.zero, (Slots.half sl (point nx cs) (min k 4 - 1) keep).2)
      else (⟨(Slots.half sl (point nx cs) (min k 4 - 1) keep).1, late s t cap f nx k, zeros⟩, 0) := by
  have hS : crashS ⟨sl, ⟨⟨s, t, cap, false⟩, f, nx⟩, cs⟩ k keep = Slots.half sl (point nx cs) (min k 4 - 1) keep := if_pos h2
  rw [crash_of h (by omega) h5, hS, if_pos h2]
  by_cases he : (Slots.half sl (point nx cs) (min k 4 - 1) keep).2 ≠ 0
  · rw [if_pos he, if_pos he]
  rw [if_neg he, if_neg he]
  unfold crashL late
  by_cases h4 : k < 5
  · rw [show (logAt ⟨⟨s, t, cap, false⟩, f, nx⟩ k) = ⟨⟨s ++ t, [], cap, false⟩, f, nx⟩ from (if_neg (by omega)).trans (if_pos h4), if_pos h4]
    simp only
    rw [dcrash h.upSync, if_neg (by simp)]
    simp only [List.take_nil, List.append_nil]
    rfl
  · rw [show (logAt ⟨⟨s, t, cap, false⟩, f, nx⟩ k) = ⟨⟨[], [], cap, false⟩, nx, nx⟩ from (if_neg (by omega)).trans (if_neg h4), if_neg h4]
    simp only
    rw [dcrash h.upNone, if_neg (by simp)]
    rfl

/-- What recovery finds of a journal. -/
structure Back (y : JX) (cap : Int) (o : Slots.Sl) (l : Wal.Log) (e : List Int) (rs0 rs' : List Rec) (u : Nat) (m : Int) (c' : List Int) : Prop where
  op : Slots.open_ y.s = (o, 0)
  scan : IsScan (y.l.dev.s ++ y.l.dev.t) rs0 u
  lop : Wal.open_ y.l.dev m rs0 u = (l, 0)
  good : Good ⟨o, l, e⟩ rs' m c'
  tail : l.dev.t = []
  cap : l.dev.cap = cap
theorem back_0 (h : Good ⟨sl, ⟨⟨s, t, cap, false⟩, f, nx⟩, cs⟩ rs n c) (k : Nat) (hk : k ≤ t.length) :
    ∃ l rs' e, Back ⟨dn sl, ⟨⟨s ++ t.take k, [], cap, true⟩, f, nx⟩, zeros⟩ cap sl l e (rs.take (Wal.cut rs (s.length + k))) rs' (Frame.all (rs.take (Wal.cut rs (s.length + k)))).length n c ∧
      replay c n (rs.take (Wal.cut rs (s.length + k))) = some e ∧ ((l.next = n ∧ f + (Wal.cut rs (s.length + k) : Int) ≤ n) ∨ l.next = f + (Wal.cut rs (s.length + k) : Int)) := by
  obtain ⟨l, rs', e, h1, h2, h3, h4, h5, h6⟩ := recover_cut h k hk
  exact ⟨l, rs', e, ⟨open_dn h.op, (Wal.crash_scan h.log k hk).1, h1, h3, h4, h5⟩, h2, h6⟩
theorem not_bad_sync (h : Good ⟨sl, ⟨⟨s, t, cap, false⟩, f, nx⟩, cs⟩ rs n c) : ¬ Disk.bad ⟨s ++ t, [], cap, true⟩ := by
  have hr := h.log.room
  simp only [Disk.Dev.size] at hr
  rw [Disk.bad_iff]
  simp only [List.length_append, List.length_nil]
  omega
theorem not_bad_none (h : Good ⟨sl, ⟨⟨s, t, cap, false⟩, f, nx⟩, cs⟩ rs n c) : ¬ Disk.bad ⟨[], [], cap, true⟩ := by
  have hr := h.log.room
  simp only [Disk.Dev.size] at hr
  rw [Disk.bad_iff]
  simp only [List.length_nil]
  omega
theorem scan_sync (h : Good ⟨sl, ⟨⟨s, t, cap, false⟩, f, nx⟩, cs⟩ rs n c) : IsScan ((s ++ t) ++ []) rs (s ++ t).length := by
  rw [List.append_nil]
  exact h.log.scan
theorem scan_none : IsScan (([] : List UInt8) ++ []) [] 0 := by
  rw [List.append_nil]
  exact Wal.scan_full Frame.foll_nil
theorem back_1 (h : Good ⟨sl, ⟨⟨s, t, cap, false⟩, f, nx⟩, cs⟩ rs n c) :
    ∃ l rs', Back ⟨dn sl, ⟨⟨s ++ t, [], cap, true⟩, f, nx⟩, zeros⟩ cap sl l cs rs rs' (s ++ t).length n c ∧ l.next = nx := by
  obtain ⟨l, rs', h1, h2, h3, h4, h5⟩ := recover_old h h.op h.base (d := ⟨s ++ t, [], cap, true⟩) (scan_sync h) (not_bad_sync h)
  exact ⟨l, rs', ⟨open_dn h.op, scan_sync h, h1, h2, h4, h5⟩, h3⟩
theorem back_2 (h : Good ⟨sl, ⟨⟨s, t, cap, false⟩, f, nx⟩, cs⟩ rs n c) (ha : Slots.asked sl (point nx cs) = 0) (h1 : nx ≤ 1000000000) {k keep : Int} (h2 : 1 < k) (h5 : k ≤ 5)
    {y : JX} {er : Int} (hy : (y, er) = crashM ⟨sl, ⟨⟨s, t, cap, false⟩, f, nx⟩, cs⟩ k keep (some rs)) :
    er = 2 ∨ er = 0 ∧ ∃ o l rs0 rs' u m c', Back y cap o l cs rs0 rs' u m c' ∧ l.next = nx := by
  rw [crash_2 h h2 h5] at hy
  have hst := h.state
  have hco := h.count
  have hr := h.log.rng
  simp only at hst hr
  by_cases he : (Slots.half sl (point nx cs) (min k 4 - 1) keep).2 = 0
  · rw [if_neg (by simpa using he)] at hy
    obtain ⟨rfl, rfl⟩ := Prod.mk.inj hy
    refine .inr ⟨rfl, ?_⟩
    rcases Slots.half_cases h.op.1 (by rw [point_length nx cs hst.2]; decide) (show ((Slots.half sl (point nx cs) (min k 4 - 1) keep).1, (Slots.half sl (point nx cs) (min k 4 - 1) keep).2) = _ from rfl) with k1 | ⟨_, _, xs, hl, hx, hp⟩
    · omega
    have hop := Slots.open_left h.op.1 hx
    have hG := Slots.left_good h.op.1 hx 1 (by decide) (by decide)
    have hO := Slots.op_of hG.a hG.b
    have hn := Slots.next_lo (s := sl.put ⟨xs, [], sl.cur.cap, false⟩ sl.oth 1)
    have hbs := base_left h.op h.base ha hst.2 hst.1 (by omega) h1 hl 1
    rw [← hp] at hop
    unfold late
    by_cases h4 : k < 5
    · rw [if_pos h4]
      rcases hbs with ⟨hb, _⟩ | ⟨hb, _⟩
      · obtain ⟨l, rs', q1, q2, q3, q4, q5⟩ := recover_new h hO hb (d := ⟨s ++ t, [], cap, true⟩) (scan_sync h) (.inl rfl) (not_bad_sync h)
        exact ⟨_, l, rs, rs', _, nx, cs, ⟨hop, scan_sync h, q1, q2, q4, q5⟩, q3⟩
      · obtain ⟨l, rs', q1, q2, q3, q4, q5⟩ := recover_old h hO hb (d := ⟨s ++ t, [], cap, true⟩) (scan_sync h) (not_bad_sync h)
        exact ⟨_, l, rs, rs', _, n, c, ⟨hop, scan_sync h, q1, q2, q4, q5⟩, q3⟩
    · rw [if_neg h4]
      rcases hbs with ⟨hb, _⟩ | ⟨_, hk⟩
      · obtain ⟨l, rs', q1, q2, q3, q4, q5⟩ := recover_new h hO hb (d := ⟨[], [], cap, true⟩) scan_none (.inr rfl) (not_bad_none h)
        exact ⟨_, l, [], rs', _, nx, cs, ⟨hop, scan_none, q1, q2, q4, q5⟩, q3⟩
      · omega
  · rw [if_pos he] at hy
    obtain ⟨_, rfl⟩ := Prod.mk.inj hy
    rcases Slots.half_cases h.op.1 (by rw [point_length nx cs hst.2]; decide) (show ((Slots.half sl (point nx cs) (min k 4 - 1) keep).1, (Slots.half sl (point nx cs) (min k 4 - 1) keep).2) = _ from rfl) with k1 | ⟨k1, _⟩
    · have := half_no18 (k := min k 4 - 1) (keep := keep) ha
      exact .inl (by omega)
    · exact absurd k1 he
/-- A crash at any stage, and recovery. -/
theorem crash_back (h : Good ⟨sl, ⟨⟨s, t, cap, false⟩, f, nx⟩, cs⟩ rs n c) (ha : Slots.asked sl (point nx cs) = 0) (h1 : nx ≤ 1000000000) {k keep : Int}
    {y : JX} {er : Int} (hy : (y, er) = crashM ⟨sl, ⟨⟨s, t, cap, false⟩, f, nx⟩, cs⟩ k keep (some rs)) :
    er = 2 ∨ er = 0 ∧ ∃ o l e rs0 rs' u m c', Back y cap o l e rs0 rs' u m c' ∧
      ((k = 0 ∧ 0 ≤ keep ∧ keep ≤ t.length ∧ m = n ∧ replay c n (rs.take (Wal.cut rs (s.length + keep.toNat))) = some e ∧ ((l.next = n ∧ f + (Wal.cut rs (s.length + keep.toNat) : Int) ≤ n) ∨ l.next = f + (Wal.cut rs (s.length + keep.toNat) : Int))) ∨
       (1 ≤ k ∧ e = cs ∧ l.next = nx)) := by
  by_cases hk : k < 0 ∨ 5 < k
  · rw [crash_stage h hk] at hy
    exact .inl (Prod.mk.inj hy).2
  by_cases hk0 : k = 0
  · subst hk0
    rw [crash_0 h] at hy
    split at hy
    · exact .inl (Prod.mk.inj hy).2
    · rename_i hr
      obtain ⟨rfl, rfl⟩ := Prod.mk.inj hy
      obtain ⟨l, rs', e, q1, q2, q3⟩ := back_0 h keep.toNat (by omega)
      exact .inr ⟨rfl, sl, l, e, _, rs', _, n, c, q1, .inl ⟨rfl, by omega, by omega, rfl, q2, q3⟩⟩
  by_cases hk1 : k = 1
  · subst hk1
    rw [crash_1 h] at hy
    split at hy
    · exact .inl (Prod.mk.inj hy).2
    · obtain ⟨rfl, rfl⟩ := Prod.mk.inj hy
      obtain ⟨l, rs', q1, q2⟩ := back_1 h
      exact .inr ⟨rfl, sl, l, cs, rs, rs', _, n, c, q1, .inr ⟨by decide, rfl, q2⟩⟩
  · rcases back_2 h ha h1 (by omega) (by omega) hy with e | ⟨e, o, l, rs0, rs', u, m, c', q1, q2⟩
    · exact .inl e
    · exact .inr ⟨e, o, l, cs, rs0, rs', u, m, c', q1, .inr ⟨by omega, rfl, q2⟩⟩
end
end Jour
end Go.Proofs.YthgcfjhnnhigoaaGreat
