/- The steps of a good journal, by its value as a whole: plain mathematics. Own work. -/
import Derived.Test.YthgcfjhnnhigoaaGreatJCr
import Derived.Test.YthgcfjhnnhigoaaGreatSMathA
set_option linter.unusedVariables false
set_option linter.ambiguousOpen false
namespace Go.Proofs.YthgcfjhnnhigoaaGreat
namespace Jour
open Frame (Rec Foll IsScan enc)

/-- A good journal, its records and its base. -/
def GoodX (x : JX) (rs : List Rec) (n : Int) (c : List Int) : Prop := Good (JXj x) rs n c
theorem GoodX.flat {x : JX} {rs : List Rec} {n : Int} {c : List Int} (h : GoodX x rs n c) :
    ∃ sl s t cap f nx cs, x = ⟨sl, ⟨⟨s, t, cap, false⟩, f, nx⟩, cs⟩ ∧ Good ⟨sl, ⟨⟨s, t, cap, false⟩, f, nx⟩, cs⟩ rs n c := by
  obtain ⟨sl, ⟨⟨s, t, cap, d⟩, f, nx⟩, cs⟩ := x
  have hu : d = false := Wal.Good.isUp h.log
  subst hu
  exact ⟨sl, s, t, cap, f, nx, cs, rfl, h⟩
def stDo (x : JX) (m : Move) : JX := ⟨x.s, ⟨⟨x.l.dev.s, x.l.dev.t ++ enc ⟨x.l.next, written m⟩, x.l.dev.cap, false⟩, x.l.first, x.l.next + 1⟩, bump x.c m⟩
def stSync (x : JX) : JX := ⟨x.s, ⟨⟨x.l.dev.s ++ x.l.dev.t, [], x.l.dev.cap, false⟩, x.l.first, x.l.next⟩, x.c⟩
def stSave (x : JX) : JX := ⟨x.s.put ⟨enc ⟨x.s.n, point x.l.next x.c⟩, [], x.s.cur.cap, false⟩ x.s.oth (x.s.n + 1), ⟨⟨[], [], x.l.dev.cap, false⟩, x.l.next, x.l.next⟩, x.c⟩
def stNew (c : Int) : JX := ⟨⟨⟨[], [], c, false⟩, ⟨[], [], c, false⟩, 1⟩, ⟨⟨[], [], c, false⟩, 0, 0⟩, zeros⟩
theorem new_step {c : Int} (h0 : 0 ≤ c) (h1 : c ≤ 20000) : newM c = (stNew c, 0) ∧ GoodX (stNew c) [] 0 zeros := by
  refine ⟨if_neg (by omega), Slots.op_new h0 h1, ⟨Wal.up_mk h0 h1 (by simp; omega), Frame.foll_nil, rfl, by simp [stNew, JXj], fun k => absurd k (by simp), by simp [stNew, JXj], by simp [stNew, JXj]⟩, ?_, Int.le_refl _, Int.le_refl _, rfl⟩
  have hn : Slots.newest (stNew c).s = none := by
    unfold Slots.newest stNew
    rw [Slots.ck_none (by exact Slots.first_nil), Slots.ck_none (by exact Slots.first_nil)]
    rfl
  show base (stNew c).s = _
  unfold base
  rw [hn]
section
variable {x : JX} {rs : List Rec} {n : Int} {c : List Int}
theorem GoodX.op (h : GoodX x rs n c) : Slots.Op x.s := Good.op h
theorem GoodX.log (h : GoodX x rs n c) : Wal.Good x.l rs := Good.log h
theorem GoodX.is (h : GoodX x rs n c) : Wal.Is x.l (some rs) := Good.log h
theorem GoodX.state (h : GoodX x rs n c) : State x.c ∧ x.c.length = 8 := Good.state h
theorem GoodX.check (h : GoodX x rs n c) : Jour.check x (some rs) = 0 := check_of_good h
theorem GoodX.count (h : GoodX x rs n c) : x.l.next = x.l.first + rs.length ∧ x.l.first ≤ n ∧ n ≤ x.l.next := by
  obtain ⟨sl, s, t, cap, f, nx, cs, rfl, hg⟩ := h.flat
  clear h
  exact hg.count
theorem do_step (h : GoodX x rs n c) {m : Move} (hm : Valid m) (hs : State (bump x.c m)) (hn : x.l.next ≤ 1000000000) (hr : (x.l.dev.s.length : Int) + x.l.dev.t.length + 21 ≤ x.l.dev.cap) :
    doM x m (some rs) = (stDo x m, x.l.next, 0) ∧ GoodX (stDo x m) (rs ++ [⟨x.l.next, written m⟩]) n c := by
  obtain ⟨sl, s, t, cap, f, nx, cs, rfl, hg⟩ := h.flat
  clear h
  exact ⟨doM_good hg hm hs hn hr, good_do hg hm hs hn hr⟩
theorem sync_step (h : GoodX x rs n c) : syncM x (some rs) = (stSync x, 0) ∧ GoodX (stSync x) rs n c := by
  obtain ⟨sl, s, t, cap, f, nx, cs, rfl, hg⟩ := h.flat
  clear h
  exact ⟨syncM_good hg, good_synced hg⟩
theorem ask_of (h : GoodX x rs n c) (h1 : x.s.n ≤ 1000000000) (h2 : 84 ≤ x.s.a.cap) (h3 : 84 ≤ x.s.b.cap) : Slots.asked x.s (point x.l.next x.c) = 0 := by
  refine Slots.ask h.op.1 h1 (by rw [point_length _ _ h.state.2]; decide) ?_
  rw [point_length _ _ h.state.2]
  unfold Slots.Sl.cur
  split <;> omega
theorem save_step (h : GoodX x rs n c) (ha : Slots.asked x.s (point x.l.next x.c) = 0) (h1 : x.l.next ≤ 1000000000) :
    saveM x (some rs) = (stSave x, 0) ∧ GoodX (stSave x) [] x.l.next x.c := by
  obtain ⟨sl, s, t, cap, f, nx, cs, rfl, hg⟩ := h.flat
  clear h
  exact ⟨saveM_good hg ha, good_save hg ha h1⟩
/-- Recovery without a crash. -/
theorem self_back (h : GoodX x rs n c) (h1 : x.l.first ≤ 1000000000) : Back x x.l.dev.cap x.s (stSync x).l x.c rs rs (x.l.dev.s ++ x.l.dev.t).length n c := by
  obtain ⟨sl, s, t, cap, f, nx, cs, rfl, hg⟩ := h.flat
  clear h
  have hc := hg.count
  have hr := hg.log.rng
  simp only at hr h1
  refine ⟨?_, hg.log.scan, ?_, good_synced hg, rfl, rfl⟩
  · show Slots.open_ sl = (sl, 0)
    rw [Slots.open_good hg.op.1.a hg.op.1.b, ← hg.op.2]
  · show Wal.open_ ⟨s, t, cap, false⟩ n rs (s ++ t).length = (⟨⟨s ++ t, [], cap, false⟩, f, nx⟩, 0)
    have hsz := hg.log.nb
    simp only at hsz
    have hfit := hg.log.2.2.2
    unfold Wal.Fits at hfit
    simp only at hfit
    have hst := base_state hg.base
    unfold Wal.open_
    rw [if_neg hsz, if_neg (by omega)]
    by_cases he : rs.length = 0
    · obtain rfl : rs = [] := List.eq_nil_of_length_eq_zero he
      have hb := hg.log.2.2.1
      simp only [Frame.all_nil] at hb
      rw [if_pos (.inl he)]
      obtain ⟨rfl, rfl⟩ := List.append_eq_nil_iff.1 hb
      simp only [List.length_nil] at hc
      obtain rfl : n = f := by omega
      obtain rfl : nx = n := by omega
      rfl
    · have := hfit.2.1 (by omega)
      rw [if_neg (by omega), ← this, List.take_length]
      rw [hc.1]
/-- A crash at a stage with no bytes kept has no error. -/
theorem half_zero {o : Slots.Sl} {b : List UInt8} (ha : Slots.asked o b = 0) {k : Int} (h0 : 0 ≤ k) (h3 : k ≤ 3) : (Slots.half o b k 0).2 = 0 := by
  have hk : k = 0 ∨ k = 1 ∨ k = 2 ∨ k = 3 := by omega
  rcases hk with rfl | rfl | rfl | rfl
  · rw [Slots.half_of ha o.cur.s (.inl ⟨rfl, rfl⟩) (fun _ => rfl)]
  · rw [Slots.half_of ha [] (.inr (.inl ⟨rfl, rfl⟩)) (fun _ => rfl)]
  · rw [Slots.half_of ha ((enc ⟨o.n, b⟩).take (0 : Int).toNat) (.inr (.inr (.inl ⟨rfl, by decide, by omega, rfl⟩))) (fun _ => rfl)]
  · rw [Slots.half_of ha (enc ⟨o.n, b⟩) (.inr (.inr (.inr ⟨rfl, rfl⟩))) (fun _ => rfl)]
theorem crash_zero (h : GoodX x rs n c) (ha : Slots.asked x.s (point x.l.next x.c) = 0) {k : Int} (h0 : 0 ≤ k) (h5 : k ≤ 5) : (crashM x k 0 (some rs)).2 = 0 := by
  obtain ⟨sl, s, t, cap, f, nx, cs, rfl, hg⟩ := h.flat
  clear h
  by_cases hk0 : k = 0
  · subst hk0
    rw [crash_0 hg, if_neg (by simp)]
  by_cases hk1 : k = 1
  · subst hk1
    rw [crash_1 hg, if_neg (by simp)]
  · rw [crash_2 hg (by omega) h5, if_neg]
    have := half_zero (k := min k 4 - 1) ha (by omega) (by omega)
    simpa using this
theorem back_of (h : GoodX x rs n c) (ha : Slots.asked x.s (point x.l.next x.c) = 0) (h1 : x.l.next ≤ 1000000000) {k keep : Int} {y : JX} {er : Int} (hy : (y, er) = crashM x k keep (some rs)) :
    er = 2 ∨ er = 0 ∧ ∃ o l e rs0 rs' u m c', Back y x.l.dev.cap o l e rs0 rs' u m c' ∧
      ((k = 0 ∧ 0 ≤ keep ∧ keep ≤ x.l.dev.t.length ∧ m = n ∧ replay c n (rs.take (Wal.cut rs (x.l.dev.s.length + keep.toNat))) = some e ∧ ((l.next = n ∧ x.l.first + (Wal.cut rs (x.l.dev.s.length + keep.toNat) : Int) ≤ n) ∨ l.next = x.l.first + (Wal.cut rs (x.l.dev.s.length + keep.toNat) : Int))) ∨
       (1 ≤ k ∧ e = x.c ∧ l.next = x.l.next)) := by
  obtain ⟨sl, s, t, cap, f, nx, cs, rfl, hg⟩ := h.flat
  clear h
  exact crash_back hg ha h1 hy
end

/-! The chapter's example. -/
/-- The journal of the examples: what is asked of it. -/
structure Given (x : JX) : Prop where
  good : GoodX x [⟨2, written ⟨0, 7⟩⟩] 2 [5, -2, 0, 0, 0, 0, 0, 0]
  cells : x.c = [12, -2, 0, 0, 0, 0, 0, 0]
  s : x.l.dev.s = []
  t : x.l.dev.t = enc ⟨2, written ⟨0, 7⟩⟩
  cap : x.l.dev.cap = 1000
  first : x.l.first = 2
  next : x.l.next = 3
  n : x.s.n = 2
  ca : x.s.a.cap = 1000
  cb : x.s.b.cap = 1000
def X0 : JX := stNew 1000
def X1 : JX := stDo X0 ⟨0, 5⟩
def X2 : JX := stDo X1 ⟨1, -2⟩
def X3 : JX := stSave X2
def X4 : JX := stDo X3 ⟨0, 7⟩
theorem enc21 (k : Int) (m : Move) : (enc ⟨k, written m⟩).length = 21 := by rw [Frame.enc_length]; simp only; rw [written_length]
theorem g0 : newM 1000 = (X0, 0) ∧ GoodX X0 [] 0 zeros := new_step (by decide) (by decide)
theorem g1 : doM X0 ⟨0, 5⟩ (some []) = (X1, 0, 0) ∧ GoodX X1 [⟨0, written ⟨0, 5⟩⟩] 0 zeros := do_step g0.2 (by decide) (by decide) (by decide) (by decide)
theorem l1 : X1.l.dev.t.length = 21 := by show ([] ++ enc ⟨0, written ⟨0, 5⟩⟩).length = 21; rw [List.nil_append, enc21]
theorem g2 : doM X1 ⟨1, -2⟩ (some [⟨0, written ⟨0, 5⟩⟩]) = (X2, 1, 0) ∧ GoodX X2 [⟨0, written ⟨0, 5⟩⟩, ⟨1, written ⟨1, -2⟩⟩] 0 zeros :=
  do_step g1.2 (by decide) (by show State [5, -2, 0, 0, 0, 0, 0, 0]; decide) (by decide) (by rw [l1]; decide)
theorem ask2 : Slots.asked X2.s (point X2.l.next X2.c) = 0 := ask_of g2.2 (by decide) (by decide) (by decide)
theorem g3 : saveM X2 (some [⟨0, written ⟨0, 5⟩⟩, ⟨1, written ⟨1, -2⟩⟩]) = (X3, 0) ∧ GoodX X3 [] 2 [5, -2, 0, 0, 0, 0, 0, 0] := save_step g2.2 ask2 (by decide)
theorem g4 : doM X3 ⟨0, 7⟩ (some []) = (X4, 2, 0) ∧ GoodX X4 [⟨2, written ⟨0, 7⟩⟩] 2 [5, -2, 0, 0, 0, 0, 0, 0] :=
  do_step g3.2 (by decide) (by show State [12, -2, 0, 0, 0, 0, 0, 0]; decide) (by decide) (by decide)
theorem given4 : Given X4 := ⟨g4.2, rfl, rfl, rfl, rfl, rfl, rfl, rfl, rfl, rfl⟩
theorem given_20 {x : JX} (h : Given x) {y : JX} {er : Int} (hy : (y, er) = crashM x 0 20 (some [⟨2, written ⟨0, 7⟩⟩])) :
    er = 0 ∧ ∃ l rs' u, Back y 1000 x.s l [5, -2, 0, 0, 0, 0, 0, 0] [] rs' u 2 [5, -2, 0, 0, 0, 0, 0, 0] ∧ l.next = 2 := by
  obtain ⟨sl, s, t, cap, f, nx, cs, rfl, hg⟩ := h.good.flat
  obtain ⟨_, hc, hs, ht, hcap, hf, hn, _⟩ := h
  simp only at hc hs ht hcap hf hn
  subst hs hcap hf hn
  have hl : t.length = 21 := by rw [ht, enc21]
  rw [crash_0 hg, if_neg (by rw [hl]; decide)] at hy
  obtain ⟨rfl, rfl⟩ := Prod.mk.inj hy
  obtain ⟨l, rs', e, q1, q2, q3⟩ := back_0 hg 20 (by rw [hl]; decide)
  have hk : Wal.cut [⟨2, written ⟨0, 7⟩⟩] (([] : List UInt8).length + 20) = 0 := by
    unfold Wal.cut
    rw [if_neg (by simp only [written_length, List.length_nil]; decide)]
  rw [hk] at q1 q2 q3
  obtain rfl := Option.some.inj q2
  refine ⟨rfl, l, rs', _, q1, ?_⟩
  rcases q3 with ⟨q3, _⟩ | q3
  · exact q3
  · exact q3
theorem given_21 {x : JX} (h : Given x) {y : JX} {er : Int} (hy : (y, er) = crashM x 0 21 (some [⟨2, written ⟨0, 7⟩⟩])) :
    er = 0 ∧ ∃ l rs0 rs' u, Back y 1000 x.s l [12, -2, 0, 0, 0, 0, 0, 0] rs0 rs' u 2 [5, -2, 0, 0, 0, 0, 0, 0] ∧ l.next = 3 := by
  obtain ⟨sl, s, t, cap, f, nx, cs, rfl, hg⟩ := h.good.flat
  obtain ⟨_, hc, hs, ht, hcap, hf, hn, _⟩ := h
  simp only at hc hs ht hcap hf hn
  subst hs hcap hf hn
  have hl : t.length = 21 := by rw [ht, enc21]
  rw [crash_0 hg, if_neg (by rw [hl]; decide)] at hy
  obtain ⟨rfl, rfl⟩ := Prod.mk.inj hy
  obtain ⟨l, rs', e, q1, q2, q3⟩ := back_0 hg 21 (by rw [hl]; decide)
  have hk : Wal.cut [⟨2, written ⟨0, 7⟩⟩] (([] : List UInt8).length + 21) = 1 := by
    unfold Wal.cut
    rw [if_pos (by simp only [written_length, List.length_nil]; decide)]
    rfl
  rw [hk] at q1 q2 q3
  have h1 := hg.rep
  simp only at h1
  have q2' : replay [5, -2, 0, 0, 0, 0, 0, 0] 2 [⟨2, written ⟨0, 7⟩⟩] = some e := q2
  obtain rfl := Option.some.inj (h1.symm.trans q2')
  subst hc
  refine ⟨rfl, l, _, rs', _, q1, ?_⟩
  rcases q3 with ⟨_, q3⟩ | q3
  · exact absurd q3 (by decide)
  · exact q3
end Jour
end Go.Proofs.YthgcfjhnnhigoaaGreat
