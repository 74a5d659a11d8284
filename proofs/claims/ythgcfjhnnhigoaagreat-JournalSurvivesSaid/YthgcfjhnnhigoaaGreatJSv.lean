/- Operations, syncs and checkpoints one after the other, and what is left of them: plain mathematics. Own work. -/
import Derived.Test.YthgcfjhnnhigoaaGreatJAddM
set_option linter.unusedVariables false
set_option linter.ambiguousOpen false
namespace Go.Proofs.YthgcfjhnnhigoaaGreat
namespace Jour
open Frame (Rec Foll IsScan enc)

/-- The journal r after q steps from x: sts the states, safe of them are sure. -/
structure Sv (x : JX) (q : Nat) (sts : List (List Int)) (safe : Int) (r : JX) (rs : List Rec) (n : Int) (c : List Int) : Prop where
  up : r.l.dev.down = false
  run : Run x.l.next sts safe r.s r.l.dev.s r.l.dev.t r.l.dev.cap r.l.first r.l.next r.c rs n c
  many : sts.length ≤ q + 1
  all : ∀ d ∈ sts, State d ∧ d.length = 8
  in_ : In (1000000000 - 1000000 * 21 + 1000000 * (q : Int)) r.c
  size : (r.l.dev.s.length : Int) + r.l.dev.t.length + 21 * (21 - (q : Int)) ≤ r.l.dev.cap
  next : r.l.next < 1000000 + (q : Int)
  num : r.s.n < 1000000 + (q : Int)
  a : 100 ≤ r.s.a.cap
  b : 100 ≤ r.s.b.cap
  low : -1 ≤ safe
section
variable {x r : JX} {q : Nat} {sts : List (List Int)} {safe : Int} {rs : List Rec} {n : Int} {c : List Int}
theorem Sv.good (h : Sv x q sts safe r rs n c) : GoodX r rs n c := by
  obtain ⟨sl, ⟨⟨s, t, cap, dn⟩, f, nx⟩, cs⟩ := r
  have hu := h.up
  simp only at hu
  subst hu
  exact h.run.good
theorem Sv.pos (h : Sv x q sts safe r rs n c) : 0 < sts.length := h.run.pos
theorem Sv.last (h : Sv x q sts safe r rs n c) : sts[sts.length - 1]'(by have := h.pos; omega) = r.c := h.run.last
theorem Sv.start (hr : room x 21) (hG : GoodX x rs n c) (hs : safe = 0 ∨ safe = -1) (h0 : safe = 0 → x.l.next ≤ sure x.l.first n rs x.l.dev.s.length) : Sv x 0 [x.c] safe x rs n c := by
  have hst := hG.state
  obtain ⟨sl, s, t, cap, f, nx, cs, rfl, hg⟩ := hG.flat
  refine ⟨rfl, run_start hg hs h0, by simp, fun d hd => by obtain rfl := List.mem_singleton.1 hd; exact hst, ?_, ?_, ?_, ?_, hr.a, hr.b, by omega⟩
  · have := hr.in_ hst.2
    simpa using this
  · have := hr.l; simp only at this ⊢; omega
  · have := hr.n; simp only at this ⊢; omega
  · have := hr.m; simp only at this ⊢; omega
theorem Sv.skip (h : Sv x q sts safe r rs n c) : Sv x (q + 1) sts safe r rs n c := by
  have h1 := h.many
  have h2 := h.size
  have h3 := h.next
  have h4 := h.num
  refine ⟨h.up, h.run, by omega, h.all, fun v hv => ?_, by omega, by omega, by omega, h.a, h.b, h.low⟩
  have := h.in_ v hv
  omega
theorem Sv.do_ (h : Sv x q sts safe r rs n c) (hq : q < 20) {m : Move} (hm : Valid m) :
    doM r m (some rs) = (stDo r m, r.l.next, 0) ∧ apply r.c [m] = (bump r.c m, 0) ∧ ∃ rs', Sv x (q + 1) (sts ++ [bump r.c m]) safe (stDo r m) rs' n c := by
  have hst := h.good.state
  have hin := in_bump hst.2 h.in_ hm
  have hs : State (bump r.c m) := hin.state (by omega)
  have h1 := h.many
  have h2 := h.size
  have h3 := h.next
  have h4 := h.num
  have hd := do_step h.good hm hs (by omega) (by omega)
  refine ⟨hd.1, apply_good hst.1 hm hs, rs ++ [(⟨r.l.next, written m⟩ : Rec)], rfl, run_do h.run hm hs (by omega) (by omega), by rw [List.length_append, List.length_singleton]; omega, fun d hd => ?_, fun v hv => ?_, ?_, ?_, ?_, h.a, h.b, h.low⟩
  · rcases List.mem_append.1 hd with hd | hd
    · exact h.all d hd
    · obtain rfl := List.mem_singleton.1 hd
      exact ⟨hs, (bump_length _ _).trans hst.2⟩
  · have := hin v hv; omega
  · show (r.l.dev.s.length : Int) + ((r.l.dev.t ++ enc ⟨r.l.next, written m⟩).length : Nat) + 21 * (21 - ((q + 1 : Nat) : Int)) ≤ r.l.dev.cap
    rw [List.length_append, enc21]
    omega
  · show r.l.next + 1 < _; omega
  · show r.s.n < _; omega
theorem Sv.sync (h : Sv x q sts safe r rs n c) : syncM r (some rs) = (stSync r, 0) ∧ Sv x (q + 1) sts ((sts.length : Int) - 1) (stSync r) rs n c := by
  have h' := h.skip
  refine ⟨(sync_step h.good).1, rfl, run_sync h.run, h'.many, h'.all, h'.in_, ?_, h'.next, h'.num, h.a, h.b, by have := h.pos; omega⟩
  have := h'.size
  show ((r.l.dev.s ++ r.l.dev.t).length : Int) + (([] : List UInt8).length : Nat) + 21 * (21 - ((q + 1 : Nat) : Int)) ≤ r.l.dev.cap
  rw [List.length_append]
  simp only [List.length_nil]
  omega
theorem put_caps {s : Slots.Sl} {d e : Disk.Dev} {k : Int} (h1 : 100 ≤ d.cap) (h2 : 100 ≤ e.cap) : 100 ≤ (s.put d e k).a.cap ∧ 100 ≤ (s.put d e k).b.cap ∧ (s.put d e k).n = k := by
  unfold Slots.Sl.put
  split
  · exact ⟨h1, h2, rfl⟩
  · exact ⟨h2, h1, rfl⟩
theorem Sv.ask (h : Sv x q sts safe r rs n c) (hq : q ≤ 20) : Slots.asked r.s (point r.l.next r.c) = 0 :=
  ask_of h.good (by have := h.num; omega) (by have := h.a; omega) (by have := h.b; omega)
theorem Sv.save (h : Sv x q sts safe r rs n c) (hq : q < 20) : saveM r (some rs) = (stSave r, 0) ∧ Sv x (q + 1) sts ((sts.length : Int) - 1) (stSave r) [] r.l.next r.c := by
  have h' := h.skip
  have h3 := h.next
  have h4 := h.num
  have h5 := h.size
  have ha := h.ask (by omega)
  have hc : 100 ≤ r.s.cur.cap := by have := h.a; have := h.b; unfold Slots.Sl.cur; split <;> omega
  have ho : 100 ≤ r.s.oth.cap := by have := h.a; have := h.b; unfold Slots.Sl.oth; split <;> omega
  obtain ⟨c1, c2, c3⟩ := put_caps (s := r.s) (d := ⟨enc ⟨r.s.n, point r.l.next r.c⟩, [], r.s.cur.cap, false⟩) (e := r.s.oth) (k := r.s.n + 1) hc ho
  refine ⟨(save_step h.good ha (by omega)).1, rfl, run_save h.run ha (by omega), h'.many, h'.all, h'.in_, ?_, h'.next, ?_, c1, c2, by have := h.pos; omega⟩
  · show (([] : List UInt8).length : Int) + (([] : List UInt8).length : Nat) + 21 * (21 - ((q + 1 : Nat) : Int)) ≤ r.l.dev.cap
    simp only [List.length_nil]
    omega
  · show (r.s.put _ _ _).n < _
    rw [c3]; omega
/-- What is asked of recovery. -/
structure End (x : JX) (sts : List (List Int)) (safe k m : Int) (e : List Int) : Prop where
  hi : m ≤ x.l.next + sts.length - 1
  lo : m < x.l.next → safe < 0
  at_ : x.l.next ≤ m → x.l.next + safe ≤ m ∧ ∃ h : (m - x.l.next).toNat < sts.length, e = sts[(m - x.l.next).toNat]
  up : 0 < k → m = x.l.next + sts.length - 1
  len : e.length = 8
theorem Sv.end_ (h : Sv x q sts safe r rs n c) (hq : q ≤ 20) {k keep : Int} {y : JX} {er : Int} (hy : (y, er) = crashM r k keep (some rs)) :
    er = 2 ∨ er = 0 ∧ ∃ o l e rs0 rs' u m c', Back y r.l.dev.cap o l e rs0 rs' u m c' ∧ End x sts safe k l.next e := by
  have h3 := h.next
  rcases back_of h.good (h.ask hq) (by omega) hy with hh | ⟨h0, o, l, e, rs0, rs', u, m, c', hB, hh⟩
  · exact .inl hh
  refine .inr ⟨h0, o, l, e, rs0, rs', u, m, c', hB, ?_⟩
  have hlen : e.length = 8 := (Good.state hB.good).2
  have hnx := h.run.next
  have hp := h.run.pos
  rcases hh with ⟨rfl, k0, k1, rfl, h5, h6⟩ | ⟨k1, rfl, h5⟩
  · have hcc := Good.count (sl := o) (s := l.dev.s) (t := l.dev.t) (cap := l.dev.cap) (f := l.first) (nx := l.next) (n := m) (cs := e) (c := c') (rs := rs') (by
      have hu : l.dev.down = false := Wal.Good.isUp hB.good.log
      have hg := hB.good
      obtain ⟨⟨s, t, cap, dn⟩, f, nx⟩ := l
      simp only at hu
      subst hu
      exact hg)
    obtain ⟨e1, e2, e3⟩ := run_cut h.run keep.toNat h5 h6 hcc.2.2
    exact ⟨e1, e2, e3, fun hk => by omega, hlen⟩
  · have hs0 := h.run.safe0
    refine ⟨by omega, fun hl => by omega, fun hl => ⟨by omega, by omega, ?_⟩, fun _ => by omega, hlen⟩
    rw [← h.last]
    congr 1
    omega
/-- Up to which operation all is sure: a crash that keeps nothing tells. -/
theorem sure_of (h : GoodX x rs n c) {y : JX} {er : Int} (hn : x.l.next ≤ 1000000000) (ha : Slots.asked x.s (point x.l.next x.c) = 0) (hy : (y, er) = crashM x 0 0 (some rs)) :
    er = 0 ∧ ∃ o l e rs0 rs' u m c', Back y x.l.dev.cap o l e rs0 rs' u m c' ∧ l.next = sure x.l.first n rs x.l.dev.s.length := by
  have he : er = 0 := (congrArg Prod.snd hy).trans (crash_zero h ha (by decide) (by decide))
  rcases back_of h ha hn hy with hh | ⟨h0, o, l, e, rs0, rs', u, m, c', hB, hh⟩
  · omega
  refine ⟨he, o, l, e, rs0, rs', u, m, c', hB, ?_⟩
  rcases hh with ⟨_, _, _, rfl, h5, h6⟩ | ⟨k1, _⟩
  · have hlo : m ≤ l.next := hB.good.hi
    simp only [Int.toNat_zero, Nat.add_zero] at h6
    unfold sure
    split <;> omega
  · omega
end
end Jour
end Go.Proofs.YthgcfjhnnhigoaaGreat
