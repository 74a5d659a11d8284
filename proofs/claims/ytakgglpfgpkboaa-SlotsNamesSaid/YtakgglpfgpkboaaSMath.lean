/- Mathematics of layer 5: what survives. No program is named. Own work. -/
import Derived.Test.YtakgglpfgpkboaaSlots
set_option linter.unusedVariables false
namespace Go.Proofs.Ytakgglpfgpkboaa
namespace Slots
open Frame (Rec Pre IsScan enc)
open Disk (Dev)

theorem op_eq {d : Dev} (h : Ok d) : op d = d := by
  conv => rhs; rw [h.eq]
  unfold op
  rw [h.tail, List.append_nil]
theorem all_eq {d : Dev} (h : Ok d) : d.all = d.s := by unfold Disk.Dev.all; rw [h.tail, List.append_nil]
theorem ck_some {d : Dev} {i : Int} {r : Rec} (h : ck d i = some r) : first d.all = some r ∧ r.num % 2 = i ∧ Frame.Valid r := by
  unfold ck at h
  split at h
  · rename_i q hq
    split at h
    · cases h; exact ⟨hq, by assumption, first_valid hq⟩
    · cases h
  · cases h
theorem ck_of {d : Dev} {i : Int} {r : Rec} (h : first d.all = some r) (hi : r.num % 2 = i) : ck d i = some r := by
  unfold ck; rw [h]; exact if_pos hi
theorem ck_none {d : Dev} {i : Int} (h : first d.all = none) : ck d i = none := by unfold ck; rw [h]
theorem newest_valid {s : Sl} {r : Rec} (h : newest s = some r) : Frame.Valid r := by
  unfold newest at h
  rcases h1 : ck s.a 0 with _ | p <;> rcases h2 : ck s.b 1 with _ | q <;> rw [h1, h2] at h <;> simp only [newer] at h
  · cases h
  · cases h; exact (ck_some h2).2.2
  · cases h; exact (ck_some h1).2.2
  · split at h
    · cases h; exact (ck_some h2).2.2
    · cases h; exact (ck_some h1).2.2
theorem next_lo {s : Sl} : 1 ≤ nextOf (newest s) ∧ nextOf (newest s) ≤ 1000000001 := by
  rcases h : newest s with _ | r
  · exact ⟨by decide, by decide⟩
  · have := newest_valid h
    have h1 := this.1
    have h2 := this.2.1
    unfold nextOf
    simp only
    omega
theorem Good.num {s : Sl} (h : Good s) {n : Int} (h1 : 1 ≤ n) (h2 : n ≤ 1000000001) : Good ⟨s.a, s.b, n⟩ := ⟨h.a, h.b, h1, h2⟩
theorem newest_num (s : Sl) (n : Int) : newest ⟨s.a, s.b, n⟩ = newest s := rfl
theorem open_good {s : Sl} (ha : Ok s.a) (hb : Ok s.b) : open_ s = (⟨s.a, s.b, nextOf (newest s)⟩, 0) := by
  unfold open_
  rw [if_neg (by rintro (k | k); exact ha.nb k; exact hb.nb k)]
  unfold opened
  rw [op_eq ha, op_eq hb]
  rfl
theorem load_good {s : Sl} (h : Good s) : load s = found (newest s) := if_neg h.nb
theorem put_oth {s : Sl} (d e : Dev) (n : Int) (hd : Ok d) (he : Ok e) (h1 : 1 ≤ n) (h2 : n ≤ 1000000001) : Good (s.put d e n) := by
  unfold Sl.put; split
  · exact ⟨hd, he, h1, h2⟩
  · exact ⟨he, hd, h1, h2⟩
theorem newest_put_num (s : Sl) (d e : Dev) (n k : Int) : newest (s.put d e n) = newest (s.put d e k) := by unfold Sl.put; split <;> rfl

/-- Opened slots. -/
def Op (o : Sl) : Prop := Good o ∧ o.n = nextOf (newest o)

theorem newest_saved {o : Sl} (h : Op o) {b : List UInt8} (hn : o.n ≤ 1000000000) (hb : b.length ≤ 1000) {x : Dev} (hx : first x.all = some ⟨o.n, b⟩) (k : Int) :
    newest (o.put x o.oth k) = some ⟨o.n, b⟩ := by
  obtain ⟨hg, he⟩ := h
  unfold newest at he ⊢
  unfold Sl.put Sl.oth
  by_cases hp : o.n % 2 = 0
  · rw [if_pos hp, if_pos hp]
    simp only
    rw [ck_of hx hp]
    rcases h2 : ck o.b 1 with _ | q
    · rfl
    · simp only [newer]
      rw [if_neg]
      rcases h1 : ck o.a 0 with _ | p <;> rw [h1, h2] at he <;> simp only [newer, nextOf] at he
      · first | omega | (simp only; omega)
      · by_cases hlt : p.num < q.num
        · rw [if_pos hlt] at he; simp only at he; first | omega | (simp only; omega)
        · rw [if_neg hlt] at he; simp only at he; first | omega | (simp only; omega)
  · have hp1 : o.n % 2 = 1 := by omega
    rw [if_neg hp, if_neg hp]
    simp only
    rw [ck_of hx hp1]
    rcases h1 : ck o.a 0 with _ | p
    · rfl
    · simp only [newer]
      rw [if_pos]
      rcases h2 : ck o.b 1 with _ | q <;> rw [h1, h2] at he <;> simp only [newer, nextOf] at he
      · first | omega | (simp only; omega)
      · by_cases hlt : p.num < q.num
        · rw [if_pos hlt] at he; simp only at he; first | omega | (simp only; omega)
        · rw [if_neg hlt] at he; simp only at he; first | omega | (simp only; omega)
theorem newest_before {o : Sl} (h : Op o) {x : Dev} (hx : first x.all = none) (k : Int) : newest (o.put x o.oth k) = newest o := by
  obtain ⟨hg, he⟩ := h
  unfold newest at he ⊢
  unfold Sl.put Sl.oth
  by_cases hp : o.n % 2 = 0
  · rw [if_pos hp, if_pos hp]
    simp only
    rw [ck_none hx]
    rcases h1 : ck o.a 0 with _ | p
    · rfl
    · have hp1 := (ck_some h1).2.1
      rcases h2 : ck o.b 1 with _ | q
      · rw [h1, h2] at he
        simp only [newer, nextOf] at he
        exfalso; omega
      · have hq1 := (ck_some h2).2.1
        rw [h1, h2] at he
        simp only [newer, nextOf] at he ⊢
        by_cases hlt : p.num < q.num
        · rw [if_pos hlt]
        · rw [if_neg hlt] at he; simp only at he; exfalso; omega
  · rw [if_neg hp, if_neg hp]
    simp only
    rw [ck_none hx]
    rcases h2 : ck o.b 1 with _ | q
    · rcases h1 : ck o.a 0 with _ | p <;> rfl
    · have hq1 := (ck_some h2).2.1
      rcases h1 : ck o.a 0 with _ | p
      · rw [h1, h2] at he
        simp only [newer, nextOf] at he
        exfalso; omega
      · have hp1 := (ck_some h1).2.1
        rw [h1, h2] at he
        simp only [newer, nextOf] at he ⊢
        by_cases hlt : p.num < q.num
        · rw [if_pos hlt] at he; simp only at he; exfalso; omega
        · rw [if_neg hlt]
theorem newest_same {o : Sl} (k : Int) : newest (o.put o.cur o.oth k) = newest o := by
  unfold newest Sl.put Sl.cur Sl.oth
  split <;> rfl

theorem wr_good {s : Sl} {b : List UInt8} (h : asked s b = 0) : wr s.cur (enc ⟨s.n, b⟩) 3 = ⟨enc ⟨s.n, b⟩, [], s.cur.cap, false⟩ := by
  obtain ⟨hg, hb, hn, hr⟩ := asked_good h
  have hc := hg.cur
  have hl : ((enc ⟨s.n, b⟩).length : Int) ≤ s.cur.cap := by rw [Frame.enc_length]; simp only; omega
  rw [wr_3 (by decide), trunc_ok hc, app_ok hc.cap1 hl, sync_tail hc.cap1 hl]
theorem save_ok {s : Sl} {b : List UInt8} (h : asked s b = 0) : save s b = (s.put ⟨enc ⟨s.n, b⟩, [], s.cur.cap, false⟩ s.oth (s.n + 1), s.n, 0) := by
  unfold save
  rw [if_neg (by rw [h]; simp), wr_good h]
theorem asked_err {s : Sl} {b : List UInt8} (hg : Good s) (hb : b.length ≤ 1000) (h : asked s b ≠ 0) : asked s b = 2 ∨ asked s b = 18 := by
  by_cases h3 : 1000000000 < s.n
  · exact .inl (asked_arg hg.nb (by omega) h3)
  · by_cases h4 : s.cur.cap < 12 + (b.length : Int)
    · exact .inr (asked_full hg.nb (by omega) h3 h4)
    · exact absurd (asked_ok hg.nb (by omega) h3 h4) h
theorem valid_of {s : Sl} {b : List UInt8} (h : asked s b = 0) : Frame.Valid ⟨s.n, b⟩ := by
  obtain ⟨hg, hb, hn, hr⟩ := asked_good h
  exact ⟨by have := hg.lo; simp only; omega, hn, hb⟩
/-- What is saved is loaded. -/
theorem saved_newest {o : Sl} (h : Op o) {b : List UInt8} (ha : asked o b = 0) (k : Int) : newest (o.put ⟨enc ⟨o.n, b⟩, [], o.cur.cap, false⟩ o.oth k) = some ⟨o.n, b⟩ := by
  obtain ⟨hg, hb, hn, hr⟩ := asked_good ha
  refine newest_saved h hn hb ?_ k
  show first (enc ⟨o.n, b⟩ ++ []) = _
  exact first_enc (valid_of ha) []
theorem saved_good {o : Sl} {b : List UInt8} (ha : asked o b = 0) : Good (o.put ⟨enc ⟨o.n, b⟩, [], o.cur.cap, false⟩ o.oth (o.n + 1)) := by
  obtain ⟨hg, hb, hn, hr⟩ := asked_good ha
  refine put_oth _ _ _ (ok_mk hg.cur.cap1 (by rw [Frame.enc_length]; simp only; omega)) hg.oth (by have := hg.lo; omega) (by omega)
theorem saved_op {o : Sl} (h : Op o) {b : List UInt8} (ha : asked o b = 0) : Op (o.put ⟨enc ⟨o.n, b⟩, [], o.cur.cap, false⟩ o.oth (o.n + 1)) := by
  refine ⟨saved_good ha, ?_⟩
  rw [saved_newest h ha]
  unfold Sl.put; split <;> rfl

/-! Halves. -/
/-- What a crash after some steps leaves on the slot of Next. -/
def left (o : Sl) (b : List UInt8) (k keep : Int) (xs : List UInt8) : Prop :=
  (k = 0 ∧ xs = o.cur.s) ∨ (k = 1 ∧ xs = []) ∨ (k = 2 ∧ 0 ≤ keep ∧ keep ≤ 12 + (b.length : Int) ∧ xs = (enc ⟨o.n, b⟩).take keep.toNat) ∨ (k = 3 ∧ xs = enc ⟨o.n, b⟩)
theorem half_cases {o : Sl} {b : List UInt8} {k keep : Int} {h : Sl} {er : Int} (hg : Good o) (hb : b.length ≤ 1000) (hh : (h, er) = half o b k keep) :
    (er = 2 ∨ er = 18) ∨ (er = 0 ∧ asked o b = 0 ∧ ∃ xs, left o b k keep xs ∧ (xs.length : Int) ≤ o.cur.cap ∧ h = o.put ⟨xs, [], o.cur.cap, true⟩ ⟨o.oth.s, [], o.oth.cap, true⟩ o.n) := by
  unfold half at hh
  by_cases ha : asked o b = 0
  · rw [if_neg (by rw [ha]; simp)] at hh
    obtain ⟨_, _, hn, hr⟩ := asked_good ha
    have hc := hg.cur
    have hl : ((enc ⟨o.n, b⟩).length : Int) ≤ o.cur.cap := by rw [Frame.enc_length]; simp only; omega
    have hle : ((enc ⟨o.n, b⟩).length : Int) = 12 + (b.length : Int) := by rw [Frame.enc_length]; simp
    by_cases hk : k < 0 ∨ 3 < k
    · rw [if_pos hk] at hh
      exact .inl (.inl (Prod.mk.inj hh).2)
    rw [if_neg hk, crash_ok hg.oth] at hh
    have hk' : k = 0 ∨ k = 1 ∨ k = 2 ∨ k = 3 := by omega
    rcases hk' with rfl | rfl | rfl | rfl
    · rw [wr_0 (by decide)] at hh
      by_cases hz : keep = 0
      · subst hz
        rw [crash_ok hc] at hh
        simp only [ne_eq, not_true, if_false] at hh
        obtain ⟨h1, h2⟩ := Prod.mk.inj hh
        exact .inr ⟨h2, ha, o.cur.s, .inl ⟨rfl, rfl⟩, hc.fits, h1⟩
      · rw [crash_ok' hc hz] at hh
        simp only at hh
        rw [if_pos (by decide)] at hh
        exact .inl (.inl (Prod.mk.inj hh).2)
    · rw [wr_1 (by decide) (by decide), trunc_ok hc] at hh
      have ho : Ok ⟨[], [], o.cur.cap, false⟩ := ok_mk hc.cap1 (by simpa using hc.cap0)
      by_cases hz : keep = 0
      · subst hz
        rw [crash_ok ho] at hh
        simp only [ne_eq, not_true, if_false] at hh
        obtain ⟨h1, h2⟩ := Prod.mk.inj hh
        exact .inr ⟨h2, ha, [], .inr (.inl ⟨rfl, rfl⟩), by simpa using hc.cap0, h1⟩
      · rw [crash_ok' ho hz] at hh
        simp only at hh
        rw [if_pos (by decide)] at hh
        exact .inl (.inl (Prod.mk.inj hh).2)
    · rw [wr_2 (by decide) (by decide), trunc_ok hc, app_ok hc.cap1 hl, crash_tail hc.cap1 hl] at hh
      by_cases hz : keep < 0 ∨ ((enc ⟨o.n, b⟩).length : Int) < keep
      · rw [if_pos hz] at hh
        simp only at hh
        rw [if_pos (by decide)] at hh
        exact .inl (.inl (Prod.mk.inj hh).2)
      · rw [if_neg hz] at hh
        simp only [ne_eq, not_true, if_false] at hh
        obtain ⟨h1, h2⟩ := Prod.mk.inj hh
        refine .inr ⟨h2, ha, _, .inr (.inr (.inl ⟨rfl, by omega, by omega, rfl⟩)), ?_, h1⟩
        rw [List.length_take]; omega
    · rw [wr_good ha] at hh
      have ho : Ok ⟨enc ⟨o.n, b⟩, [], o.cur.cap, false⟩ := ok_mk hc.cap1 hl
      by_cases hz : keep = 0
      · subst hz
        rw [crash_ok ho] at hh
        simp only [ne_eq, not_true, if_false] at hh
        obtain ⟨h1, h2⟩ := Prod.mk.inj hh
        exact .inr ⟨h2, ha, _, .inr (.inr (.inr ⟨rfl, rfl⟩)), hl, h1⟩
      · rw [crash_ok' ho hz] at hh
        simp only at hh
        rw [if_pos (by decide)] at hh
        exact .inl (.inl (Prod.mk.inj hh).2)
  · rw [if_pos ha] at hh
    have h1 := (Prod.mk.inj hh).2
    rcases asked_err hg hb ha with e | e
    · exact .inl (.inl (h1.trans e))
    · exact .inl (.inr (h1.trans e))
theorem open_left {o : Sl} (hg : Good o) {xs : List UInt8} (hl : (xs.length : Int) ≤ o.cur.cap) :
    open_ (o.put ⟨xs, [], o.cur.cap, true⟩ ⟨o.oth.s, [], o.oth.cap, true⟩ o.n) =
      (⟨(o.put ⟨xs, [], o.cur.cap, false⟩ o.oth 1).a, (o.put ⟨xs, [], o.cur.cap, false⟩ o.oth 1).b, nextOf (newest (o.put ⟨xs, [], o.cur.cap, false⟩ o.oth 1))⟩, 0) := by
  have n1 : ¬ Disk.bad ⟨xs, [], o.cur.cap, true⟩ := by
    rw [Disk.bad_iff]; have := hg.cur.cap0; have := hg.cur.cap1; simp; omega
  have n2 : ¬ Disk.bad ⟨o.oth.s, [], o.oth.cap, true⟩ := by
    rw [Disk.bad_iff]; have := hg.oth.cap0; have := hg.oth.cap1; have := hg.oth.fits; simp; omega
  have e1 : op ⟨xs, [], o.cur.cap, true⟩ = ⟨xs, [], o.cur.cap, false⟩ := by unfold op; simp
  have e2 : op ⟨o.oth.s, [], o.oth.cap, true⟩ = o.oth := by
    conv => rhs; rw [hg.oth.eq]
    unfold op; simp
  unfold open_ opened
  by_cases hp : o.n % 2 = 0
  · simp only [Sl.put, if_pos hp]
    rw [if_neg (by rintro (k | k); exact n1 k; exact n2 k), e1, e2]
  · simp only [Sl.put, if_neg hp]
    rw [if_neg (by rintro (k | k); exact n2 k; exact n1 k), e1, e2]
/-- What survives. -/
theorem survive {o : Sl} (h : Op o) {b : List UInt8} {k keep : Int} {xs : List UInt8} (ha : asked o b = 0) (hl : left o b k keep xs) :
    (newest (o.put ⟨xs, [], o.cur.cap, false⟩ o.oth 1) = some ⟨o.n, b⟩ ∧ 2 ≤ k ∧ k ≤ 3) ∨ (newest (o.put ⟨xs, [], o.cur.cap, false⟩ o.oth 1) = newest o ∧ 0 ≤ k ∧ k ≤ 2) := by
  have hv := valid_of ha
  rcases hl with ⟨rfl, rfl⟩ | ⟨rfl, rfl⟩ | ⟨rfl, h0, h1, rfl⟩ | ⟨rfl, rfl⟩
  · refine .inr ⟨?_, by decide, by decide⟩
    rw [show (⟨o.cur.s, [], o.cur.cap, false⟩ : Dev) = o.cur from h.1.cur.eq.symm]
    exact newest_same 1
  · refine .inr ⟨newest_before h ?_ 1, by decide, by decide⟩
    exact first_nil
  · by_cases hk : keep = 12 + (b.length : Int)
    · refine .inl ⟨?_, by decide, by decide⟩
      rw [List.take_of_length_le (by rw [Frame.enc_length]; simp only; omega)]
      exact saved_newest h ha 1
    · refine .inr ⟨newest_before h ?_ 1, by decide, by decide⟩
      show first ((enc ⟨o.n, b⟩).take keep.toNat ++ []) = none
      rw [List.append_nil]
      exact first_torn hv _ (by rw [Frame.enc_length]; simp only; omega)
  · exact .inl ⟨saved_newest h ha 1, by decide, by decide⟩
theorem left_good {o : Sl} (hg : Good o) {xs : List UInt8} (hl : (xs.length : Int) ≤ o.cur.cap) (n : Int) (h1 : 1 ≤ n) (h2 : n ≤ 1000000001) :
    Good ⟨(o.put ⟨xs, [], o.cur.cap, false⟩ o.oth 1).a, (o.put ⟨xs, [], o.cur.cap, false⟩ o.oth 1).b, n⟩ :=
  (put_oth (s := o) _ _ 1 (ok_mk hg.cur.cap1 hl) hg.oth (by decide) (by decide)).num h1 h2
theorem op_of {s : Sl} (ha : Ok s.a) (hb : Ok s.b) : Op ⟨s.a, s.b, nextOf (newest s)⟩ := ⟨⟨ha, hb, next_lo.1, next_lo.2⟩, rfl⟩
end Slots
end Go.Proofs.Ytakgglpfgpkboaa
