/- Plain mathematics of layer 6: a row of operations, and what a crash leaves of it. No program is named. Own work. -/
import Derived.Test.YthgcfjhnnhigoaaGreatGM
set_option linter.unusedVariables false
namespace Go.Proofs.YthgcfjhnnhigoaaGreat
namespace Jour
open Frame (Rec Foll IsScan enc)

/-- Up to which operation all is synced, or in the base. -/
def sure (f n : Int) (rs : List Rec) (k : Nat) : Int := if f + (Wal.cut rs k : Int) ≤ n then n else f + (Wal.cut rs k : Int)
theorem sure_mono (f n : Int) (rs : List Rec) {k l : Nat} (h : k ≤ l) : sure f n rs k ≤ sure f n rs l := by
  have := Wal.cut_mono rs h
  unfold sure
  split <;> split <;> omega
theorem cut_snoc (rs : List Rec) (r : Rec) : ∀ k, Wal.cut rs k ≤ Wal.cut (rs ++ [r]) k := by
  induction rs with
  | nil => intro k; simp [Wal.cut]
  | cons x rs ih =>
    intro k
    simp only [List.cons_append, Wal.cut]
    split
    · have := ih (k - (12 + x.data.length)); omega
    · exact Nat.le_refl _

/-- A journal behind a row of operations: the states after each of them, from the number first on; safe of them are sure. -/
structure Run (first : Int) (sts : List (List Int)) (safe : Int) (sl : Slots.Sl) (s t : List UInt8) (cap f nx : Int) (cs : List Int) (rs : List Rec) (n : Int) (c : List Int) : Prop where
  good : Good ⟨sl, ⟨⟨s, t, cap, false⟩, f, nx⟩, cs⟩ rs n c
  pos : 0 < sts.length
  next : nx + 1 = first + sts.length
  at_ : ∀ i (h : i < sts.length), n ≤ first + i → replay c n (rs.take (first + i - f).toNat) = some sts[i]
  last : sts[sts.length - 1]'(by omega) = cs
  safe0 : safe < sts.length
  safe1 : 0 ≤ safe → first + safe ≤ sure f n rs s.length

section
variable {first safe cap f nx n : Int} {sts : List (List Int)} {sl : Slots.Sl} {s t : List UInt8} {cs c : List Int} {rs : List Rec}
theorem Good.count {sl : Slots.Sl} {s t : List UInt8} {cap f nx n : Int} {cs c : List Int} {rs : List Rec} (h : Good ⟨sl, ⟨⟨s, t, cap, false⟩, f, nx⟩, cs⟩ rs n c) : nx = f + rs.length ∧ f ≤ n ∧ n ≤ nx := by
  have h1 := h.log.2.2.2
  have h2 := h.lo
  have h3 := h.hi
  unfold Wal.Fits at h1
  simp only at h1 h2 h3
  exact ⟨h1.1, h2, h3⟩
theorem run_start (h : Good ⟨sl, ⟨⟨s, t, cap, false⟩, f, nx⟩, cs⟩ rs n c) (hs : safe = 0 ∨ safe = -1) (h0 : safe = 0 → nx ≤ sure f n rs s.length) : Run nx [cs] safe sl s t cap f nx cs rs n c := by
  have hc := h.count
  refine ⟨h, by simp, by simp, fun i hi hn => ?_, rfl, by simp only [List.length_singleton]; omega, fun k => ?_⟩
  · have : i = 0 := by simpa using hi
    subst this
    rw [List.take_of_length_le (by omega)]
    exact h.rep
  · rcases hs with rfl | rfl
    · have := h0 rfl; omega
    · omega
theorem run_do (h : Run first sts safe sl s t cap f nx cs rs n c) {m : Move} (hm : Valid m) (hs : State (bump cs m)) (hn : nx ≤ 1000000000) (hr : (s.length : Int) + t.length + 21 ≤ cap) :
    Run first (sts ++ [bump cs m]) safe sl s (t ++ enc ⟨nx, written m⟩) cap f (nx + 1) (bump cs m) (rs ++ [⟨nx, written m⟩]) n c := by
  have hg := good_do h.good hm hs hn hr
  have hc := h.good.count
  have hnx := h.next
  refine ⟨hg, by simp, by rw [List.length_append, List.length_singleton]; omega, fun i hi hle => ?_, by simp, by rw [List.length_append, List.length_singleton]; have := h.safe0; omega, fun k => ?_⟩
  · rcases Nat.lt_or_ge i sts.length with hl | hl
    · rw [List.getElem_append_left hl, List.take_append_of_le_length (by omega)]
      exact h.at_ i hl hle
    · have hi' : i = sts.length := by rw [List.length_append, List.length_singleton] at hi; omega
      subst hi'
      rw [List.getElem_append_right (by omega), List.take_of_length_le (by rw [List.length_append, List.length_singleton]; omega)]
      simp only [Nat.sub_self, List.getElem_cons_zero]
      exact hg.rep
  · refine Int.le_trans (h.safe1 k) ?_
    have := cut_snoc rs ⟨nx, written m⟩ s.length
    unfold sure
    split <;> split <;> omega
theorem run_sync (h : Run first sts safe sl s t cap f nx cs rs n c) : Run first sts ((sts.length : Int) - 1) sl (s ++ t) [] cap f nx cs rs n c := by
  have hg := good_synced h.good
  have hc := h.good.count
  have hnx := h.next
  refine ⟨hg, h.pos, h.next, h.at_, h.last, by omega, fun k => ?_⟩
  have hb := h.good.log.2.2.1
  simp only at hb
  have e : Wal.cut rs (s ++ t).length = rs.length := by rw [hb]; exact Wal.cut_all rs
  unfold sure
  rw [e]
  split <;> omega
theorem run_save (h : Run first sts safe sl s t cap f nx cs rs n c) (ha : Slots.asked sl (point nx cs) = 0) (h1 : nx ≤ 1000000000) :
    Run first sts ((sts.length : Int) - 1) (sl.put ⟨enc ⟨sl.n, point nx cs⟩, [], sl.cur.cap, false⟩ sl.oth (sl.n + 1)) [] [] cap nx nx cs [] nx cs := by
  have hg := good_save h.good ha h1
  have hnx := h.next
  refine ⟨hg, h.pos, h.next, fun i hi hle => ?_, h.last, by omega, fun k => ?_⟩
  · have : i = sts.length - 1 := by omega
    subst this
    rw [h.last]
    simp [replay]
  · unfold sure
    split <;> omega
/-- What a crash at the stage 0, keeping k bytes of the log's tail, leaves. -/
theorem run_cut (h : Run first sts safe sl s t cap f nx cs rs n c) (k : Nat) {e : List Int} (he : replay c n (rs.take (Wal.cut rs (s.length + k))) = some e) {m : Int}
    (hm : (m = n ∧ f + (Wal.cut rs (s.length + k) : Int) ≤ n) ∨ m = f + (Wal.cut rs (s.length + k) : Int)) (hmn : n ≤ m) :
    m ≤ first + sts.length - 1 ∧ (m < first → safe < 0) ∧ (first ≤ m → first + safe ≤ m ∧ ∃ h' : (m - first).toNat < sts.length, e = sts[(m - first).toNat]) := by
  have hc := h.good.count
  have hnx := h.next
  have hle := Wal.cut_le rs (s.length + k)
  have hms : sure f n rs (s.length + k) ≤ m := by
    unfold sure
    split <;> omega
  have hsm := Int.le_trans (sure_mono f n rs (show s.length ≤ s.length + k by omega)) hms
  have hs1 := h.safe1
  refine ⟨by omega, fun hl => ?_, fun hl => ⟨?_, ?_⟩⟩
  · rcases Int.lt_or_le safe 0 with hx | hx
    · exact hx
    · have := hs1 hx; omega
  · rcases Int.lt_or_le safe 0 with hx | hx
    · omega
    · have := hs1 hx; omega
  · have hlt : (m - first).toNat < sts.length := by omega
    refine ⟨hlt, ?_⟩
    have h2 := h.at_ (m - first).toNat hlt (by omega)
    have hi : (first + ((m - first).toNat : Int) - f).toNat = (m - f).toNat := by omega
    rw [hi] at h2
    rcases hm with ⟨hm, hq⟩ | hm
    · -- nothing behind the base counts
      have hF := h.good.log.2.1
      have hfit := h.good.log.2.2.2
      unfold Wal.Fits at hfit
      simp only at hfit
      have b1 : ∀ q : Nat, f + (q : Int) ≤ n → q ≤ rs.length → replay c n (rs.take q) = some c := fun q hq hqr =>
        replay_before (Frame.foll_take hF q) (fun hp => by
          rw [List.length_take] at hp ⊢
          rw [Wal.base_take _ _ (by omega)]
          have := hfit.2.1 (by omega)
          omega)
      have e1 := b1 _ hq hle
      have e2 := b1 (m - f).toNat (by omega) (by omega)
      rw [e1] at he
      rw [e2] at h2
      exact (Option.some.inj he).symm.trans (Option.some.inj h2)
    · have hq : (m - f).toNat = Wal.cut rs (s.length + k) := by omega
      rw [hq, he] at h2
      exact Option.some.inj h2
end
end Jour
end Go.Proofs.YthgcfjhnnhigoaaGreat
