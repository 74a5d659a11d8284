/- The examples of WalNames: plain mathematics. Own work. -/
import Derived.Test.YtehagdpcegpbjaaWMath2
set_option linter.unusedVariables false
set_option linter.unusedSimpArgs false
namespace Go.Proofs.Ytehagdpcegpbjaa
namespace WalEx
open Frame Wal

theorem append_max {l : Log} {b : List UInt8} {rs : List Rec} (h1 : b.length ≤ 1000) (h2 : 1000000000 < l.next) : append l b (some rs) = (zero, 0, 2) := by
  unfold append; simp only; rw [if_neg (by omega), if_pos h2]
theorem append_full {l : Log} {b : List UInt8} {rs : List Rec} (h1 : b.length ≤ 1000) (h2 : l.next ≤ 1000000000) (h3 : l.dev.cap - l.dev.size < 12 + b.length) : append l b (some rs) = (zero, 0, 18) := by
  unfold append; simp only; rw [if_neg (by omega), if_neg (by omega), if_pos h3]
theorem records_out {l : Log} {m : Int} {rs : List Rec} (h : m < l.first ∨ l.next < m) : records l m (some rs) = ([], 2) := by
  unfold records; simp only; rw [if_pos h]
theorem records_in {l : Log} {m : Int} {rs : List Rec} (h : ¬ (m < l.first ∨ l.next < m)) : records l m (some rs) = (rs.drop (m - l.first).toNat, 0) := by
  unfold records; simp only; rw [if_neg h]
theorem drop_out {l : Log} {m : Int} {rs : List Rec} (h : m < l.first ∨ l.next < m) : Wal.drop l m (some rs) = (zero, 2) := by
  unfold Wal.drop; simp only; rw [if_pos h]
theorem drop_order {l : Log} {m : Int} {rs : List Rec} (h : ¬ (m < l.first ∨ l.next < m)) (h2 : l.first + cut rs l.dev.s.length < m) : Wal.drop l m (some rs) = (zero, 32) := by
  unfold Wal.drop; simp only; rw [if_neg h, if_pos h2]
theorem drop_in {l : Log} {m : Int} {rs : List Rec} (h : ¬ (m < l.first ∨ l.next < m)) (h2 : ¬ l.first + cut rs l.dev.s.length < m) : Wal.drop l m (some rs) = (⟨⟨l.dev.s.drop (all (rs.take (m - l.first).toNat)).length, l.dev.t, l.dev.cap, false⟩, m, l.next⟩, 0) := by
  unfold Wal.drop; simp only; rw [if_neg h, if_neg h2]
theorem nm_a : open_ ⟨[], [], -1, false⟩ (-1) [] 0 = (zero, 8) := if_pos (by rw [Disk.bad_iff]; simp)
theorem nb1000 : ¬ Disk.bad ⟨[], [], 1000, false⟩ := by rw [Disk.bad_iff]; simp
theorem nm_b : open_ ⟨[], [], 1000, false⟩ (-1) [] 0 = (zero, 2) := (if_neg nb1000).trans (if_pos (.inl (by omega)))
theorem nm_c : open_ ⟨[], [], 1000, false⟩ 1000000001 [] 0 = (zero, 2) := (if_neg nb1000).trans (if_pos (.inr (by omega)))
def la : Log := ⟨⟨[], [], 1000, false⟩, 1000000000, 1000000000⟩
theorem nm_d : open_ ⟨[], [], 1000, false⟩ 1000000000 [] 0 = (la, 0) := open_new 1000 1000000000 (by omega) (by omega) (by omega) (by omega)
theorem good_la : Good la [] := good_none 1000000000 (by omega) (by omega) 1000 (by omega) (by omega)
def rz : Rec := ⟨1000000000, []⟩
def le : Log := ⟨⟨[], [] ++ enc rz, 1000, false⟩, 1000000000, 1000000001⟩
theorem good_le : Good le [rz] := good_append good_la [] (by simp) (by omega) (by simp)
theorem nm_e : append la [] (some []) = (le, 1000000000, 0) := app [] [] 1000 1000000000 1000000000 [] [] (by simp) (by omega) (by simp)
theorem nm_f : append le [] (some [rz]) = (zero, 0, 2) := append_max (by simp) (by simp [le])
theorem nm_g (b : List UInt8) (h : b.length = 1001) : append l56 b (some [r5, r6]) = (zero, 0, 4) := by unfold append; simp only; rw [if_pos (by omega)]
theorem nm_h (b : List UInt8) (h : b.length = 1000) : append l56 b (some [r5, r6]) = (zero, 0, 18) :=
  append_full (by omega) (by simp [l56]) (by simp [l56, Disk.Dev.size, len5, len6, h])
def sm : Log := ⟨⟨[], [], 13, false⟩, 0, 0⟩
theorem nm_i : open_ ⟨[], [], 13, false⟩ 0 [] 0 = (sm, 0) := open_new 13 0 (by omega) (by omega) (by omega) (by omega)
theorem good_sm : Good sm [] := good_none 0 (by omega) (by omega) 13 (by omega) (by omega)
def rx : Rec := ⟨0, [120]⟩
theorem lenx : (enc rx).length = 13 := by rw [enc_length]; rfl
def fl : Log := ⟨⟨[], [] ++ enc rx, 13, false⟩, 0, 1⟩
theorem good_fl : Good fl [rx] := good_append good_sm [120] (by simp) (by omega) (by simp)
theorem nm_j : append sm [120] (some []) = (fl, 0, 0) := app [] [] 13 0 0 [120] [] (by simp) (by omega) (by simp)
theorem nm_k : append fl [] (some [rx]) = (zero, 0, 18) := append_full (by simp) (by simp [fl]) (by simp [fl, Disk.Dev.size, lenx])
theorem nm_l4 : records l56 4 (some [r5, r6]) = ([], 2) := records_out (by simp [l56])
theorem nm_l8 : records l56 8 (some [r5, r6]) = ([], 2) := records_out (by simp [l56])
theorem nm_l7 : records l56 7 (some [r5, r6]) = ([], 0) := (records_in (by simp [l56])).trans rfl
theorem nm_m4 : Wal.drop l56 4 (some [r5, r6]) = (zero, 2) := drop_out (by simp [l56])
theorem nm_m8 : Wal.drop l56 8 (some [r5, r6]) = (zero, 2) := drop_out (by simp [l56])
theorem nm_m6 : Wal.drop l56 6 (some [r5, r6]) = (zero, 32) := drop_order (by simp [l56]) (by simp [l56, cut, r5])
theorem nm_m5 : Wal.drop l56 5 (some [r5, r6]) = (l56, 0) := (drop_in (by simp [l56]) (by simp [l56]; omega)).trans (by simp [l56])
def s567 : Log := ⟨⟨(([] ++ (([] ++ enc r5) ++ enc r6)) ++ ([] ++ enc r7)), [], 1000, false⟩, 5, 8⟩
theorem nm_n : sync l567 (some [r5, r6, r7]) = (s567, 0) := rfl
theorem good_s567 : Good s567 [r5, r6, r7] := good_sync good_567
def le8 : Log := ⟨⟨[], [], 1000, false⟩, 8, 8⟩
theorem good_le8 : Good le8 [] := good_none 8 (by omega) (by omega) 1000 (by omega) (by omega)
theorem cut_567 : cut [r5, r6, r7] s567.dev.s.length = 3 := by
  show cut [r5, r6, r7] (([] ++ (([] ++ enc r5) ++ enc r6)) ++ ([] ++ enc r7)).length = 3
  rw [← all567, cut_all]; rfl
theorem nm_o : Wal.drop s567 8 (some [r5, r6, r7]) = (le8, 0) := by
  have hc := cut_567
  have h3 : (all ([r5, r6, r7].take ((8 : Int) - s567.first).toNat)).length = (all [r5, r6, r7]).length := rfl
  unfold Wal.drop
  simp only
  rw [if_neg (by simp [s567]), if_neg (by rw [hc]; simp [s567]), h3]
  have h4 : s567.dev.s = all [r5, r6, r7] := all567.symm
  rw [h4, List.drop_length]
  rfl
theorem nm_p : crash l56 28 (some [r5, r6]) = (Disk.zero, 2) := by
  show Disk.crash l56.dev 28 = _
  unfold Disk.crash
  rw [if_neg (by simpa using good_56.1), if_pos (by simp [l56, len5, len6])]
theorem nm_q : synced s567 (some [r5, r6, r7]) = (8, 0) := by
  show ((5 : Int) + (cut [r5, r6, r7] s567.dev.s.length : Nat), (0 : Int)) = _
  rw [cut_567]; rfl
theorem scan_56 : IsScan (l56.dev.s ++ l56.dev.t) [r5, r6] 27 := by
  have h := good_56.scan
  have e : (l56.dev.s ++ l56.dev.t).length = 27 := by simp [l56, len5, len6]
  rw [e] at h; exact h
theorem is_down (f n : Int) : Is ⟨⟨[], [], 10, true⟩, f, n⟩ none := fun rs h => by have := h.isUp; simp at this
theorem scan_odd : IsScan ([] ++ ((([] ++ enc r5) ++ enc r6) ++ [1])) [r5, r6] 27 := by
  obtain ⟨h1, h2, h3, h4⟩ := scan_56
  refine ⟨h1, h2, ?_, fun r hr => absurd hr (no_short ?_ r)⟩
  · rw [all56]; exact ⟨[1], by simp⟩
  · simp [len5, len6]
theorem is_odd : Is ⟨⟨[], (([] ++ enc r5) ++ enc r6) ++ [1], 1000, false⟩, 5, 7⟩ none :=
  no_good (s := []) (t := (([] ++ enc r5) ++ enc r6) ++ [1]) scan_odd (.inl (by simp [len5, len6]))
theorem is_first : Is ⟨⟨[], ([] ++ enc r5) ++ enc r6, 1000, false⟩, 4, 7⟩ none :=
  no_good (s := []) (t := ([] ++ enc r5) ++ enc r6) scan_56 (.inr (fun h => by have := h.1; simp at this))
theorem is_next : Is ⟨⟨[], ([] ++ enc r5) ++ enc r6, 1000, false⟩, 5, 6⟩ none :=
  no_good (s := []) (t := ([] ++ enc r5) ++ enc r6) scan_56 (.inr (fun h => by have := h.1; simp at this))
theorem is_empty : Is ⟨⟨[], [], 1000, false⟩, 3, 4⟩ none := no_good scan_none (.inr (fun h => by have := h.1; simp at this))
theorem is_neg : Is ⟨⟨[], [], 0, false⟩, -1, -1⟩ none := no_good scan_none (.inr (fun h => by have := h.2.2.1; omega))
theorem is_big : Is ⟨⟨[], [], 0, false⟩, 1000000002, 1000000002⟩ none := no_good scan_none (.inr (fun h => by have := h.2.2.2; omega))
theorem is_zero : Is ⟨⟨[], [], 0, false⟩, 0, 0⟩ (some []) := good_none 0 (by omega) (by omega) 0 (by omega) (by omega)
end WalEx
end Go.Proofs.Ytehagdpcegpbjaa
