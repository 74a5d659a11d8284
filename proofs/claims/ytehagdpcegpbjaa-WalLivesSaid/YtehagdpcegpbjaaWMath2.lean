/- The examples of layer 4: plain mathematics. Own work. -/
import Derived.Test.YtehagdpcegpbjaaGA
set_option linter.unusedVariables false
set_option linter.unusedSimpArgs false
namespace Go.Proofs.Ytehagdpcegpbjaa
namespace WalEx
open Frame Wal

def r5 : Rec := ⟨5, [97]⟩
def r6 : Rec := ⟨6, [98, 99]⟩
def r7 : Rec := ⟨7, [100]⟩
def dev (s t : List UInt8) : Disk.Dev := ⟨s, t, 1000, false⟩
def b5 : List UInt8 := enc r5
def b56 : List UInt8 := enc r5 ++ enc r6
def lo : Log := ⟨⟨[], [], 1000, false⟩, 5, 5⟩
def l5 : Log := ⟨⟨[], [] ++ enc r5, 1000, false⟩, 5, 6⟩
def l56 : Log := ⟨⟨[], ([] ++ enc r5) ++ enc r6, 1000, false⟩, 5, 7⟩
def s56 : Log := ⟨⟨[] ++ (([] ++ enc r5) ++ enc r6), [], 1000, false⟩, 5, 7⟩
def l567 : Log := ⟨⟨[] ++ (([] ++ enc r5) ++ enc r6), [] ++ enc r7, 1000, false⟩, 5, 8⟩
theorem len5 : (enc r5).length = 13 := by rw [enc_length]; rfl
theorem len6 : (enc r6).length = 14 := by rw [enc_length]; rfl
theorem len7 : (enc r7).length = 13 := by rw [enc_length]; rfl
theorem good_none (n : Int) (h0 : 0 ≤ n) (h1 : n ≤ 1000000001) (cap : Int) (c0 : 0 ≤ cap) (c1 : cap ≤ 20000) : Good ⟨⟨[], [], cap, false⟩, n, n⟩ [] :=
  ⟨up_mk c0 c1 (by simpa using c0), foll_nil, rfl, by simp, fun h => absurd h (by simp), h0, h1⟩
theorem good_o : Good lo [] := good_none 5 (by omega) (by omega) 1000 (by omega) (by omega)
theorem good_5 : Good l5 [r5] := good_append good_o [97] (by simp) (by omega) (by simp)
theorem good_56 : Good l56 [r5, r6] := good_append good_5 [98, 99] (by simp) (by omega) (by simp [len5])
theorem good_s : Good s56 [r5, r6] := good_sync good_56
theorem good_567 : Good l567 [r5, r6, r7] := good_append good_s [100] (by simp) (by omega) (by simp [len5, len6])
theorem open_new (cap n : Int) (c0 : 0 ≤ cap) (c1 : cap ≤ 20000) (h0 : 0 ≤ n) (h1 : n ≤ 1000000000) : open_ ⟨[], [], cap, false⟩ n [] 0 = (⟨⟨[], [], cap, false⟩, n, n⟩, 0) := by
  unfold open_
  rw [if_neg (by rw [Disk.bad_iff]; simp; omega), if_neg (by omega), if_pos (.inl rfl)]
theorem scan_none : IsScan ([] ++ [] : List UInt8) [] 0 := scan_full foll_nil
theorem app (s t : List UInt8) (cap f n : Int) (b : List UInt8) (rs : List Rec) (hb : b.length ≤ 1000) (hn : n ≤ 1000000000) (hr : (s.length : Int) + t.length + (12 + b.length) ≤ cap) :
    append ⟨⟨s, t, cap, false⟩, f, n⟩ b (some rs) = (⟨⟨s, t ++ enc ⟨n, b⟩, cap, false⟩, f, n + 1⟩, n, 0) :=
  (if_neg (by omega)).trans ((if_neg (by simp only; omega)).trans (if_neg (by simp only [Disk.Dev.size]; omega)))
theorem app5 : append lo [97] (some []) = (l5, 5, 0) := app [] [] 1000 5 5 [97] [] (by simp) (by omega) (by simp)
theorem app6 : append l5 [98, 99] (some [r5]) = (l56, 6, 0) := app [] ([] ++ enc r5) 1000 5 6 [98, 99] [r5] (by simp) (by omega) (by simp [len5])
theorem app7 : append s56 [100] (some [r5, r6]) = (l567, 7, 0) := app ([] ++ (([] ++ enc r5) ++ enc r6)) [] 1000 5 7 [100] [r5, r6] (by simp) (by omega) (by simp [len5, len6])
theorem all56 : all [r5, r6] = [] ++ (([] ++ enc r5) ++ enc r6) := by simp [all]
theorem all567 : all [r5, r6, r7] = ([] ++ (([] ++ enc r5) ++ enc r6)) ++ ([] ++ enc r7) := by simp [all]
/-- The device behind the crash of the examples. -/
def dc : List UInt8 := ([] ++ (([] ++ enc r5) ++ enc r6)) ++ ([] ++ enc r7).take 12
theorem crash12 : crash l567 12 (some [r5, r6, r7]) = (⟨dc, [], 1000, true⟩, 0) := by
  show Disk.crash l567.dev 12 = _
  unfold Disk.crash
  rw [if_neg (by simpa using good_567.1), if_neg (by simp [l567, len7])]
  rfl
theorem dc_len : dc.length = 39 := by unfold dc; simp [len5, len6, len7]
theorem foll567 : Foll [r5, r6, r7] := good_567.2.1
theorem dc_is : dc = (all [r5, r6, r7]).take 39 := by
  rw [all567]
  unfold dc
  rw [List.take_append, List.take_of_length_le (by simp [len5, len6])]
  congr 2
theorem scan_dc : IsScan (dc ++ []) [r5, r6] 27 := by
  rw [List.append_nil, dc_is]
  have h := scan_torn foll567 39 2 (by simp) (by rw [all567]; simp [len5, len6, len7]) (by rw [show [r5, r6, r7].take 2 = [r5, r6] from rfl, all56]; simp [len5, len6])
    (.inr (by rw [show [r5, r6, r7].take (2 + 1) = [r5, r6, r7] from rfl, all567]; simp [len5, len6, len7]))
  rw [show [r5, r6, r7].take 2 = [r5, r6] from rfl, all56] at h
  have e : ([] ++ (([] ++ enc r5) ++ enc r6)).length = 27 := by simp [len5, len6]
  rw [e] at h
  exact h
theorem dc_bad (dn : Bool) : ¬ Disk.bad ⟨dc, [], 1000, dn⟩ := by rw [Disk.bad_iff, dc_len]; simp
def lr : Log := ⟨⟨dc.take 27, [], 1000, false⟩, 5, 7⟩
theorem open0 : open_ ⟨dc, [], 1000, true⟩ 0 [r5, r6] 27 = (lr, 0) := by
  unfold open_
  rw [if_neg (dc_bad true), if_neg (by omega), if_neg (by simp [base, r5])]
  simp only [List.append_nil]
  rfl
theorem dc27 : dc.take 27 = all [r5, r6] := by
  rw [all56]
  unfold dc
  rw [List.take_left' (by simp [len5, len6])]
theorem good_r : Good lr [r5, r6] := by
  refine ⟨up_mk (by omega) (by omega) (by rw [dc27, all56]; simp [len5, len6]), good_56.2.1, ?_, by simp [lr], fun _ => rfl, by simp [lr], by simp [lr]⟩
  show dc.take 27 ++ [] = _
  rw [List.append_nil, dc27]
theorem open9 : open_ ⟨dc, [], 1000, true⟩ 9 [r5, r6] 27 = (⟨⟨[], [], 1000, false⟩, 9, 9⟩, 0) := by
  unfold open_
  rw [if_neg (dc_bad true), if_neg (by omega), if_pos (.inr (by simp [base, r5]))]
theorem good_9 : Good ⟨⟨[], [], 1000, false⟩, 9, 9⟩ [] := good_none 9 (by omega) (by omega) 1000 (by omega) (by omega)
theorem cut_r : cut [r5, r6] lr.dev.s.length = 2 := by
  show cut [r5, r6] (dc.take 27).length = 2
  rw [dc27, cut_all]; rfl
def ld : Log := ⟨⟨(dc.take 27).drop 13, [], 1000, false⟩, 6, 7⟩
theorem drop6 : drop lr 6 (some [r5, r6]) = (ld, 0) := by
  have h1 : (all ([r5, r6].take 1)).length = 13 := by rw [show [r5, r6].take 1 = [r5] from rfl, all_one, len5]
  have hc : cut [r5, r6] lr.dev.s.length = 2 := cut_r
  have h3 : (all ([r5, r6].take ((6 : Int) - lr.first).toNat)).length = 13 := h1
  unfold Wal.drop
  simp only
  rw [if_neg (by simp [lr]), if_neg (by rw [hc]; simp [lr]), h3]
  rfl
theorem good_d : Good ld [r6] := by
  have h := good_drop (s := dc.take 27) (t := []) (cap := 1000) (f := 5) (n := 7) (rs := [r5, r6]) good_r 1 (by rw [show cut [r5, r6] (dc.take 27).length = 2 from cut_r]; omega)
  have h1 : (all ([r5, r6].take 1)).length = 13 := by rw [show [r5, r6].take 1 = [r5] from rfl, all_one, len5]
  rw [h1] at h
  exact h
theorem synced_56 : synced l56 (some [r5, r6]) = (5, 0) := by
  show ((5 : Int) + (cut [r5, r6] 0 : Nat), (0 : Int)) = _
  rfl
end WalEx
end Go.Proofs.Ytehagdpcegpbjaa
