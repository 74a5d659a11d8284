/- Opening: plain mathematics. Own work. -/
import Derived.Test.YtehagdpcegpbjaaGA
set_option linter.unusedVariables false
namespace Go.Proofs.Ytehagdpcegpbjaa
namespace Wal
open Frame
theorem open_of {d : Disk.Dev} {rs : List Rec} {u : Nat} {f : Int} (hs : IsScan (d.s ++ d.t) rs u) (hb : ¬ Disk.bad d) (h0 : 0 ≤ f) (h1 : f ≤ 1000000000) (hf : 0 < rs.length → base rs = f) :
    ∃ o : Log, open_ d f rs u = (o, 0) ∧ Good o rs ∧ o.first = f ∧ o.next = f + rs.length ∧ o.dev.t = [] ∧ o.dev.s = all rs := by
  have hsz := Disk.size_le hb
  unfold Disk.Dev.size at hsz
  have hle := scan_le hs
  rw [List.length_append] at hle
  have hal := (scan_back hs).1
  have hu := hs.2.1
  rcases Nat.eq_zero_or_pos rs.length with h2 | h2
  · have : rs = [] := List.eq_nil_of_length_eq_zero h2
    subst this
    refine ⟨⟨⟨[], [], d.cap, false⟩, f, f⟩, ?_, ⟨up_mk hsz.1 hsz.2.1 (by simp; omega), foll_nil, rfl, by simp, fun h => absurd h (by simp), h0, by simp only; omega⟩, rfl, by simp, rfl, rfl⟩
    unfold open_
    rw [if_neg hb, if_neg (by omega), if_pos (.inl rfl)]
  · have hbf := hf h2
    refine ⟨⟨⟨(d.s ++ d.t).take u, [], d.cap, false⟩, base rs, base rs + rs.length⟩, ?_, ⟨?_, hs.1, ?_, rfl, fun _ => rfl, by simp only; omega, by simp only; omega⟩, hbf, by simp only; omega, rfl, hal.symm⟩
    · unfold open_
      rw [if_neg hb, if_neg (by omega), if_neg (by omega)]
    · refine up_mk hsz.1 hsz.2.1 ?_
      simp only [List.length_take, List.length_append, List.length_nil]
      omega
    · simp only [List.append_nil]; exact hal.symm
theorem open_good {s t : List UInt8} {cap f n : Int} {rs : List Rec} (hg : Good ⟨⟨s, t, cap, false⟩, f, n⟩ rs) (h1 : f ≤ 1000000000) :
    ∃ o : Log, open_ ⟨s, t, cap, false⟩ f rs (s ++ t).length = (o, 0) ∧ Good o rs ∧ o.first = f ∧ o.next = n ∧ o.dev.t = [] ∧ o.dev.s = s ++ t := by
  have hr := hg.rng
  obtain ⟨o, h2, h3, h4, h5, h6, h7⟩ := open_of (d := ⟨s, t, cap, false⟩) (f := f) hg.scan hg.nb hr.1 h1 (fun h => (hg.2.2.2.2.1 h).symm)
  refine ⟨o, h2, h3, h4, ?_, h6, ?_⟩
  · rw [h5]; exact hg.2.2.2.1.symm
  · rw [h7]; exact hg.2.2.1.symm
theorem crash_scan {s t : List UInt8} {cap f n : Int} {rs : List Rec} (hg : Good ⟨⟨s, t, cap, false⟩, f, n⟩ rs) (k : Nat) (hk : k ≤ t.length) :
    IsScan ((s ++ t.take k) ++ []) (rs.take (cut rs (s.length + k))) (all (rs.take (cut rs (s.length + k)))).length ∧ ¬ Disk.bad ⟨s ++ t.take k, [], cap, true⟩ := by
  have h3 := hg.2.2.1
  simp only at h3
  have hlen := hg.len
  simp only at hlen
  refine ⟨?_, ?_⟩
  · have h := scan_cut hg.2.1 (s.length + k) (by omega)
    rw [← h3, List.take_append, List.take_of_length_le (by omega), Nat.add_sub_cancel_left] at h
    rw [List.append_nil]
    exact h
  · have hr := hg.room
    simp only [Disk.Dev.size] at hr
    rw [Disk.bad_iff]
    simp only [List.length_append, List.length_take, List.length_nil]
    omega
end Wal
end Go.Proofs.Ytehagdpcegpbjaa
