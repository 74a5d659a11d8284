/- A log's life: one step keeps what is known: plain mathematics. Own work. -/
import Derived.Test.YtehagdpcegpbjaaWMath3
set_option linter.unusedVariables false
namespace Go.Proofs.Ytehagdpcegpbjaa
namespace Wal
open Frame
variable {f cap n : Int} {i a : Nat} {s t : List UInt8} {rs : List Rec}
theorem open_cap {d : Disk.Dev} {rs : List Rec} {u : Nat} {f : Int} {o : Log} (h : open_ d f rs u = (o, 0)) : o.dev.cap = d.cap := by
  unfold open_ at h
  split at h
  · cases h
  · split at h
    · cases h
    · split at h
      · cases h; rfl
      · cases h; rfl

/-- What is known of the log after 'i' steps: its records are 'rs', the first 'a' of them are synced. -/
def Live (f cap : Int) (i : Nat) (s t : List UInt8) (n : Int) (rs : List Rec) (a : Nat) : Prop :=
  Good ⟨⟨s, t, cap, false⟩, f, n⟩ rs ∧ f ≤ 1000000 ∧ 4000 ≤ cap ∧ (s.length + t.length ≤ 62 * i) ∧ rs.length ≤ i ∧ a ≤ cut rs s.length

theorem live_none {f cap : Int} (h0 : 0 ≤ f) (h1 : f ≤ 1000000) (c0 : 4000 ≤ cap) (c1 : cap ≤ 20000) : Live f cap 0 [] [] f [] 0 :=
  ⟨⟨up_mk (by omega) c1 (by simp; omega), foll_nil, rfl, by simp, fun h => absurd h (by simp), h0, by simp only; omega⟩, h1, c0, by simp, by simp, Nat.zero_le _⟩
theorem Live.later (h : Live f cap i s t n rs a) : Live f cap (i + 1) s t n rs a :=
  ⟨h.1, h.2.1, h.2.2.1, by have := h.2.2.2.1; omega, by have := h.2.2.2.2.1; omega, h.2.2.2.2.2⟩
theorem cut_snoc (rs : List Rec) (r : Rec) (n : Nat) : cut rs n ≤ cut (rs ++ [r]) n := by
  refine le_cut ?_ ?_
  · have := cut_le rs n; simp; omega
  · rw [List.take_append_of_le_length (cut_le rs n)]; exact cut_in rs n
theorem live_append (h : Live f cap i s t n rs a) (hi : i < 20) (b : List UInt8) (hb : b.length ≤ 50) :
    append ⟨⟨s, t, cap, false⟩, f, n⟩ b (some rs) = (⟨⟨s, t ++ enc ⟨n, b⟩, cap, false⟩, f, n + 1⟩, n, 0) ∧ Live f cap (i + 1) s (t ++ enc ⟨n, b⟩) (n + 1) (rs ++ [⟨n, b⟩]) a := by
  obtain ⟨h1, h2, h3, h4, h5, h6⟩ := h
  have hn : n = f + rs.length := h1.2.2.2.1
  refine ⟨?_, good_append h1 b (by omega) (by omega) (by omega), h2, h3, ?_, ?_, Nat.le_trans h6 (cut_snoc rs _ _)⟩
  · exact (if_neg (by omega)).trans ((if_neg (by simp only; omega)).trans (if_neg (by simp only [Disk.Dev.size]; omega)))
  · rw [List.length_append, enc_length]; simp only; omega
  · rw [List.length_append]; simp only [List.length_cons, List.length_nil]; omega
theorem live_sync (h : Live f cap i s t n rs a) : Live f cap (i + 1) (s ++ t) [] n rs rs.length := by
  obtain ⟨h1, h2, h3, h4, h5, h6⟩ := h
  refine ⟨good_sync h1, h2, h3, by simp; omega, by omega, ?_⟩
  have h7 : s ++ t = all rs := h1.2.2.1
  rw [h7, cut_all]
  exact Nat.le_refl _
theorem live_crash (h : Live f cap i s t n rs a) (k : Nat) (hk : k ≤ t.length) :
    ∃ (m : Nat) (o : Log), m ≤ rs.length ∧ a ≤ m ∧ IsScan ((s ++ t.take k) ++ []) (rs.take m) (all (rs.take m)).length ∧ ¬ Disk.bad ⟨s ++ t.take k, [], cap, true⟩ ∧
      open_ ⟨s ++ t.take k, [], cap, true⟩ f (rs.take m) (all (rs.take m)).length = (o, 0) ∧ o = ⟨⟨all (rs.take m), [], cap, false⟩, f, f + m⟩ ∧
      Live f cap (i + 1) (all (rs.take m)) [] (f + m) (rs.take m) m := by
  obtain ⟨h1, h2, h3, h4, h5, h6⟩ := h
  obtain ⟨c1, c2⟩ := crash_scan h1 k hk
  have hr := h1.rng
  have hm := cut_le rs (s.length + k)
  have ha : a ≤ cut rs (s.length + k) := Nat.le_trans h6 (cut_mono rs (by omega))
  generalize cut rs (s.length + k) = m at c1 hm ha
  have hl : (rs.take m).length = m := by rw [List.length_take]; omega
  obtain ⟨o, o1, o2, o3, o4, o5, o6⟩ := open_of (d := ⟨s ++ t.take k, [], cap, true⟩) (f := f) c1 c2 hr.1 (by omega) (fun h => by
    rw [base_take rs m (by omega)]; exact (h1.2.2.2.2.1 (by omega)).symm)
  have o7 := open_cap o1
  have o8 := o2.isUp
  obtain ⟨⟨os, ot, oc, od⟩, of, on⟩ := o
  simp only at o3 o4 o5 o6 o7 o8
  subst o3 o5 o6 o7 o8
  rw [hl] at o4
  subst o4
  have h8 := h1.len
  simp only at h8
  have h9 := take_le rs m
  exact ⟨m, _, hm, ha, c1, c2, o1, rfl, o2, h2, h3, by simp only [List.length_nil]; omega, by omega, by
    have := cut_all (rs.take m); rw [hl] at this; rw [this]; exact Nat.le_refl _⟩
end Wal
end Go.Proofs.Ytehagdpcegpbjaa
