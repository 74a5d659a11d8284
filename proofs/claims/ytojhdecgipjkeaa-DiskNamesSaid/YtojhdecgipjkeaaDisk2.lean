/- Sizes of what the functions of layer 1 come to. Own work. -/
import Derived.Test.YtojhdecgipjkeaaDisk
namespace Go.Proofs.Ytojhdecgipjkeaa
namespace Disk
theorem new_len (c : Int) : (Disk.new c).1.s.length ≤ 4000000 ∧ (Disk.new c).1.t.length ≤ 4000000 := by
  unfold Disk.new; split <;> simp [Disk.zero]
theorem read_len (d : Dev) (a n : Int) : (Disk.read d a n).1.length ≤ d.size := by
  unfold Disk.read
  split
  · simp
  · split
    · simp
    · simp [Dev.all, Dev.size]; omega
/-- The parts of a device are not longer than so. -/
def Short (m : Nat) (d : Dev) : Prop := d.s.length ≤ m ∧ d.t.length ≤ m
theorem short_zero (m : Nat) : Short m Disk.zero := ⟨Nat.zero_le _, Nat.zero_le _⟩
theorem append_len {d : Dev} {b : List UInt8} {m k : Nat} (h : Short m d) (hb : b.length ≤ k) : Short (m + k) (append d b).1 := by
  unfold append; split
  · exact short_zero _
  · split
    · exact short_zero _
    · exact ⟨Nat.le_trans h.1 (by omega), by have := h.2; simp; omega⟩
theorem sync_len {d : Dev} {m : Nat} (h : Short m d) : Short (m + m) (sync d).1 := by
  unfold sync; split
  · exact short_zero _
  · exact ⟨by have := h.1; have := h.2; simp; omega, Nat.zero_le _⟩
theorem truncate_len {d : Dev} {m : Nat} (n : Int) (h : Short m d) : Short m (truncate d n).1 := by
  have h1 := h.1; have h2 := h.2
  unfold truncate; split
  · exact short_zero _
  · split
    · exact short_zero _
    · exact ⟨by simp; omega, by simp; omega⟩
theorem drop_len {d : Dev} {m : Nat} (n : Int) (h : Short m d) : Short m (drop d n).1 := by
  have h1 := h.1; have h2 := h.2
  unfold drop; split
  · exact short_zero _
  · split
    · exact short_zero _
    · exact ⟨by simp; omega, h2⟩
theorem crash_len {d : Dev} {m : Nat} (n : Int) (h : Short m d) : Short (m + m) (crash d n).1 := by
  have h1 := h.1; have h2 := h.2
  unfold crash; split
  · exact short_zero _
  · split
    · exact short_zero _
    · exact ⟨by simp; omega, Nat.zero_le _⟩
theorem start_len {d : Dev} {m : Nat} (h : Short m d) : Short m (Disk.start d).1 := by
  unfold Disk.start; split
  · exact short_zero _
  · split
    · exact short_zero _
    · exact ⟨h.1, Nat.zero_le _⟩
end Disk
end Go.Proofs.Ytojhdecgipjkeaa
