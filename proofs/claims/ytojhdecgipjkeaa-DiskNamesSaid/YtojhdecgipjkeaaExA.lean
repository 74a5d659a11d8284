/- The examples of chapter 1, reckoned. Own work. -/
import Derived.Test.YtojhdecgipjkeaaDisk3
namespace Go.Proofs.Ytojhdecgipjkeaa
namespace Disk
theorem ex_run : run ⟨[], [], 10, false⟩ [⟨1, [97, 98], 0⟩, ⟨2, [], 0⟩, ⟨1, [99, 100, 101], 0⟩] = (⟨[97, 98], [99, 100, 101], 10, false⟩, 3, 0) := by rfl
theorem ex_read : read ⟨[97, 98], [99, 100, 101], 10, false⟩ 1 2 = ([98, 99], 0) := by rfl
theorem ex_crash : crash ⟨[97, 98], [99, 100, 101], 10, false⟩ 1 = (⟨[97, 98, 99], [], 10, true⟩, 0) := by rfl
theorem ex_start : start ⟨[97, 98, 99], [], 10, true⟩ = (⟨[97, 98, 99], [], 10, false⟩, 0) := by rfl
theorem ex_trunc : truncate ⟨[97, 98, 99], [], 10, false⟩ 1 = (⟨[97], [], 10, false⟩, 0) := by rfl
theorem ex_full : append ⟨[97, 98], [99, 100, 101], 10, false⟩ [49, 50, 51, 52, 53, 54] = (zero, 18) := by rfl
theorem ex_drop : drop ⟨[97, 98], [99, 100, 101], 10, false⟩ 1 = (⟨[98], [99, 100, 101], 10, false⟩, 0) := by rfl
theorem nm_new1 : new 20001 = (zero, 2) := by rfl
theorem nm_new2 : new (-1) = (zero, 2) := by rfl
theorem nm_new0 : new 0 = (⟨[], [], 0, false⟩, 0) := by rfl
theorem nm_crash3 : crash ⟨[97, 98], [99, 100, 101], 10, false⟩ 3 = (⟨[97, 98, 99, 100, 101], [], 10, true⟩, 0) := by rfl
theorem nm_size : size ⟨[97, 98, 99, 100, 101], [], 10, true⟩ = (5, 0) := by rfl
theorem nm_d1 : read ⟨[97, 98, 99, 100, 101], [], 10, true⟩ 0 0 = ([], 20) := by rfl
theorem nm_d2 : append ⟨[97, 98, 99, 100, 101], [], 10, true⟩ [] = (zero, 20) := by rfl
theorem nm_d3 : sync ⟨[97, 98, 99, 100, 101], [], 10, true⟩ = (zero, 20) := by rfl
theorem nm_d4 : truncate ⟨[97, 98, 99, 100, 101], [], 10, true⟩ 99 = (zero, 20) := by rfl
theorem nm_d5 : drop ⟨[97, 98, 99, 100, 101], [], 10, true⟩ 99 = (zero, 20) := by rfl
theorem nm_d6 : crash ⟨[97, 98, 99, 100, 101], [], 10, true⟩ 99 = (zero, 20) := by rfl
theorem nm_st : start ⟨[97, 98], [99, 100, 101], 10, false⟩ = (zero, 36) := by rfl
theorem nm_r1 : read ⟨[97, 98], [99, 100, 101], 10, false⟩ 0 6 = ([], 2) := by rfl
theorem nm_r2 : read ⟨[97, 98], [99, 100, 101], 10, false⟩ (-1) 1 = ([], 2) := by rfl
theorem nm_r3 : read ⟨[97, 98], [99, 100, 101], 10, false⟩ 2 (-1) = ([], 2) := by rfl
theorem nm_r4 : read ⟨[97, 98], [99, 100, 101], 10, false⟩ 5 0 = ([], 0) := by rfl
theorem nm_r5 : read ⟨[97, 98], [99, 100, 101], 10, false⟩ 9223372036854775807 9223372036854775807 = ([], 2) := by rfl
theorem nm_t1 : truncate ⟨[97, 98], [99, 100, 101], 10, false⟩ 6 = (zero, 2) := by rfl
theorem nm_t2 : truncate ⟨[97, 98], [99, 100, 101], 10, false⟩ (-1) = (zero, 2) := by rfl
theorem nm_t3 : truncate ⟨[97, 98], [99, 100, 101], 10, false⟩ 4 = (⟨[97, 98], [99, 100], 10, false⟩, 0) := by rfl
theorem nm_dr : drop ⟨[97, 98], [99, 100, 101], 10, false⟩ 3 = (zero, 2) := by rfl
theorem nm_cr : crash ⟨[97, 98], [99, 100, 101], 10, false⟩ 4 = (zero, 2) := by rfl
theorem nm_ap : append ⟨[97, 98], [99, 100, 101], 10, false⟩ [49, 50, 51, 52, 53] = (⟨[97, 98], [99, 100, 101, 49, 50, 51, 52, 53], 10, false⟩, 0) := by rfl
theorem nm_c1 : check ⟨[], [], -1, false⟩ = 8 := by rfl
theorem nm_c2 : check ⟨[], [], 20001, false⟩ = 8 := by rfl
theorem nm_c3 : check ⟨[97], [98], 1, false⟩ = 8 := by rfl
theorem nm_c4 : check ⟨[], [98], 5, true⟩ = 8 := by rfl
theorem nm_c5 : check ⟨[], [], 0, false⟩ = 0 := by rfl
theorem nm_c6 : check ⟨[97, 98], [99, 100, 101], 10, false⟩ = 0 := by rfl
end Disk
end Go.Proofs.Ytojhdecgipjkeaa
