/- The examples of layer 2. Own work. -/
import Derived.Test.YtddmcciegofneaaCrcJoin2
set_option linter.unusedVariables false
set_option linter.unusedSimpArgs false
namespace Go.Proofs.Ytddmcciegofneaa
open Go.RowKit

theorem is_true (l : List UInt8) (want : BitVec 32) (v : Int) (hv : v = (want.toNat : Int)) (hlen : l.length ≤ 20000) (h : Crc.sum l = want) (w : World) :
    Calls Try.prog 8 #[.string ⟨l.toArray⟩, .int .u32 v] w (RetTrue w) := by
  subst hv
  have hcv := conv_bytes w l
  have hcap := grownCap_ge w l.length 0 5
  have HS : Hid (Crc.sumE l = want) := Lib.hid ((Crc.sumE_le hlen).trans h)
  have HE : Hid (Crc.errE l = 0) := Lib.hid (Crc.errE_le hlen)
  clear h
  generalize hC : grownCap w l.length 0 5 = C at hcv hcap
  clear hC
  go_enter Try.func8, Try.ntmps8
  go_wp2_with fail
  refine (sum_any (some ⟨w.heap.size, 0, none⟩) l C _ (rb_row (c := C) (T := 5) (fr := ((bytesRow ⟨l.toArray⟩ C).size, (bytesRow ⟨l.toArray⟩ C).size + 1)) (by (repeat (first | with_reducible exact new_drew (by first | (simp; done) | (simp; omega)) | with_reducible exact new_plain (by first | (simp; done) | (simp; omega)) | with_reducible exact new_drewN (by first | (simp; done) | (simp; omega)) | with_reducible refine old_alloc ?_ | with_reducible refine old_drew ?_ | with_reducible refine old_drewN ?_ _ | with_reducible refine old_grown (by assumption) (by simp) ?_ | with_reducible refine old_ab (by assumption) ?_)))) hcap (by omega)).mono ?_
  rintro e w' ⟨rfl, rfl⟩
  rw [HS.out, HE.out]
  go_wp2
  go_ret
  exact ⟨rfl, (by repeat (first | with_reducible exact Ab.refl _ | with_reducible assumption | with_reducible refine Ab.drew ?_ | with_reducible refine Ab.drewN ?_ _ | with_reducible refine Ab.alloc ?_ _ | with_reducible refine Ab.trans ?_ (by assumption) | with_reducible refine Ab.set ?_ (by first | (simp; done) | omega | (simp; omega)) _))⟩

theorem ex_row1 : Crc.rowE 1 = (0x77073096#32, 0) := by decide +kernel
theorem ex_row128 : Crc.rowE 128 = (0xEDB88320#32, 0) := by decide +kernel
theorem ex_sum4 : Crc.sumE [49, 50, 51, 52] = 0x9BE3E0A3#32 := by decide +kernel
theorem ex_sum5 : Crc.sumE [53, 54, 55, 56, 57] = 0x131DA070#32 := by decide +kernel
theorem ex_join : Crc.joinE 0x9BE3E0A3#32 0x131DA070#32 5 = (0xCBF43926#32, 0) := by decide +kernel
theorem ex_nine : Crc.sum [49, 50, 51, 52, 53, 54, 55, 56, 57] = 0xCBF43926#32 := by decide +kernel
theorem ex_a : Crc.sum [97] = 0xE8B7BE43#32 := by decide +kernel

set_option maxHeartbeats 1600000 in
theorem alive_true (w : World) : Calls Try.prog 14 #[] w (RetTrue w) := by
  have kc := fun (w : World) (C : Array Value) (n c g : Nat) (hg : g = w.heap.size) => Joins.run_convert_bytes_const_at (P := Try.prog) w 27 5 C n c g hg Try.underlying27 Try.underlying5
  go_enter Try.func14, Try.ntmps14
  go_wp2_with fail
  refine (row_any 1 _ (by omega) (by omega)).mono ?_
  rintro e w1 ⟨rfl, hb1⟩
  rw [ex_row1]
  go_wp2_with fail
  refine (row_any 128 _ (by omega) (by omega)).mono ?_
  rintro e w2 ⟨rfl, hb2⟩
  rw [ex_row128]
  go_wp2_with fail
  refine (sum_any (some ⟨w2.heap.size, 0, none⟩) [49, 50, 51, 52] 4 _ (RB.blk (T := 5) (fr := (4, 5)) (by (repeat (first | exact new_plain (by first | (simp; done) | omega | (simp; omega)) | with_reducible refine old_alloc ?_ | with_reducible refine old_drew ?_ | with_reducible refine old_set ?_ (by first | (simp; done) | omega | (simp; omega)) | with_reducible refine old_ab (by assumption) ?_))) (by omega)) (by simp) (by simp)).mono ?_
  rintro e w' ⟨rfl, rfl⟩
  rw [ex_sum4, show Crc.errE [49, 50, 51, 52] = 0 from rfl]
  go_wp2_with fail
  refine (sum_any (some ⟨w2.heap.size + 1, 0, none⟩) [53, 54, 55, 56, 57] 5 _ (RB.blk (T := 5) (fr := (5, 6)) (by (repeat (first | exact new_plain (by first | (simp; done) | omega | (simp; omega)) | with_reducible refine old_alloc ?_ | with_reducible refine old_drew ?_ | with_reducible refine old_set ?_ (by first | (simp; done) | omega | (simp; omega)) | with_reducible refine old_ab (by assumption) ?_))) (by omega)) (by simp) (by simp)).mono ?_
  rintro e w' ⟨rfl, rfl⟩
  rw [ex_sum5, show Crc.errE [53, 54, 55, 56, 57] = 0 from rfl]
  go_wp2_with fail
  refine (join_any 0x9BE3E0A3#32 0x131DA070#32 5 _ (by omega) (by omega)).mono ?_
  rintro e w3 ⟨rfl, hb3⟩
  rw [ex_join]
  go_wp2_with fail
  refine (is_true [49, 50, 51, 52, 53, 54, 55, 56, 57] 0xCBF43926#32 _ rfl (by simp) ex_nine _).mono ?_
  rintro e w4 ⟨rfl, hb4⟩
  go_wp2_with fail
  refine (is_true [97] 0xE8B7BE43#32 _ rfl (by simp) ex_a _).mono ?_
  rintro e w5 ⟨rfl, hb5⟩
  go_wp2
  go_ret
  exact ⟨rfl, (by repeat (first | with_reducible exact Ab.refl _ | with_reducible assumption | with_reducible refine Ab.drew ?_ | with_reducible refine Ab.drewN ?_ _ | with_reducible refine Ab.alloc ?_ _ | with_reducible refine Ab.trans ?_ (by assumption) | with_reducible refine Ab.set ?_ (by first | (simp; done) | omega | (simp; omega)) _))⟩
end Go.Proofs.Ytddmcciegofneaa
