import Derived.Test.YtddmcciegofneaaCrcAlive
import Derived.Test.YtddmcciegofneaaCrcTail
import Derived.Test.YtddmcciegofneaaCrcFour
import Derived.Test.YtddmcciegofneaaMake
set_option linter.unusedVariables false
namespace Go.Proofs.Ytddmcciegofneaa
open Go.RowKit

theorem sum_at' (A : Option Addr) (l : List UInt8) (n c : Nat) (hn : l.length = n) (w : World) (hl : RB w 0 A l) (hc : n ≤ c) (ll : n ≤ 9223372036854775807) :
    Calls Try.prog 9 #[.slice A n c] w fun e w' => e = .returned (.tuple #[.int .u32 ((Crc.sumE l).toNat : Int), .int .i64 (Crc.errE l)]) ∧ w = w' := by
  subst hn; exact sum_any A l c w hl hc ll
theorem update_at (x : BitVec 32) (v : Int) (hv : v = (x.toNat : Int)) (A : Option Addr) (l : List UInt8) (n c : Nat) (hn : l.length = n) (w : World) (hl : RB w 0 A l) (hc : n ≤ c) (ll : n ≤ 9223372036854775807) :
    Calls Try.prog 10 #[.int .u32 v, .slice A n c] w fun e w' => e = .returned (.tuple #[.int .u32 ((Crc.updE x l).toNat : Int), .int .i64 (Crc.errE l)]) ∧ w = w' := by
  subst hn; exact update_any x v hv A l c w hl hc ll
theorem tail_at (want : BitVec 32) (A : Option Addr) (l : List UInt8) (n c : Nat) (hn : l.length = n) (w : World) (hl : RB w 0 A l) (hc : n ≤ c) (ll : n ≤ 9223372036854775807) :
    Calls Try.prog 13 #[.slice A n c, .int .u32 (want.toNat : Int)] w fun e w' => e = .returned (.tuple #[.agg (four (Crc.tailE l want)), .int .i64 (Crc.errE l)]) ∧ Ab w w' := by
  subst hn; exact tail_any want A l c w hl hc ll

theorem nm_empty : Crc.sum [] = 0#32 := by decide +kernel
theorem nm_abc : Crc.sum [97, 98, 99] = 0x352441C2#32 := by decide +kernel
theorem nm_fox : Crc.sum [84, 104, 101, 32, 113, 117, 105, 99, 107, 32, 98, 114, 111, 119, 110, 32, 102, 111, 120, 32, 106, 117, 109, 112, 115, 32, 111, 118, 101, 114, 32, 116, 104, 101, 32, 108, 97, 122, 121, 32, 100, 111, 103] = 0x414FA339#32 := by decide +kernel
theorem nm_upd : Crc.updE 7#32 [] = 7#32 := by decide +kernel
theorem nm_row1 : Crc.rowE (-1) = (0#32, 2) := by decide +kernel
theorem nm_row2 : Crc.rowE 256 = (0#32, 2) := by decide +kernel
theorem nm_row3 : Crc.rowE 0 = (0#32, 0) := by decide +kernel
theorem nm_join1 : Crc.joinE 1#32 2#32 (-1) = (0#32, 2) := by decide +kernel
theorem nm_join2 : Crc.joinE 1#32 2#32 1000000001 = (0#32, 2) := by decide +kernel
theorem nm_join3 : ∃ J, Crc.joinE 1#32 2#32 1000000000 = (J, 0) := ⟨_, if_pos (by omega)⟩
theorem nm_join4 : Crc.joinE 5#32 9#32 0 = (12#32, 0) := by decide +kernel
theorem nm_tail : Crc.tailE [49, 50, 51, 52, 53] 0xCBF43926#32 = 0x39383736#32 := by decide +kernel
theorem nm_four : four 0x39383736#32 = #[.int .u8 54, .int .u8 55, .int .u8 56, .int .u8 57] := by kernel_rfl

set_option maxRecDepth 100000 in
set_option maxHeartbeats 3200000 in
theorem names_walk (w : World) : Calls Try.prog 3 #[] w fun e w' => e = .returned (.bool true) ∧ Ab w w' := by
  have kc := fun (w : World) (C : Array Value) (n c g : Nat) (hg : g = w.heap.size) => Joins.run_convert_bytes_const_at (P := Try.prog) w 27 5 C n c g hg Try.underlying27 Try.underlying5
  obtain ⟨Z1, l1, hl1, -, hm1, hr1⟩ := make_bytes 20001 (by omega) 20001 rfl
  obtain ⟨Z0, l0, hl0, -, hm0, hr0⟩ := make_bytes 20000 (by omega) 20000 rfl
  have HE1 : Hid (Crc.errE l1 = 4) := Lib.hid (Crc.errE_gt (by rw [hl1.out]; omega))
  have HE0 : Hid (Crc.errE l0 = 0) := Lib.hid (Crc.errE_le (by rw [hl0.out]; omega))
  have hfe : ∀ w : World, (Op.equalIn 10000 31 (.agg #[.int .u8 54, .int .u8 55, .int .u8 56, .int .u8 57]) (.agg #[.int .u8 54, .int .u8 55, .int .u8 56, .int .u8 57])).run Try.prog w = .ok true w := fun w => run_four_eq 54 55 56 57 54 55 56 57 w
  go_enter Try.func3, Try.ntmps3
  go_wp2_with fail
  refine (is_true [] 0#32 _ rfl (by simp) nm_empty _).mono ?_
  rintro e w1 ⟨rfl, hb1⟩
  go_wp2_with fail
  refine (is_true [97, 98, 99] 0x352441C2#32 _ rfl (by simp) nm_abc _).mono ?_
  rintro e w2 ⟨rfl, hb2⟩
  go_wp2_with fail
  refine (is_true [84, 104, 101, 32, 113, 117, 105, 99, 107, 32, 98, 114, 111, 119, 110, 32, 102, 111, 120, 32, 106, 117, 109, 112, 115, 32, 111, 118, 101, 114, 32, 116, 104, 101, 32, 108, 97, 122, 121, 32, 100, 111, 103] 0x414FA339#32 _ rfl (by simp) nm_fox _).mono ?_
  rintro e w3 ⟨rfl, hb3⟩
  go_wp2_with fail
  refine (sum_at' (some ⟨w3.heap.size, 0, none⟩) l1 20001 20001 hl1.out _ (hr1.out _ _ (0, 0) (by (repeat (first | exact new_plain (by first | (simp; done) | omega | (simp; omega)) | with_reducible refine old_alloc ?_ | with_reducible refine old_drew ?_ | with_reducible refine old_set ?_ (by first | (simp; done) | omega | (simp; omega)) | with_reducible refine old_ab (by assumption) ?_)))) (by omega) (by omega)).mono ?_
  rintro e w' ⟨rfl, rfl⟩
  rw [HE1.out]
  go_wp2_with fail
  refine (sum_at' (some ⟨w3.heap.size + 1, 0, none⟩) l0 20000 20000 hl0.out _ (hr0.out _ _ (0, 0) (by (repeat (first | exact new_plain (by first | (simp; done) | omega | (simp; omega)) | with_reducible refine old_alloc ?_ | with_reducible refine old_drew ?_ | with_reducible refine old_set ?_ (by first | (simp; done) | omega | (simp; omega)) | with_reducible refine old_ab (by assumption) ?_)))) (by omega) (by omega)).mono ?_
  rintro e w' ⟨rfl, rfl⟩
  rw [HE0.out]
  go_wp2_with fail
  refine (update_at 7#32 _ rfl (some ⟨w3.heap.size + 1 + 1, 0, none⟩) l1 20001 20001 hl1.out _ (hr1.out _ _ (0, 0) (by (repeat (first | exact new_plain (by first | (simp; done) | omega | (simp; omega)) | with_reducible refine old_alloc ?_ | with_reducible refine old_drew ?_ | with_reducible refine old_set ?_ (by first | (simp; done) | omega | (simp; omega)) | with_reducible refine old_ab (by assumption) ?_)))) (by omega) (by omega)).mono ?_
  rintro e w' ⟨rfl, rfl⟩
  rw [HE1.out]
  go_wp2_with fail
  refine (update_any 7#32 _ rfl none [] 0 _ RB.nil (by simp) (by simp)).mono ?_
  rintro e w' ⟨rfl, rfl⟩
  rw [nm_upd, show Crc.errE [] = 0 from rfl]
  go_wp2_with fail
  refine (row_any (-1) _ (by omega) (by omega)).mono ?_
  rintro e w4 ⟨rfl, hb4⟩
  rw [nm_row1]
  go_wp2_with fail
  refine (row_any (256) _ (by omega) (by omega)).mono ?_
  rintro e w5 ⟨rfl, hb5⟩
  rw [nm_row2]
  go_wp2_with fail
  refine (row_any (0) _ (by omega) (by omega)).mono ?_
  rintro e w6 ⟨rfl, hb6⟩
  rw [nm_row3]
  go_wp2_with fail
  refine (join_any 1#32 2#32 (-1) _ (by omega) (by omega)).mono ?_
  rintro e w7 ⟨rfl, hb7⟩
  rw [nm_join1]
  go_wp2_with fail
  refine (join_any 1#32 2#32 (1000000001) _ (by omega) (by omega)).mono ?_
  rintro e w8 ⟨rfl, hb8⟩
  rw [nm_join2]
  obtain ⟨J, hJ⟩ := nm_join3
  have HJ := Lib.hid hJ
  clear hJ
  go_wp2_with fail
  refine (join_any 1#32 2#32 (1000000000) _ (by omega) (by omega)).mono ?_
  rintro e w9 ⟨rfl, hb9⟩
  rw [HJ.out]
  go_wp2_with fail
  refine (join_any 5#32 9#32 (0) _ (by omega) (by omega)).mono ?_
  rintro e w10 ⟨rfl, hb10⟩
  rw [nm_join4]
  go_wp2_with fail
  refine (tail_at 1#32 (some ⟨w10.heap.size, 0, none⟩) l1 20001 20001 hl1.out _ (hr1.out _ _ (0, 0) (by (repeat (first | exact new_plain (by first | (simp; done) | omega | (simp; omega)) | with_reducible refine old_alloc ?_ | with_reducible refine old_drew ?_ | with_reducible refine old_set ?_ (by first | (simp; done) | omega | (simp; omega)) | with_reducible refine old_ab (by assumption) ?_)))) (by omega) (by omega)).mono ?_
  rintro e w11 ⟨rfl, hb11⟩
  rw [HE1.out]
  unfold four
  generalize Crc.byteAt (Crc.tailE l1 1#32) 0 = t0
  generalize Crc.byteAt (Crc.tailE l1 1#32) 1 = t1
  generalize Crc.byteAt (Crc.tailE l1 1#32) 2 = t2
  generalize Crc.byteAt (Crc.tailE l1 1#32) 3 = t3
  go_wp2_with fail
  refine (tail_any 0xCBF43926#32 (some ⟨w11.heap.size + 1, 0, none⟩) [49, 50, 51, 52, 53] 5 _ (RB.blk (T := 5) (fr := (5, 6)) (by (repeat (first | exact new_plain (by first | (simp; done) | omega | (simp; omega)) | with_reducible refine old_alloc ?_ | with_reducible refine old_drew ?_ | with_reducible refine old_set ?_ (by first | (simp; done) | omega | (simp; omega)) | with_reducible refine old_ab (by assumption) ?_))) (by omega)) (by simp) (by simp)).mono ?_
  rintro e w12 ⟨rfl, hb12⟩
  rw [nm_tail, nm_four, show Crc.errE [49, 50, 51, 52, 53] = 0 from rfl]
  go_wp2_with fail
  refine (alive_true _).mono ?_
  rintro e wz ⟨rfl, hbz⟩
  go_wp2
  go_ret
  exact ⟨rfl, (by repeat (first | with_reducible exact Ab.refl _ | with_reducible assumption | with_reducible refine Ab.drew ?_ | with_reducible refine Ab.drewN ?_ _ | with_reducible refine Ab.alloc ?_ _ | with_reducible refine Ab.trans ?_ (by assumption) | with_reducible refine Ab.set ?_ (by first | (simp; done) | omega | (simp; omega)) _))⟩
end Go.Proofs.Ytddmcciegofneaa
