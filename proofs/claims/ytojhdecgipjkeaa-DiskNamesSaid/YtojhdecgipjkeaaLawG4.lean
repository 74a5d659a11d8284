import Derived.Test.YtojhdecgipjkeaaLawG2
import Derived.Test.YtojhdecgipjkeaaLawD
import Derived.Laws.MakeOwn
import Derived.OwnWalk
set_option linter.unusedVariables false
set_option linter.unusedSimpArgs false
namespace Go.Proofs.Ytojhdecgipjkeaa
open Go.RowKit Disk

theorem mk201 : ∃ Z : Array Value, ∀ w : World, (Instr.makeSlice 40 (.int .i64 201) (.int .i64 201)).run Try.prog w = .ok (.slice (some ⟨w.heap.size, 0, none⟩) 201 201) (w.alloc (.cells Z 39)) := by
  have hi8 : (Try.prog.info? 39).map (fun i => (i.zero, i.size, i.bytes)) = some (some (.agg #[.int .u8 0, .slice none 0 0, .int .i64 0]), 3, 40) := by kernel_rfl
  obtain ⟨i0, hi, hz, hs, hb⟩ := info_parts hi8
  refine ⟨madeCells (Value.agg #[.int .u8 0, .slice none 0 0, .int .i64 0]).cells 603, fun w => ?_⟩
  have := run_makeSlice (P := Try.prog) w 40 39 i0 _ Try.underlying40 hi hz .i64 .i64 201 201 (by omega) (Int.le_refl _) (by rw [hs]; decide) (by rw [hb]; omega) (by omega)
  rw [hs] at this
  exact this
/-- Behind the last call. -/
def NK (wz : World) (act : Act) (wx : World) : Prop :=
  act.defers = [] ∧ (act.tmps.size = 375 ∧ act.tmps.getD 1 undef = .bool true ∧ act.tmps.getD 26 undef = .bool true ∧ act.tmps.getD 49 undef = .bool true ∧ act.tmps.getD 56 undef = .int .i64 0 ∧ act.tmps.getD 57 undef = .int .i64 4) ∧ Ab wz wx
set_option maxRecDepth 1000000 in
set_option maxHeartbeats 9600000 in
theorem names_walk (w : World) : Calls Try.prog 3 #[] w fun e w' => e = .returned (.bool true) ∧ Ab w w' := by
  have kc := fun (w : World) (C : Array Value) (n c g : Nat) (hg : g = w.heap.size) => Joins.run_convert_bytes_const_at (P := Try.prog) w 24 5 C n c g hg Try.underlying24 Try.underlying5
  go_enter Try.func3, Try.ntmps3
  go_wp2_with fail
  refine (check_any _ _ _ _ [] [] (-1) false _ (by simp) (by simp)).mono ?_
  rintro e w1 ⟨r1, h1, rfl, hb1⟩
  obtain rfl : r1 = 8 := h1.out.trans nm_c1
  clear h1
  go_wp2_with fail
  refine (check_any _ _ _ _ [] [] 20001 false _ (by simp) (by simp)).mono ?_
  rintro e w2 ⟨r2, h2, rfl, hb2⟩
  obtain rfl : r2 = 8 := h2.out.trans nm_c2
  clear h2
  go_wp2_with fail
  refine (check_any _ _ _ _ [97] [98] 1 false _ (by simp) (by simp)).mono ?_
  rintro e w3 ⟨r3, h3, rfl, hb3⟩
  obtain rfl : r3 = 8 := h3.out.trans nm_c3
  clear h3
  go_wp2_with fail
  refine (check_any _ _ _ _ [] [98] 5 true _ (by simp) (by simp)).mono ?_
  rintro e w4 ⟨r4, h4, rfl, hb4⟩
  obtain rfl : r4 = 8 := h4.out.trans nm_c4
  clear h4
  go_wp2_with fail
  refine (check_any _ _ _ _ [] [] 0 false _ (by simp) (by simp)).mono ?_
  rintro e w5 ⟨r5, h5, rfl, hb5⟩
  obtain rfl : r5 = 0 := h5.out.trans nm_c5
  clear h5
  go_wp2_with fail
  refine (given_any _).mono ?_
  rintro e w6 ⟨A6, B6, c6, d6, rfl, p6, q6, l6, m6, hb6⟩
  go_wp2_with fail
  refine (check_any _ _ _ _ [97, 98] [99, 100, 101] 10 false _ (by simp) (by simp)).mono ?_
  rintro e w7 ⟨r7, h7, rfl, hb7⟩
  obtain rfl : r7 = 0 := h7.out.trans nm_c6
  clear h7
  clear p6 q6 l6 m6
  go_wp2_with fail
  refine (new_any (20001) _).mono ?_
  rintro e w8 ⟨r8, f8, A8, B8, c8, d8, h8, rfl, p8, q8, hb8⟩
  obtain ⟨rfl, rfl⟩ := Prod.mk.inj (h8.out.trans nm_new1)
  clear h8 p8 q8
  go_wp2_with fail
  refine (new_any (-1) _).mono ?_
  rintro e w9 ⟨r9, f9, A9, B9, c9, d9, h9, rfl, p9, q9, hb9⟩
  obtain ⟨rfl, rfl⟩ := Prod.mk.inj (h9.out.trans nm_new2)
  clear h9 p9 q9
  go_wp2_with fail
  refine (new_any (0) _).mono ?_
  rintro e w10 ⟨r10, f10, A10, B10, c10, d10, h10, rfl, p10, q10, hb10⟩
  obtain ⟨rfl, rfl⟩ := Prod.mk.inj (h10.out.trans nm_new0)
  clear h10 p10 q10
  go_wp2_with fail
  refine (given_any _).mono ?_
  rintro e w11 ⟨A11, B11, c11, d11, rfl, p11, q11, l11, m11, hb11⟩
  go_wp2_with fail
  refine (crash_any A11 B11 c11 d11 [97, 98] [99, 100, 101] 10 false _ (RB.ab p11.zero (by repeat (first | with_reducible exact Ab.refl _ | with_reducible assumption | with_reducible refine Ab.drew ?_ | with_reducible refine Ab.drewN ?_ _ | with_reducible refine Ab.alloc ?_ _ | with_reducible refine Ab.trans ?_ (by assumption) | with_reducible refine Ab.set ?_ (by first | (simp; done) | omega | (simp; omega)) _))) (RB.ab q11.zero (by repeat (first | with_reducible exact Ab.refl _ | with_reducible assumption | with_reducible refine Ab.drew ?_ | with_reducible refine Ab.drewN ?_ _ | with_reducible refine Ab.alloc ?_ _ | with_reducible refine Ab.trans ?_ (by assumption) | with_reducible refine Ab.set ?_ (by first | (simp; done) | omega | (simp; omega)) _))) l11 m11 (by simp) (by simp) 3).mono ?_
  rintro e w12 ⟨r12, f12, A12, B12, c12, d12, h12, rfl, p12, q12, hb12⟩
  obtain ⟨rfl, rfl⟩ := Prod.mk.inj (h12.out.trans nm_crash3)
  clear h12 p11 q11 l11 m11
  go_wp2_with fail
  refine (size_any A12 B12 c12 d12 [97, 98, 99, 100, 101] [] 10 true _ (by simp) (by simp)).mono ?_
  rintro e w13 ⟨r13, f13, h13, rfl, hb13⟩
  obtain ⟨rfl, rfl⟩ := Prod.mk.inj (h13.out.trans nm_size)
  clear h13
  have k13q0 : w13.cell? ⟨w12.heap.size, 0, none⟩ = some (.slice A12 5 c12) := by (repeat (first | with_reducible assumption | (simp [go_sem]; done) | with_reducible apply cell_alloc | with_reducible apply cell_drew | with_reducible apply cell_drewN | (with_reducible apply Ab.at; with_reducible assumption) | (with_reducible refine cell_set ?_ ?_; rotate_left; focus (first | (simp; done) | (simp; omega))) | (with_reducible refine cell_setb ?_ ?_; rotate_left; focus (first | omega | (simp only; omega) | (simp; omega)))))
  have k13q1 : w13.cell? ⟨w12.heap.size, 1, none⟩ = some (.slice B12 0 d12) := by (repeat (first | with_reducible assumption | (simp [go_sem]; done) | with_reducible apply cell_alloc | with_reducible apply cell_drew | with_reducible apply cell_drewN | (with_reducible apply Ab.at; with_reducible assumption) | (with_reducible refine cell_set ?_ ?_; rotate_left; focus (first | (simp; done) | (simp; omega))) | (with_reducible refine cell_setb ?_ ?_; rotate_left; focus (first | omega | (simp only; omega) | (simp; omega)))))
  have k13q2 : w13.cell? ⟨w12.heap.size, 2, none⟩ = some (.int .i64 10) := by (repeat (first | with_reducible assumption | (simp [go_sem]; done) | with_reducible apply cell_alloc | with_reducible apply cell_drew | with_reducible apply cell_drewN | (with_reducible apply Ab.at; with_reducible assumption) | (with_reducible refine cell_set ?_ ?_; rotate_left; focus (first | (simp; done) | (simp; omega))) | (with_reducible refine cell_setb ?_ ?_; rotate_left; focus (first | omega | (simp only; omega) | (simp; omega)))))
  have k13q3 : w13.cell? ⟨w12.heap.size, 3, none⟩ = some (.bool true) := by (repeat (first | with_reducible assumption | (simp [go_sem]; done) | with_reducible apply cell_alloc | with_reducible apply cell_drew | with_reducible apply cell_drewN | (with_reducible apply Ab.at; with_reducible assumption) | (with_reducible refine cell_set ?_ ?_; rotate_left; focus (first | (simp; done) | (simp; omega))) | (with_reducible refine cell_setb ?_ ?_; rotate_left; focus (first | omega | (simp only; omega) | (simp; omega)))))
  have k13z : w12.heap.size < w13.heap.size := cell_lt k13q0
  go_wp2_with fail
  refine (read_any A12 B12 c12 d12 [97, 98, 99, 100, 101] [] 10 true _ (RB.ab p12.rb.zero (by repeat (first | with_reducible exact Ab.refl _ | with_reducible assumption | with_reducible refine Ab.drew ?_ | with_reducible refine Ab.drewN ?_ _ | with_reducible refine Ab.alloc ?_ _ | with_reducible refine Ab.trans ?_ (by assumption) | with_reducible refine Ab.set ?_ (by first | (simp; done) | omega | (simp; omega)) _))) (RB.ab q12.rb.zero (by repeat (first | with_reducible exact Ab.refl _ | with_reducible assumption | with_reducible refine Ab.drew ?_ | with_reducible refine Ab.drewN ?_ _ | with_reducible refine Ab.alloc ?_ _ | with_reducible refine Ab.trans ?_ (by assumption) | with_reducible refine Ab.set ?_ (by first | (simp; done) | omega | (simp; omega)) _))) p12.le q12.le (by simp) (by simp) (0) (0) (by omega) (by omega)).mono ?_
  rintro e w14 ⟨r14, f14, A14, c14, h14, rfl, p14, l14, hb14⟩
  obtain ⟨rfl, rfl⟩ := Prod.mk.inj (h14.out.trans nm_d1)
  clear h14 p14 l14
  have k14q0 : w14.cell? ⟨w12.heap.size, 0, none⟩ = some (.slice A12 5 c12) := by (repeat (first | with_reducible assumption | (simp [go_sem]; done) | with_reducible apply cell_alloc | with_reducible apply cell_drew | with_reducible apply cell_drewN | (with_reducible apply Ab.at; with_reducible assumption) | (with_reducible refine cell_set ?_ ?_; rotate_left; focus (first | (simp; done) | (simp; omega))) | (with_reducible refine cell_setb ?_ ?_; rotate_left; focus (first | omega | (simp only; omega) | (simp; omega)))))
  have k14q1 : w14.cell? ⟨w12.heap.size, 1, none⟩ = some (.slice B12 0 d12) := by (repeat (first | with_reducible assumption | (simp [go_sem]; done) | with_reducible apply cell_alloc | with_reducible apply cell_drew | with_reducible apply cell_drewN | (with_reducible apply Ab.at; with_reducible assumption) | (with_reducible refine cell_set ?_ ?_; rotate_left; focus (first | (simp; done) | (simp; omega))) | (with_reducible refine cell_setb ?_ ?_; rotate_left; focus (first | omega | (simp only; omega) | (simp; omega)))))
  have k14q2 : w14.cell? ⟨w12.heap.size, 2, none⟩ = some (.int .i64 10) := by (repeat (first | with_reducible assumption | (simp [go_sem]; done) | with_reducible apply cell_alloc | with_reducible apply cell_drew | with_reducible apply cell_drewN | (with_reducible apply Ab.at; with_reducible assumption) | (with_reducible refine cell_set ?_ ?_; rotate_left; focus (first | (simp; done) | (simp; omega))) | (with_reducible refine cell_setb ?_ ?_; rotate_left; focus (first | omega | (simp only; omega) | (simp; omega)))))
  have k14q3 : w14.cell? ⟨w12.heap.size, 3, none⟩ = some (.bool true) := by (repeat (first | with_reducible assumption | (simp [go_sem]; done) | with_reducible apply cell_alloc | with_reducible apply cell_drew | with_reducible apply cell_drewN | (with_reducible apply Ab.at; with_reducible assumption) | (with_reducible refine cell_set ?_ ?_; rotate_left; focus (first | (simp; done) | (simp; omega))) | (with_reducible refine cell_setb ?_ ?_; rotate_left; focus (first | omega | (simp only; omega) | (simp; omega)))))
  have k14z : w12.heap.size < w14.heap.size := cell_lt k14q0
  go_wp2_with fail
  refine (append_any A12 B12 c12 d12 [97, 98, 99, 100, 101] [] 10 true _ (RB.ab p12.rb.zero (by repeat (first | with_reducible exact Ab.refl _ | with_reducible assumption | with_reducible refine Ab.drew ?_ | with_reducible refine Ab.drewN ?_ _ | with_reducible refine Ab.alloc ?_ _ | with_reducible refine Ab.trans ?_ (by assumption) | with_reducible refine Ab.set ?_ (by first | (simp; done) | omega | (simp; omega)) _))) (RB.ab q12.rb.zero (by repeat (first | with_reducible exact Ab.refl _ | with_reducible assumption | with_reducible refine Ab.drew ?_ | with_reducible refine Ab.drewN ?_ _ | with_reducible refine Ab.alloc ?_ _ | with_reducible refine Ab.trans ?_ (by assumption) | with_reducible refine Ab.set ?_ (by first | (simp; done) | omega | (simp; omega)) _))) p12.le q12.le (by simp) (by simp) none 0 [] RB.nil (by simp) (by simp)).mono ?_
  rintro e w15 ⟨r15, f15, A15, B15, c15, d15, h15, rfl, p15, q15, hb15⟩
  obtain ⟨rfl, rfl⟩ := Prod.mk.inj (h15.out.trans nm_d2)
  clear h15 p15 q15
  have k15q0 : w15.cell? ⟨w12.heap.size, 0, none⟩ = some (.slice A12 5 c12) := by (repeat (first | with_reducible assumption | (simp [go_sem]; done) | with_reducible apply cell_alloc | with_reducible apply cell_drew | with_reducible apply cell_drewN | (with_reducible apply Ab.at; with_reducible assumption) | (with_reducible refine cell_set ?_ ?_; rotate_left; focus (first | (simp; done) | (simp; omega))) | (with_reducible refine cell_setb ?_ ?_; rotate_left; focus (first | omega | (simp only; omega) | (simp; omega)))))
  have k15q1 : w15.cell? ⟨w12.heap.size, 1, none⟩ = some (.slice B12 0 d12) := by (repeat (first | with_reducible assumption | (simp [go_sem]; done) | with_reducible apply cell_alloc | with_reducible apply cell_drew | with_reducible apply cell_drewN | (with_reducible apply Ab.at; with_reducible assumption) | (with_reducible refine cell_set ?_ ?_; rotate_left; focus (first | (simp; done) | (simp; omega))) | (with_reducible refine cell_setb ?_ ?_; rotate_left; focus (first | omega | (simp only; omega) | (simp; omega)))))
  have k15q2 : w15.cell? ⟨w12.heap.size, 2, none⟩ = some (.int .i64 10) := by (repeat (first | with_reducible assumption | (simp [go_sem]; done) | with_reducible apply cell_alloc | with_reducible apply cell_drew | with_reducible apply cell_drewN | (with_reducible apply Ab.at; with_reducible assumption) | (with_reducible refine cell_set ?_ ?_; rotate_left; focus (first | (simp; done) | (simp; omega))) | (with_reducible refine cell_setb ?_ ?_; rotate_left; focus (first | omega | (simp only; omega) | (simp; omega)))))
  have k15q3 : w15.cell? ⟨w12.heap.size, 3, none⟩ = some (.bool true) := by (repeat (first | with_reducible assumption | (simp [go_sem]; done) | with_reducible apply cell_alloc | with_reducible apply cell_drew | with_reducible apply cell_drewN | (with_reducible apply Ab.at; with_reducible assumption) | (with_reducible refine cell_set ?_ ?_; rotate_left; focus (first | (simp; done) | (simp; omega))) | (with_reducible refine cell_setb ?_ ?_; rotate_left; focus (first | omega | (simp only; omega) | (simp; omega)))))
  have k15z : w12.heap.size < w15.heap.size := cell_lt k15q0
  go_wp2_with fail
  refine (sync_any A12 B12 c12 d12 [97, 98, 99, 100, 101] [] 10 true _ (RB.ab p12.rb.zero (by repeat (first | with_reducible exact Ab.refl _ | with_reducible assumption | with_reducible refine Ab.drew ?_ | with_reducible refine Ab.drewN ?_ _ | with_reducible refine Ab.alloc ?_ _ | with_reducible refine Ab.trans ?_ (by assumption) | with_reducible refine Ab.set ?_ (by first | (simp; done) | omega | (simp; omega)) _))) (RB.ab q12.rb.zero (by repeat (first | with_reducible exact Ab.refl _ | with_reducible assumption | with_reducible refine Ab.drew ?_ | with_reducible refine Ab.drewN ?_ _ | with_reducible refine Ab.alloc ?_ _ | with_reducible refine Ab.trans ?_ (by assumption) | with_reducible refine Ab.set ?_ (by first | (simp; done) | omega | (simp; omega)) _))) p12.le q12.le (by simp) (by simp)).mono ?_
  rintro e w16 ⟨r16, f16, A16, B16, c16, d16, h16, rfl, p16, q16, hb16⟩
  obtain ⟨rfl, rfl⟩ := Prod.mk.inj (h16.out.trans nm_d3)
  clear h16 p16 q16
  have k16q0 : w16.cell? ⟨w12.heap.size, 0, none⟩ = some (.slice A12 5 c12) := by (repeat (first | with_reducible assumption | (simp [go_sem]; done) | with_reducible apply cell_alloc | with_reducible apply cell_drew | with_reducible apply cell_drewN | (with_reducible apply Ab.at; with_reducible assumption) | (with_reducible refine cell_set ?_ ?_; rotate_left; focus (first | (simp; done) | (simp; omega))) | (with_reducible refine cell_setb ?_ ?_; rotate_left; focus (first | omega | (simp only; omega) | (simp; omega)))))
  have k16q1 : w16.cell? ⟨w12.heap.size, 1, none⟩ = some (.slice B12 0 d12) := by (repeat (first | with_reducible assumption | (simp [go_sem]; done) | with_reducible apply cell_alloc | with_reducible apply cell_drew | with_reducible apply cell_drewN | (with_reducible apply Ab.at; with_reducible assumption) | (with_reducible refine cell_set ?_ ?_; rotate_left; focus (first | (simp; done) | (simp; omega))) | (with_reducible refine cell_setb ?_ ?_; rotate_left; focus (first | omega | (simp only; omega) | (simp; omega)))))
  have k16q2 : w16.cell? ⟨w12.heap.size, 2, none⟩ = some (.int .i64 10) := by (repeat (first | with_reducible assumption | (simp [go_sem]; done) | with_reducible apply cell_alloc | with_reducible apply cell_drew | with_reducible apply cell_drewN | (with_reducible apply Ab.at; with_reducible assumption) | (with_reducible refine cell_set ?_ ?_; rotate_left; focus (first | (simp; done) | (simp; omega))) | (with_reducible refine cell_setb ?_ ?_; rotate_left; focus (first | omega | (simp only; omega) | (simp; omega)))))
  have k16q3 : w16.cell? ⟨w12.heap.size, 3, none⟩ = some (.bool true) := by (repeat (first | with_reducible assumption | (simp [go_sem]; done) | with_reducible apply cell_alloc | with_reducible apply cell_drew | with_reducible apply cell_drewN | (with_reducible apply Ab.at; with_reducible assumption) | (with_reducible refine cell_set ?_ ?_; rotate_left; focus (first | (simp; done) | (simp; omega))) | (with_reducible refine cell_setb ?_ ?_; rotate_left; focus (first | omega | (simp only; omega) | (simp; omega)))))
  have k16z : w12.heap.size < w16.heap.size := cell_lt k16q0
  go_wp2_with fail
  refine (truncate_any A12 B12 c12 d12 [97, 98, 99, 100, 101] [] 10 true _ (RB.ab p12.rb.zero (by repeat (first | with_reducible exact Ab.refl _ | with_reducible assumption | with_reducible refine Ab.drew ?_ | with_reducible refine Ab.drewN ?_ _ | with_reducible refine Ab.alloc ?_ _ | with_reducible refine Ab.trans ?_ (by assumption) | with_reducible refine Ab.set ?_ (by first | (simp; done) | omega | (simp; omega)) _))) (RB.ab q12.rb.zero (by repeat (first | with_reducible exact Ab.refl _ | with_reducible assumption | with_reducible refine Ab.drew ?_ | with_reducible refine Ab.drewN ?_ _ | with_reducible refine Ab.alloc ?_ _ | with_reducible refine Ab.trans ?_ (by assumption) | with_reducible refine Ab.set ?_ (by first | (simp; done) | omega | (simp; omega)) _))) p12.le q12.le (by simp) (by simp) 99).mono ?_
  rintro e w17 ⟨r17, f17, A17, B17, c17, d17, h17, rfl, p17, q17, hb17⟩
  obtain ⟨rfl, rfl⟩ := Prod.mk.inj (h17.out.trans nm_d4)
  clear h17 p17 q17
  have k17q0 : w17.cell? ⟨w12.heap.size, 0, none⟩ = some (.slice A12 5 c12) := by (repeat (first | with_reducible assumption | (simp [go_sem]; done) | with_reducible apply cell_alloc | with_reducible apply cell_drew | with_reducible apply cell_drewN | (with_reducible apply Ab.at; with_reducible assumption) | (with_reducible refine cell_set ?_ ?_; rotate_left; focus (first | (simp; done) | (simp; omega))) | (with_reducible refine cell_setb ?_ ?_; rotate_left; focus (first | omega | (simp only; omega) | (simp; omega)))))
  have k17q1 : w17.cell? ⟨w12.heap.size, 1, none⟩ = some (.slice B12 0 d12) := by (repeat (first | with_reducible assumption | (simp [go_sem]; done) | with_reducible apply cell_alloc | with_reducible apply cell_drew | with_reducible apply cell_drewN | (with_reducible apply Ab.at; with_reducible assumption) | (with_reducible refine cell_set ?_ ?_; rotate_left; focus (first | (simp; done) | (simp; omega))) | (with_reducible refine cell_setb ?_ ?_; rotate_left; focus (first | omega | (simp only; omega) | (simp; omega)))))
  have k17q2 : w17.cell? ⟨w12.heap.size, 2, none⟩ = some (.int .i64 10) := by (repeat (first | with_reducible assumption | (simp [go_sem]; done) | with_reducible apply cell_alloc | with_reducible apply cell_drew | with_reducible apply cell_drewN | (with_reducible apply Ab.at; with_reducible assumption) | (with_reducible refine cell_set ?_ ?_; rotate_left; focus (first | (simp; done) | (simp; omega))) | (with_reducible refine cell_setb ?_ ?_; rotate_left; focus (first | omega | (simp only; omega) | (simp; omega)))))
  have k17q3 : w17.cell? ⟨w12.heap.size, 3, none⟩ = some (.bool true) := by (repeat (first | with_reducible assumption | (simp [go_sem]; done) | with_reducible apply cell_alloc | with_reducible apply cell_drew | with_reducible apply cell_drewN | (with_reducible apply Ab.at; with_reducible assumption) | (with_reducible refine cell_set ?_ ?_; rotate_left; focus (first | (simp; done) | (simp; omega))) | (with_reducible refine cell_setb ?_ ?_; rotate_left; focus (first | omega | (simp only; omega) | (simp; omega)))))
  have k17z : w12.heap.size < w17.heap.size := cell_lt k17q0
  go_wp2_with fail
  refine (drop_any A12 B12 c12 d12 [97, 98, 99, 100, 101] [] 10 true _ (RB.ab p12.rb.zero (by repeat (first | with_reducible exact Ab.refl _ | with_reducible assumption | with_reducible refine Ab.drew ?_ | with_reducible refine Ab.drewN ?_ _ | with_reducible refine Ab.alloc ?_ _ | with_reducible refine Ab.trans ?_ (by assumption) | with_reducible refine Ab.set ?_ (by first | (simp; done) | omega | (simp; omega)) _))) (RB.ab q12.rb.zero (by repeat (first | with_reducible exact Ab.refl _ | with_reducible assumption | with_reducible refine Ab.drew ?_ | with_reducible refine Ab.drewN ?_ _ | with_reducible refine Ab.alloc ?_ _ | with_reducible refine Ab.trans ?_ (by assumption) | with_reducible refine Ab.set ?_ (by first | (simp; done) | omega | (simp; omega)) _))) p12.le q12.le (by simp) (by simp) 99).mono ?_
  rintro e w18 ⟨r18, f18, A18, B18, c18, d18, h18, rfl, p18, q18, hb18⟩
  obtain ⟨rfl, rfl⟩ := Prod.mk.inj (h18.out.trans nm_d5)
  clear h18 p18 q18
  have k18q0 : w18.cell? ⟨w12.heap.size, 0, none⟩ = some (.slice A12 5 c12) := by (repeat (first | with_reducible assumption | (simp [go_sem]; done) | with_reducible apply cell_alloc | with_reducible apply cell_drew | with_reducible apply cell_drewN | (with_reducible apply Ab.at; with_reducible assumption) | (with_reducible refine cell_set ?_ ?_; rotate_left; focus (first | (simp; done) | (simp; omega))) | (with_reducible refine cell_setb ?_ ?_; rotate_left; focus (first | omega | (simp only; omega) | (simp; omega)))))
  have k18q1 : w18.cell? ⟨w12.heap.size, 1, none⟩ = some (.slice B12 0 d12) := by (repeat (first | with_reducible assumption | (simp [go_sem]; done) | with_reducible apply cell_alloc | with_reducible apply cell_drew | with_reducible apply cell_drewN | (with_reducible apply Ab.at; with_reducible assumption) | (with_reducible refine cell_set ?_ ?_; rotate_left; focus (first | (simp; done) | (simp; omega))) | (with_reducible refine cell_setb ?_ ?_; rotate_left; focus (first | omega | (simp only; omega) | (simp; omega)))))
  have k18q2 : w18.cell? ⟨w12.heap.size, 2, none⟩ = some (.int .i64 10) := by (repeat (first | with_reducible assumption | (simp [go_sem]; done) | with_reducible apply cell_alloc | with_reducible apply cell_drew | with_reducible apply cell_drewN | (with_reducible apply Ab.at; with_reducible assumption) | (with_reducible refine cell_set ?_ ?_; rotate_left; focus (first | (simp; done) | (simp; omega))) | (with_reducible refine cell_setb ?_ ?_; rotate_left; focus (first | omega | (simp only; omega) | (simp; omega)))))
  have k18q3 : w18.cell? ⟨w12.heap.size, 3, none⟩ = some (.bool true) := by (repeat (first | with_reducible assumption | (simp [go_sem]; done) | with_reducible apply cell_alloc | with_reducible apply cell_drew | with_reducible apply cell_drewN | (with_reducible apply Ab.at; with_reducible assumption) | (with_reducible refine cell_set ?_ ?_; rotate_left; focus (first | (simp; done) | (simp; omega))) | (with_reducible refine cell_setb ?_ ?_; rotate_left; focus (first | omega | (simp only; omega) | (simp; omega)))))
  have k18z : w12.heap.size < w18.heap.size := cell_lt k18q0
  go_wp2_with fail
  refine (crash_any A12 B12 c12 d12 [97, 98, 99, 100, 101] [] 10 true _ (RB.ab p12.rb.zero (by repeat (first | with_reducible exact Ab.refl _ | with_reducible assumption | with_reducible refine Ab.drew ?_ | with_reducible refine Ab.drewN ?_ _ | with_reducible refine Ab.alloc ?_ _ | with_reducible refine Ab.trans ?_ (by assumption) | with_reducible refine Ab.set ?_ (by first | (simp; done) | omega | (simp; omega)) _))) (RB.ab q12.rb.zero (by repeat (first | with_reducible exact Ab.refl _ | with_reducible assumption | with_reducible refine Ab.drew ?_ | with_reducible refine Ab.drewN ?_ _ | with_reducible refine Ab.alloc ?_ _ | with_reducible refine Ab.trans ?_ (by assumption) | with_reducible refine Ab.set ?_ (by first | (simp; done) | omega | (simp; omega)) _))) p12.le q12.le (by simp) (by simp) 99).mono ?_
  rintro e w19 ⟨r19, f19, A19, B19, c19, d19, h19, rfl, p19, q19, hb19⟩
  obtain ⟨rfl, rfl⟩ := Prod.mk.inj (h19.out.trans nm_d6)
  clear h19 p19 q19
  go_wp2_with fail
  refine (given_any _).mono ?_
  rintro e w20 ⟨A20, B20, c20, d20, rfl, p20, q20, l20, m20, hb20⟩
  go_wp2_with fail
  refine (start_any A20 B20 c20 d20 [97, 98] [99, 100, 101] 10 false _ (RB.ab p20.zero (by repeat (first | with_reducible exact Ab.refl _ | with_reducible assumption | with_reducible refine Ab.drew ?_ | with_reducible refine Ab.drewN ?_ _ | with_reducible refine Ab.alloc ?_ _ | with_reducible refine Ab.trans ?_ (by assumption) | with_reducible refine Ab.set ?_ (by first | (simp; done) | omega | (simp; omega)) _))) (RB.ab q20.zero (by repeat (first | with_reducible exact Ab.refl _ | with_reducible assumption | with_reducible refine Ab.drew ?_ | with_reducible refine Ab.drewN ?_ _ | with_reducible refine Ab.alloc ?_ _ | with_reducible refine Ab.trans ?_ (by assumption) | with_reducible refine Ab.set ?_ (by first | (simp; done) | omega | (simp; omega)) _))) l20 m20 (by simp) (by simp)).mono ?_
  rintro e w21 ⟨r21, f21, A21, B21, c21, d21, h21, rfl, p21, q21, hb21⟩
  obtain ⟨rfl, rfl⟩ := Prod.mk.inj (h21.out.trans nm_st)
  clear h21 p21 q21 p20 q20 l20 m20
  have k21q0 : w21.cell? ⟨w12.heap.size, 0, none⟩ = some (.slice A12 5 c12) := by (repeat (first | with_reducible assumption | (simp [go_sem]; done) | with_reducible apply cell_alloc | with_reducible apply cell_drew | with_reducible apply cell_drewN | (with_reducible apply Ab.at; with_reducible assumption) | (with_reducible refine cell_set ?_ ?_; rotate_left; focus (first | (simp; done) | (simp; omega))) | (with_reducible refine cell_setb ?_ ?_; rotate_left; focus (first | omega | (simp only; omega) | (simp; omega)))))
  have k21q1 : w21.cell? ⟨w12.heap.size, 1, none⟩ = some (.slice B12 0 d12) := by (repeat (first | with_reducible assumption | (simp [go_sem]; done) | with_reducible apply cell_alloc | with_reducible apply cell_drew | with_reducible apply cell_drewN | (with_reducible apply Ab.at; with_reducible assumption) | (with_reducible refine cell_set ?_ ?_; rotate_left; focus (first | (simp; done) | (simp; omega))) | (with_reducible refine cell_setb ?_ ?_; rotate_left; focus (first | omega | (simp only; omega) | (simp; omega)))))
  have k21q2 : w21.cell? ⟨w12.heap.size, 2, none⟩ = some (.int .i64 10) := by (repeat (first | with_reducible assumption | (simp [go_sem]; done) | with_reducible apply cell_alloc | with_reducible apply cell_drew | with_reducible apply cell_drewN | (with_reducible apply Ab.at; with_reducible assumption) | (with_reducible refine cell_set ?_ ?_; rotate_left; focus (first | (simp; done) | (simp; omega))) | (with_reducible refine cell_setb ?_ ?_; rotate_left; focus (first | omega | (simp only; omega) | (simp; omega)))))
  have k21q3 : w21.cell? ⟨w12.heap.size, 3, none⟩ = some (.bool true) := by (repeat (first | with_reducible assumption | (simp [go_sem]; done) | with_reducible apply cell_alloc | with_reducible apply cell_drew | with_reducible apply cell_drewN | (with_reducible apply Ab.at; with_reducible assumption) | (with_reducible refine cell_set ?_ ?_; rotate_left; focus (first | (simp; done) | (simp; omega))) | (with_reducible refine cell_setb ?_ ?_; rotate_left; focus (first | omega | (simp only; omega) | (simp; omega)))))
  have k21z : w12.heap.size < w21.heap.size := cell_lt k21q0
  go_wp2_with fail
  refine (is_true A12 B12 c12 d12 [97, 98, 99, 100, 101] [] 10 true _ (RB.ab p12.rb.zero (by repeat (first | with_reducible exact Ab.refl _ | with_reducible assumption | with_reducible refine Ab.drew ?_ | with_reducible refine Ab.drewN ?_ _ | with_reducible refine Ab.alloc ?_ _ | with_reducible refine Ab.trans ?_ (by assumption) | with_reducible refine Ab.set ?_ (by first | (simp; done) | omega | (simp; omega)) _))) (RB.ab q12.rb.zero (by repeat (first | with_reducible exact Ab.refl _ | with_reducible assumption | with_reducible refine Ab.drew ?_ | with_reducible refine Ab.drewN ?_ _ | with_reducible refine Ab.alloc ?_ _ | with_reducible refine Ab.trans ?_ (by assumption) | with_reducible refine Ab.set ?_ (by first | (simp; done) | omega | (simp; omega)) _))) p12.le q12.le 0 [97, 98, 99, 100, 101] [] rfl rfl rfl rfl).mono ?_
  rintro e w22 ⟨rfl, hb22⟩
  have HA22 : Ab w w22 := (by repeat (first | with_reducible exact Ab.refl _ | with_reducible assumption | with_reducible refine Ab.drew ?_ | with_reducible refine Ab.drewN ?_ _ | with_reducible refine Ab.alloc ?_ _ | with_reducible refine Ab.trans ?_ (by assumption) | with_reducible refine Ab.set ?_ (by first | (simp; done) | omega | (simp; omega)) _))
  clear hb1 hb2 hb3 hb4 hb5 hb6 hb7 hb8 hb9 hb10 hb11 hb12 hb13 hb14 hb15 hb16 hb17 hb18 hb19 hb20 hb21 hb22
  clear p12 q12 k13q0 k13q1 k13q2 k13q3 k13z k14q0 k14q1 k14q2 k14q3 k14z k15q0 k15q1 k15q2 k15q3 k15z k16q0 k16q1 k16q2 k16q3 k16z k17q0 k17q1 k17q2 k17q3 k17z k18q0 k18q1 k18q2 k18q3 k18z k21q0 k21q1 k21q2 k21q3 k21z
  go_wp2_with fail
  refine (given_any _).mono ?_
  rintro e w23 ⟨A23, B23, c23, d23, rfl, p23, q23, l23, m23, hb23⟩
  go_wp2_with fail
  refine (read_any A23 B23 c23 d23 [97, 98] [99, 100, 101] 10 false _ (RB.ab p23.zero (by repeat (first | with_reducible exact Ab.refl _ | with_reducible assumption | with_reducible refine Ab.drew ?_ | with_reducible refine Ab.drewN ?_ _ | with_reducible refine Ab.alloc ?_ _ | with_reducible refine Ab.trans ?_ (by assumption) | with_reducible refine Ab.set ?_ (by first | (simp; done) | omega | (simp; omega)) _))) (RB.ab q23.zero (by repeat (first | with_reducible exact Ab.refl _ | with_reducible assumption | with_reducible refine Ab.drew ?_ | with_reducible refine Ab.drewN ?_ _ | with_reducible refine Ab.alloc ?_ _ | with_reducible refine Ab.trans ?_ (by assumption) | with_reducible refine Ab.set ?_ (by first | (simp; done) | omega | (simp; omega)) _))) l23 m23 (by simp) (by simp) (0) (6) (by omega) (by omega)).mono ?_
  rintro e w24 ⟨r24, f24, A24, c24, h24, rfl, p24, l24, hb24⟩
  obtain ⟨rfl, rfl⟩ := Prod.mk.inj (h24.out.trans nm_r1)
  clear h24 p24 l24 p23 q23 l23 m23
  go_wp2_with fail
  refine (given_any _).mono ?_
  rintro e w25 ⟨A25, B25, c25, d25, rfl, p25, q25, l25, m25, hb25⟩
  go_wp2_with fail
  refine (read_any A25 B25 c25 d25 [97, 98] [99, 100, 101] 10 false _ (RB.ab p25.zero (by repeat (first | with_reducible exact Ab.refl _ | with_reducible assumption | with_reducible refine Ab.drew ?_ | with_reducible refine Ab.drewN ?_ _ | with_reducible refine Ab.alloc ?_ _ | with_reducible refine Ab.trans ?_ (by assumption) | with_reducible refine Ab.set ?_ (by first | (simp; done) | omega | (simp; omega)) _))) (RB.ab q25.zero (by repeat (first | with_reducible exact Ab.refl _ | with_reducible assumption | with_reducible refine Ab.drew ?_ | with_reducible refine Ab.drewN ?_ _ | with_reducible refine Ab.alloc ?_ _ | with_reducible refine Ab.trans ?_ (by assumption) | with_reducible refine Ab.set ?_ (by first | (simp; done) | omega | (simp; omega)) _))) l25 m25 (by simp) (by simp) (-1) (1) (by omega) (by omega)).mono ?_
  rintro e w26 ⟨r26, f26, A26, c26, h26, rfl, p26, l26, hb26⟩
  obtain ⟨rfl, rfl⟩ := Prod.mk.inj (h26.out.trans nm_r2)
  clear h26 p26 l26 p25 q25 l25 m25
  go_wp2_with fail
  refine (given_any _).mono ?_
  rintro e w27 ⟨A27, B27, c27, d27, rfl, p27, q27, l27, m27, hb27⟩
  go_wp2_with fail
  refine (read_any A27 B27 c27 d27 [97, 98] [99, 100, 101] 10 false _ (RB.ab p27.zero (by repeat (first | with_reducible exact Ab.refl _ | with_reducible assumption | with_reducible refine Ab.drew ?_ | with_reducible refine Ab.drewN ?_ _ | with_reducible refine Ab.alloc ?_ _ | with_reducible refine Ab.trans ?_ (by assumption) | with_reducible refine Ab.set ?_ (by first | (simp; done) | omega | (simp; omega)) _))) (RB.ab q27.zero (by repeat (first | with_reducible exact Ab.refl _ | with_reducible assumption | with_reducible refine Ab.drew ?_ | with_reducible refine Ab.drewN ?_ _ | with_reducible refine Ab.alloc ?_ _ | with_reducible refine Ab.trans ?_ (by assumption) | with_reducible refine Ab.set ?_ (by first | (simp; done) | omega | (simp; omega)) _))) l27 m27 (by simp) (by simp) (2) (-1) (by omega) (by omega)).mono ?_
  rintro e w28 ⟨r28, f28, A28, c28, h28, rfl, p28, l28, hb28⟩
  obtain ⟨rfl, rfl⟩ := Prod.mk.inj (h28.out.trans nm_r3)
  clear h28 p28 l28 p27 q27 l27 m27
  go_wp2_with fail
  refine (given_any _).mono ?_
  rintro e w29 ⟨A29, B29, c29, d29, rfl, p29, q29, l29, m29, hb29⟩
  go_wp2_with fail
  refine (read_any A29 B29 c29 d29 [97, 98] [99, 100, 101] 10 false _ (RB.ab p29.zero (by repeat (first | with_reducible exact Ab.refl _ | with_reducible assumption | with_reducible refine Ab.drew ?_ | with_reducible refine Ab.drewN ?_ _ | with_reducible refine Ab.alloc ?_ _ | with_reducible refine Ab.trans ?_ (by assumption) | with_reducible refine Ab.set ?_ (by first | (simp; done) | omega | (simp; omega)) _))) (RB.ab q29.zero (by repeat (first | with_reducible exact Ab.refl _ | with_reducible assumption | with_reducible refine Ab.drew ?_ | with_reducible refine Ab.drewN ?_ _ | with_reducible refine Ab.alloc ?_ _ | with_reducible refine Ab.trans ?_ (by assumption) | with_reducible refine Ab.set ?_ (by first | (simp; done) | omega | (simp; omega)) _))) l29 m29 (by simp) (by simp) (5) (0) (by omega) (by omega)).mono ?_
  rintro e w30 ⟨r30, f30, A30, c30, h30, rfl, p30, l30, hb30⟩
  obtain ⟨rfl, rfl⟩ := Prod.mk.inj (h30.out.trans nm_r4)
  clear h30 p30 l30 p29 q29 l29 m29
  go_wp2_with fail
  refine (given_any _).mono ?_
  rintro e w31 ⟨A31, B31, c31, d31, rfl, p31, q31, l31, m31, hb31⟩
  go_wp2_with fail
  refine (read_any A31 B31 c31 d31 [97, 98] [99, 100, 101] 10 false _ (RB.ab p31.zero (by repeat (first | with_reducible exact Ab.refl _ | with_reducible assumption | with_reducible refine Ab.drew ?_ | with_reducible refine Ab.drewN ?_ _ | with_reducible refine Ab.alloc ?_ _ | with_reducible refine Ab.trans ?_ (by assumption) | with_reducible refine Ab.set ?_ (by first | (simp; done) | omega | (simp; omega)) _))) (RB.ab q31.zero (by repeat (first | with_reducible exact Ab.refl _ | with_reducible assumption | with_reducible refine Ab.drew ?_ | with_reducible refine Ab.drewN ?_ _ | with_reducible refine Ab.alloc ?_ _ | with_reducible refine Ab.trans ?_ (by assumption) | with_reducible refine Ab.set ?_ (by first | (simp; done) | omega | (simp; omega)) _))) l31 m31 (by simp) (by simp) (9223372036854775807) (9223372036854775807) (by omega) (by omega)).mono ?_
  rintro e w32 ⟨r32, f32, A32, c32, h32, rfl, p32, l32, hb32⟩
  obtain ⟨rfl, rfl⟩ := Prod.mk.inj (h32.out.trans nm_r5)
  clear h32 p32 l32 p31 q31 l31 m31
  go_wp2_with fail
  refine (given_any _).mono ?_
  rintro e w33 ⟨A33, B33, c33, d33, rfl, p33, q33, l33, m33, hb33⟩
  go_wp2_with fail
  refine (truncate_any A33 B33 c33 d33 [97, 98] [99, 100, 101] 10 false _ (RB.ab p33.zero (by repeat (first | with_reducible exact Ab.refl _ | with_reducible assumption | with_reducible refine Ab.drew ?_ | with_reducible refine Ab.drewN ?_ _ | with_reducible refine Ab.alloc ?_ _ | with_reducible refine Ab.trans ?_ (by assumption) | with_reducible refine Ab.set ?_ (by first | (simp; done) | omega | (simp; omega)) _))) (RB.ab q33.zero (by repeat (first | with_reducible exact Ab.refl _ | with_reducible assumption | with_reducible refine Ab.drew ?_ | with_reducible refine Ab.drewN ?_ _ | with_reducible refine Ab.alloc ?_ _ | with_reducible refine Ab.trans ?_ (by assumption) | with_reducible refine Ab.set ?_ (by first | (simp; done) | omega | (simp; omega)) _))) l33 m33 (by simp) (by simp) 6).mono ?_
  rintro e w34 ⟨r34, f34, A34, B34, c34, d34, h34, rfl, p34, q34, hb34⟩
  obtain ⟨rfl, rfl⟩ := Prod.mk.inj (h34.out.trans nm_t1)
  clear h34 p34 q34 p33 q33 l33 m33
  go_wp2_with fail
  refine (given_any _).mono ?_
  rintro e w35 ⟨A35, B35, c35, d35, rfl, p35, q35, l35, m35, hb35⟩
  go_wp2_with fail
  refine (truncate_any A35 B35 c35 d35 [97, 98] [99, 100, 101] 10 false _ (RB.ab p35.zero (by repeat (first | with_reducible exact Ab.refl _ | with_reducible assumption | with_reducible refine Ab.drew ?_ | with_reducible refine Ab.drewN ?_ _ | with_reducible refine Ab.alloc ?_ _ | with_reducible refine Ab.trans ?_ (by assumption) | with_reducible refine Ab.set ?_ (by first | (simp; done) | omega | (simp; omega)) _))) (RB.ab q35.zero (by repeat (first | with_reducible exact Ab.refl _ | with_reducible assumption | with_reducible refine Ab.drew ?_ | with_reducible refine Ab.drewN ?_ _ | with_reducible refine Ab.alloc ?_ _ | with_reducible refine Ab.trans ?_ (by assumption) | with_reducible refine Ab.set ?_ (by first | (simp; done) | omega | (simp; omega)) _))) l35 m35 (by simp) (by simp) (-1)).mono ?_
  rintro e w36 ⟨r36, f36, A36, B36, c36, d36, h36, rfl, p36, q36, hb36⟩
  obtain ⟨rfl, rfl⟩ := Prod.mk.inj (h36.out.trans nm_t2)
  clear h36 p36 q36 p35 q35 l35 m35
  go_wp2_with fail
  refine (given_any _).mono ?_
  rintro e w37 ⟨A37, B37, c37, d37, rfl, p37, q37, l37, m37, hb37⟩
  go_wp2_with fail
  refine (truncate_any A37 B37 c37 d37 [97, 98] [99, 100, 101] 10 false _ (RB.ab p37.zero (by repeat (first | with_reducible exact Ab.refl _ | with_reducible assumption | with_reducible refine Ab.drew ?_ | with_reducible refine Ab.drewN ?_ _ | with_reducible refine Ab.alloc ?_ _ | with_reducible refine Ab.trans ?_ (by assumption) | with_reducible refine Ab.set ?_ (by first | (simp; done) | omega | (simp; omega)) _))) (RB.ab q37.zero (by repeat (first | with_reducible exact Ab.refl _ | with_reducible assumption | with_reducible refine Ab.drew ?_ | with_reducible refine Ab.drewN ?_ _ | with_reducible refine Ab.alloc ?_ _ | with_reducible refine Ab.trans ?_ (by assumption) | with_reducible refine Ab.set ?_ (by first | (simp; done) | omega | (simp; omega)) _))) l37 m37 (by simp) (by simp) 4).mono ?_
  rintro e w38 ⟨r38, f38, A38, B38, c38, d38, h38, rfl, p38, q38, hb38⟩
  obtain ⟨rfl, rfl⟩ := Prod.mk.inj (h38.out.trans nm_t3)
  clear h38 p37 q37 l37 m37
  go_wp2_with fail
  refine (given_any _).mono ?_
  rintro e w39 ⟨A39, B39, c39, d39, rfl, p39, q39, l39, m39, hb39⟩
  go_wp2_with fail
  refine (drop_any A39 B39 c39 d39 [97, 98] [99, 100, 101] 10 false _ (RB.ab p39.zero (by repeat (first | with_reducible exact Ab.refl _ | with_reducible assumption | with_reducible refine Ab.drew ?_ | with_reducible refine Ab.drewN ?_ _ | with_reducible refine Ab.alloc ?_ _ | with_reducible refine Ab.trans ?_ (by assumption) | with_reducible refine Ab.set ?_ (by first | (simp; done) | omega | (simp; omega)) _))) (RB.ab q39.zero (by repeat (first | with_reducible exact Ab.refl _ | with_reducible assumption | with_reducible refine Ab.drew ?_ | with_reducible refine Ab.drewN ?_ _ | with_reducible refine Ab.alloc ?_ _ | with_reducible refine Ab.trans ?_ (by assumption) | with_reducible refine Ab.set ?_ (by first | (simp; done) | omega | (simp; omega)) _))) l39 m39 (by simp) (by simp) 3).mono ?_
  rintro e w40 ⟨r40, f40, A40, B40, c40, d40, h40, rfl, p40, q40, hb40⟩
  obtain ⟨rfl, rfl⟩ := Prod.mk.inj (h40.out.trans nm_dr)
  clear h40 p40 q40 p39 q39 l39 m39
  go_wp2_with fail
  refine (given_any _).mono ?_
  rintro e w41 ⟨A41, B41, c41, d41, rfl, p41, q41, l41, m41, hb41⟩
  go_wp2_with fail
  refine (crash_any A41 B41 c41 d41 [97, 98] [99, 100, 101] 10 false _ (RB.ab p41.zero (by repeat (first | with_reducible exact Ab.refl _ | with_reducible assumption | with_reducible refine Ab.drew ?_ | with_reducible refine Ab.drewN ?_ _ | with_reducible refine Ab.alloc ?_ _ | with_reducible refine Ab.trans ?_ (by assumption) | with_reducible refine Ab.set ?_ (by first | (simp; done) | omega | (simp; omega)) _))) (RB.ab q41.zero (by repeat (first | with_reducible exact Ab.refl _ | with_reducible assumption | with_reducible refine Ab.drew ?_ | with_reducible refine Ab.drewN ?_ _ | with_reducible refine Ab.alloc ?_ _ | with_reducible refine Ab.trans ?_ (by assumption) | with_reducible refine Ab.set ?_ (by first | (simp; done) | omega | (simp; omega)) _))) l41 m41 (by simp) (by simp) 4).mono ?_
  rintro e w42 ⟨r42, f42, A42, B42, c42, d42, h42, rfl, p42, q42, hb42⟩
  obtain ⟨rfl, rfl⟩ := Prod.mk.inj (h42.out.trans nm_cr)
  clear h42 p42 q42 p41 q41 l41 m41
  go_wp2_with fail
  refine (given_any _).mono ?_
  rintro e w43 ⟨A43, B43, c43, d43, rfl, p43, q43, l43, m43, hb43⟩
  go_wp2_with fail
  refine (append_any A43 B43 c43 d43 [97, 98] [99, 100, 101] 10 false _ (RB.ab p43.zero (by repeat (first | with_reducible exact Ab.refl _ | with_reducible assumption | with_reducible refine Ab.drew ?_ | with_reducible refine Ab.drewN ?_ _ | with_reducible refine Ab.alloc ?_ _ | with_reducible refine Ab.trans ?_ (by assumption) | with_reducible refine Ab.set ?_ (by first | (simp; done) | omega | (simp; omega)) _))) (RB.ab q43.zero (by repeat (first | with_reducible exact Ab.refl _ | with_reducible assumption | with_reducible refine Ab.drew ?_ | with_reducible refine Ab.drewN ?_ _ | with_reducible refine Ab.alloc ?_ _ | with_reducible refine Ab.trans ?_ (by assumption) | with_reducible refine Ab.set ?_ (by first | (simp; done) | omega | (simp; omega)) _))) l43 m43 (by simp) (by simp) (some ⟨w43.heap.size, 0, none⟩) 5 [49, 50, 51, 52, 53] (RB.blk (T := 5) (fr := (5, 6)) (by (repeat (first | exact new_plain (by first | (simp; done) | omega | (simp; omega)) | with_reducible refine old_alloc ?_ | with_reducible refine old_drew ?_ | with_reducible refine old_set ?_ (by first | (simp; done) | omega | (simp; omega)) | with_reducible refine old_ab (by assumption) ?_))) (by omega)) (by simp) (by simp)).mono ?_
  rintro e w44 ⟨r44, f44, A44, B44, c44, d44, h44, rfl, p44, q44, hb44⟩
  obtain ⟨rfl, rfl⟩ := Prod.mk.inj (h44.out.trans nm_ap)
  clear h44 p43 q43 l43 m43
  have kuq0 : w44.cell? ⟨w38.heap.size, 0, none⟩ = some (.slice A38 2 c38) := by (repeat (first | with_reducible assumption | (simp [go_sem]; done) | with_reducible apply cell_alloc | with_reducible apply cell_drew | with_reducible apply cell_drewN | (with_reducible apply Ab.at; with_reducible assumption) | (with_reducible refine cell_set ?_ ?_; rotate_left; focus (first | (simp; done) | (simp; omega))) | (with_reducible refine cell_setb ?_ ?_; rotate_left; focus (first | omega | (simp only; omega) | (simp; omega)))))
  have kuq1 : w44.cell? ⟨w38.heap.size, 1, none⟩ = some (.slice B38 2 d38) := by (repeat (first | with_reducible assumption | (simp [go_sem]; done) | with_reducible apply cell_alloc | with_reducible apply cell_drew | with_reducible apply cell_drewN | (with_reducible apply Ab.at; with_reducible assumption) | (with_reducible refine cell_set ?_ ?_; rotate_left; focus (first | (simp; done) | (simp; omega))) | (with_reducible refine cell_setb ?_ ?_; rotate_left; focus (first | omega | (simp only; omega) | (simp; omega)))))
  have kuq2 : w44.cell? ⟨w38.heap.size, 2, none⟩ = some (.int .i64 10) := by (repeat (first | with_reducible assumption | (simp [go_sem]; done) | with_reducible apply cell_alloc | with_reducible apply cell_drew | with_reducible apply cell_drewN | (with_reducible apply Ab.at; with_reducible assumption) | (with_reducible refine cell_set ?_ ?_; rotate_left; focus (first | (simp; done) | (simp; omega))) | (with_reducible refine cell_setb ?_ ?_; rotate_left; focus (first | omega | (simp only; omega) | (simp; omega)))))
  have kuq3 : w44.cell? ⟨w38.heap.size, 3, none⟩ = some (.bool false) := by (repeat (first | with_reducible assumption | (simp [go_sem]; done) | with_reducible apply cell_alloc | with_reducible apply cell_drew | with_reducible apply cell_drewN | (with_reducible apply Ab.at; with_reducible assumption) | (with_reducible refine cell_set ?_ ?_; rotate_left; focus (first | (simp; done) | (simp; omega))) | (with_reducible refine cell_setb ?_ ?_; rotate_left; focus (first | omega | (simp only; omega) | (simp; omega)))))
  have kuz : w38.heap.size < w44.heap.size := cell_lt kuq0
  go_wp2_with fail
  refine (is_true A38 B38 c38 d38 [97, 98] [99, 100] 10 false _ (RB.ab p38.rb.zero (by repeat (first | with_reducible exact Ab.refl _ | with_reducible assumption | with_reducible refine Ab.drew ?_ | with_reducible refine Ab.drewN ?_ _ | with_reducible refine Ab.alloc ?_ _ | with_reducible refine Ab.trans ?_ (by assumption) | with_reducible refine Ab.set ?_ (by first | (simp; done) | omega | (simp; omega)) _))) (RB.ab q38.rb.zero (by repeat (first | with_reducible exact Ab.refl _ | with_reducible assumption | with_reducible refine Ab.drew ?_ | with_reducible refine Ab.drewN ?_ _ | with_reducible refine Ab.alloc ?_ _ | with_reducible refine Ab.trans ?_ (by assumption) | with_reducible refine Ab.set ?_ (by first | (simp; done) | omega | (simp; omega)) _))) p38.le q38.le 0 [97, 98] [99, 100] rfl rfl rfl rfl).mono ?_
  rintro e w45 ⟨rfl, hb45⟩
  have kvq0 : w45.cell? ⟨w44.heap.size, 0, none⟩ = some (.slice A44 2 c44) := by (repeat (first | with_reducible assumption | (simp [go_sem]; done) | with_reducible apply cell_alloc | with_reducible apply cell_drew | with_reducible apply cell_drewN | (with_reducible apply Ab.at; with_reducible assumption) | (with_reducible refine cell_set ?_ ?_; rotate_left; focus (first | (simp; done) | (simp; omega))) | (with_reducible refine cell_setb ?_ ?_; rotate_left; focus (first | omega | (simp only; omega) | (simp; omega)))))
  have kvq1 : w45.cell? ⟨w44.heap.size, 1, none⟩ = some (.slice B44 8 d44) := by (repeat (first | with_reducible assumption | (simp [go_sem]; done) | with_reducible apply cell_alloc | with_reducible apply cell_drew | with_reducible apply cell_drewN | (with_reducible apply Ab.at; with_reducible assumption) | (with_reducible refine cell_set ?_ ?_; rotate_left; focus (first | (simp; done) | (simp; omega))) | (with_reducible refine cell_setb ?_ ?_; rotate_left; focus (first | omega | (simp only; omega) | (simp; omega)))))
  have kvq2 : w45.cell? ⟨w44.heap.size, 2, none⟩ = some (.int .i64 10) := by (repeat (first | with_reducible assumption | (simp [go_sem]; done) | with_reducible apply cell_alloc | with_reducible apply cell_drew | with_reducible apply cell_drewN | (with_reducible apply Ab.at; with_reducible assumption) | (with_reducible refine cell_set ?_ ?_; rotate_left; focus (first | (simp; done) | (simp; omega))) | (with_reducible refine cell_setb ?_ ?_; rotate_left; focus (first | omega | (simp only; omega) | (simp; omega)))))
  have kvq3 : w45.cell? ⟨w44.heap.size, 3, none⟩ = some (.bool false) := by (repeat (first | with_reducible assumption | (simp [go_sem]; done) | with_reducible apply cell_alloc | with_reducible apply cell_drew | with_reducible apply cell_drewN | (with_reducible apply Ab.at; with_reducible assumption) | (with_reducible refine cell_set ?_ ?_; rotate_left; focus (first | (simp; done) | (simp; omega))) | (with_reducible refine cell_setb ?_ ?_; rotate_left; focus (first | omega | (simp only; omega) | (simp; omega)))))
  have kvz : w44.heap.size < w45.heap.size := cell_lt kvq0
  go_wp2_with fail
  refine (is_true A44 B44 c44 d44 [97, 98] [99, 100, 101, 49, 50, 51, 52, 53] 10 false _ (RB.ab p44.rb.zero (by repeat (first | with_reducible exact Ab.refl _ | with_reducible assumption | with_reducible refine Ab.drew ?_ | with_reducible refine Ab.drewN ?_ _ | with_reducible refine Ab.alloc ?_ _ | with_reducible refine Ab.trans ?_ (by assumption) | with_reducible refine Ab.set ?_ (by first | (simp; done) | omega | (simp; omega)) _))) (RB.ab q44.rb.zero (by repeat (first | with_reducible exact Ab.refl _ | with_reducible assumption | with_reducible refine Ab.drew ?_ | with_reducible refine Ab.drewN ?_ _ | with_reducible refine Ab.alloc ?_ _ | with_reducible refine Ab.trans ?_ (by assumption) | with_reducible refine Ab.set ?_ (by first | (simp; done) | omega | (simp; omega)) _))) p44.le q44.le 0 [97, 98] [99, 100, 101, 49, 50, 51, 52, 53] rfl rfl rfl rfl).mono ?_
  rintro e w46 ⟨rfl, hb46⟩
  have hbc : Ab w w46 := (by repeat (first | with_reducible exact Ab.refl _ | with_reducible assumption | with_reducible refine Ab.drew ?_ | with_reducible refine Ab.drewN ?_ _ | with_reducible refine Ab.alloc ?_ _ | with_reducible refine Ab.trans ?_ (by assumption) | with_reducible refine Ab.set ?_ (by first | (simp; done) | omega | (simp; omega)) _))
  clear p38 q38 p44 q44
  go_wp2_with fail
  have hx : Ops (((w46.alloc (.cells #[.int .u8 97] 5 (1, 2))).alloc (.cells #[.int .u8 97] 5 (1, 2))).alloc (.cells #[.int .u8 0, .slice none 0 0, .int .i64 0, .int .u8 7, .slice none 0 0, .int .i64 0, .int .u8 2, .slice none 0 0, .int .i64 1, .int .u8 6, .slice (some ⟨w46.heap.size, 0, none⟩) 1 1, .int .i64 0, .int .u8 1, .slice none 0 0, .int .i64 1, .int .u8 4, .slice (some ⟨w46.heap.size + 1, 0, none⟩) 1 1, .int .i64 0] 39)) (some ⟨w46.heap.size + 1 + 1, 0, none⟩) 6 (bads (some ⟨w46.heap.size, 0, none⟩) (some ⟨w46.heap.size + 1, 0, none⟩)) := opsBads (by (repeat (first | exact new_plain (by first | (simp; done) | omega | (simp; omega)) | with_reducible refine old_alloc ?_ | with_reducible refine old_drew ?_ | with_reducible refine old_set ?_ (by first | (simp; done) | omega | (simp; omega)) | with_reducible refine old_ab (by assumption) ?_))) (RB.blk (T := 5) (fr := (1, 2)) (by (repeat (first | exact new_plain (by first | (simp; done) | omega | (simp; omega)) | with_reducible refine old_alloc ?_ | with_reducible refine old_drew ?_ | with_reducible refine old_set ?_ (by first | (simp; done) | omega | (simp; omega)) | with_reducible refine old_ab (by assumption) ?_))) (by omega)) (RB.blk (T := 5) (fr := (1, 2)) (by (repeat (first | exact new_plain (by first | (simp; done) | omega | (simp; omega)) | with_reducible refine old_alloc ?_ | with_reducible refine old_drew ?_ | with_reducible refine old_set ?_ (by first | (simp; done) | omega | (simp; omega)) | with_reducible refine old_ab (by assumption) ?_))) (by omega))
  have hb0 : Ab w (((w46.alloc (.cells #[.int .u8 97] 5 (1, 2))).alloc (.cells #[.int .u8 97] 5 (1, 2))).alloc (.cells #[.int .u8 0, .slice none 0 0, .int .i64 0, .int .u8 7, .slice none 0 0, .int .i64 0, .int .u8 2, .slice none 0 0, .int .i64 1, .int .u8 6, .slice (some ⟨w46.heap.size, 0, none⟩) 1 1, .int .i64 0, .int .u8 1, .slice none 0 0, .int .i64 1, .int .u8 4, .slice (some ⟨w46.heap.size + 1, 0, none⟩) 1 1, .int .i64 0] 39)) := (by repeat (first | with_reducible exact Ab.refl _ | with_reducible assumption | with_reducible refine Ab.drew ?_ | with_reducible refine Ab.drewN ?_ _ | with_reducible refine Ab.alloc ?_ _ | with_reducible refine Ab.trans ?_ (by assumption) | with_reducible refine Ab.set ?_ (by first | (simp; done) | omega | (simp; omega)) _))
  have hbx := bads_bad (some ⟨w46.heap.size, 0, none⟩) (some ⟨w46.heap.size + 1, 0, none⟩)
  generalize bads (some ⟨w46.heap.size, 0, none⟩) (some ⟨w46.heap.size + 1, 0, none⟩) = xs at hx hbx
  generalize (((w46.alloc (.cells #[.int .u8 97] 5 (1, 2))).alloc (.cells #[.int .u8 97] 5 (1, 2))).alloc (.cells #[.int .u8 0, .slice none 0 0, .int .i64 0, .int .u8 7, .slice none 0 0, .int .i64 0, .int .u8 2, .slice none 0 0, .int .i64 1, .int .u8 6, .slice (some ⟨w46.heap.size, 0, none⟩) 1 1, .int .i64 0, .int .u8 1, .slice none 0 0, .int .i64 1, .int .u8 4, .slice (some ⟨w46.heap.size + 1, 0, none⟩) 1 1, .int .i64 0] 39)) = wq at hx hb0 ⊢
  generalize (⟨w46.heap.size + 1 + 1, 0, none⟩ : Addr) = a at hx ⊢
  clear kc hbc
  refine opaque_frame fun T hT => ?_
  have f50 : T.getD 50 undef = .slice (some a) 6 6 := by rw [hT]; rfl
  have f51 : T.getD 51 undef = .int .i64 0 := by rw [hT]; rfl
  have f1 : T.getD 1 undef = .bool true := by rw [hT]; rfl
  have f26 : T.getD 26 undef = .bool true := by rw [hT]; rfl
  have f49 : T.getD 49 undef = .bool true := by rw [hT]; rfl
  have hs : T.size = 375 := by rw [hT]; rfl
  clear hT
  refine wp_loop (NI wq a) (fun act _ => NMu act) ⟨0, by omega, rfl, ⟨hs, f50, f51, f1, f26, f49⟩, Ab.refl _⟩ ?_
  clear hs f50 f51 f1 f26 f49
  intro act wr hI
  refine names_round wq a xs hx hbx _ ?_ act wr hI
  clear hI hx hbx
  rintro ⟨T2, d2⟩ wz ⟨hd2, ⟨hs, -, -, f1, f26, f49⟩, hz⟩
  simp only at hd2 hs f1 f26 f49
  subst hd2
  have hwz : Ab w wz := Ab.trans hb0 hz
  have gs := getD_set
  go_wp2
  refine wp_cut (NK wz) ?_ ?_
  · clear gs hs f1 f26 f49
    rintro ⟨T3, d3⟩ wx ⟨hd3, ⟨hs3, g1, g26, g49, g56, g57⟩, hab⟩
    simp only at hd3 hs3 g1 g26 g49 g56 g57 hab
    subst hd3
    have HA := Lib.hid (Ab.trans hwz hab)
    clear hab hwz hz hb0
    obtain ⟨g, hg, hT⟩ := lit_frame 375 T3 hs3
    rw [lit_375] at hT
    have e1 := (hg 1).trans g1
    have e26 := (hg 26).trans g26
    have e49 := (hg 49).trans g49
    have e56 := (hg 56).trans g56
    have e57 := (hg 57).trans g57
    clear hg g1 g26 g49 g56 g57 hs3
    subst hT
    rw [e1, e26, e49, e56, e57]
    clear e1 e26 e49 e56 e57
    go_wp2_with fail
    refine (alive_true _).mono ?_
    rintro e wy ⟨rfl, hy⟩
    go_wp2
    go_ret
    exact ⟨rfl, Ab.trans HA.out (by repeat (first | with_reducible exact Ab.refl _ | with_reducible assumption | with_reducible refine Ab.drew ?_ | with_reducible refine Ab.drewN ?_ _ | with_reducible refine Ab.alloc ?_ _ | with_reducible refine Ab.trans ?_ (by assumption) | with_reducible refine Ab.set ?_ (by first | (simp; done) | omega | (simp; omega)) _))⟩
  · intro J K' hJ hK'
    obtain ⟨Z, hmk⟩ := mk201
    go_region_held3 (fun w' => True) (trivial)
      ((first
        | (go_at_call 11
           refine (given_any _).mono ?_
           rintro e w5 ⟨A5, B5, c5, d5, rfl, p5, q5, l5, m5, hb5⟩
           have zz5 := hb5.size; (try simp at zz5))
        | (go_at_call 22
           refine (run_many A5 B5 c5 d5 [97, 98] [99, 100, 101] 10 false _ (by simp) (by simp) (by decide) (some ⟨_, 0, none⟩) 201 201 (by omega)).mono ?_
           rintro e w7 ⟨r7, n7, f7, D7, E7, cd7, ce7, h7, rfl, p7, q7, hb7⟩
           obtain ⟨rfl, h7'⟩ := Prod.mk.inj h7.out
           obtain ⟨rfl, rfl⟩ := Prod.mk.inj h7'
           clear h7 h7' p7 q7
           (first
             | (refine bring (p := w7.heap[wz.heap.size]? = some (.cells #[.slice none 0 0, .slice none 0 0, .int .i64 0, .bool false] 26)) ?_ (fun hzz => ?_)
                · ((repeat (first | (refine new_plain ?_; (simp; done)) | with_reducible refine old_alloc ?_ | with_reducible refine old_drew ?_ | with_reducible refine old_ab (by assumption) ?_)); done)
                obtain ⟨vq0, vq1, vq2, vq3, vr0, vr1, vr2, vr3⟩ := zbox_facts hzz)
             | (refine bring (p := w7.heap[wz.heap.size + 1]? = some (.cells #[.slice none 0 0, .slice none 0 0, .int .i64 0, .bool false] 26)) ?_ (fun hzz => ?_)
                · ((repeat (first | (refine new_plain ?_; (simp; done)) | with_reducible refine old_alloc ?_ | with_reducible refine old_drew ?_ | with_reducible refine old_ab (by assumption) ?_)); done)
                obtain ⟨vq0, vq1, vq2, vq3, vr0, vr1, vr2, vr3⟩ := zbox_facts hzz)
             | (refine bring (p := w7.heap[w5.heap.size]? = some (.cells #[.slice none 0 0, .slice none 0 0, .int .i64 0, .bool false] 26)) ?_ (fun hzz => ?_)
                · ((repeat (first | (refine new_plain ?_; (simp; done)) | with_reducible refine old_alloc ?_ | with_reducible refine old_drew ?_ | with_reducible refine old_ab (by assumption) ?_)); done)
                obtain ⟨vq0, vq1, vq2, vq3, vr0, vr1, vr2, vr3⟩ := zbox_facts hzz)
             | (refine bring (p := w7.heap[w5.heap.size + 1]? = some (.cells #[.slice none 0 0, .slice none 0 0, .int .i64 0, .bool false] 26)) ?_ (fun hzz => ?_)
                · ((repeat (first | (refine new_plain ?_; (simp; done)) | with_reducible refine old_alloc ?_ | with_reducible refine old_drew ?_ | with_reducible refine old_ab (by assumption) ?_)); done)
                obtain ⟨vq0, vq1, vq2, vq3, vr0, vr1, vr2, vr3⟩ := zbox_facts hzz)
             | skip))))
    all_goals refine hK' _ _ (Met.intro (hJ _ _ ?_))
    all_goals refine ⟨rfl, ⟨by simp [hs], (by (repeat rw [getD_ne _ _ _ _ _ (by decide)]); exact f1), (by (repeat rw [getD_ne _ _ _ _ _ (by decide)]); exact f26), (by (repeat rw [getD_ne _ _ _ _ _ (by decide)]); exact f49), ?_, ?_⟩, ?_⟩
    all_goals first | (show Ab _ _; (repeat (first | with_reducible exact Ab.refl _ | with_reducible assumption | with_reducible refine Ab.drew ?_ | with_reducible refine Ab.drewN ?_ _ | with_reducible refine Ab.alloc ?_ _ | with_reducible refine Ab.trans ?_ (by assumption) | with_reducible refine Ab.set ?_ (by first | (simp; done) | omega | (simp; omega)) _)); done) | ((repeat (first | rw [getD_ne _ _ _ _ _ (by decide)] | rw [getD_at _ _ 375 _ _ (by (repeat rw [Array.size_setIfInBounds]); exact hs) (by decide)])))
end Go.Proofs.Ytojhdecgipjkeaa
