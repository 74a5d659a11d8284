/- WalNames: walked: the chapter's examples. Written by genwnames.py. Own work. -/
import Derived.Test.YtehagdpcegpbjaaWNm10
set_option linter.unusedVariables false
set_option linter.unusedSimpArgs false
namespace Go.Proofs.Ytehagdpcegpbjaa
open Go.RowKit

set_option maxRecDepth 1000000 in
set_option maxHeartbeats 9600000 in
theorem wnames_walk (w : World) : Calls Try.prog 3 #[] w fun e w' => e = .returned (.bool true) ∧ Ab w w' := by
  have kc := fun (w : World) (C : Array Value) (n c g : Nat) (hg : g = w.heap.size) => Joins.run_convert_bytes_const_at (P := Try.prog) w 22 5 C n c g hg Try.underlying22 Try.underlying5
  go_enter Try.func3, Try.ntmps3
  go_wp2_with fail
  refine (wopen_any none none 0 0 [] [] (-1) false _ RB.nil RB.nil (by simp) (by simp) (by simp) (by simp) (-1) [] 0 WalEx.scan_none).mono ?_
  rintro e w1 ⟨r1, e1, D1, E1, c1, d1, h1, rfl, p1, s1, hb1⟩
  have H1 := Lib.hid (Prod.mk.inj (h1.out.trans WalEx.nm_a)).1
  obtain rfl : e1 = 8 := (Prod.mk.inj (h1.out.trans WalEx.nm_a)).2
  clear h1
  clear H1 p1 s1
  have z1 := hb1.size
  (try simp at z1)
  obtain ⟨dv1q0, dv1q1, dv1q2, dv1q3⟩ := wn_cells4 hb1 (b := w.heap.size) (v0 := .slice none 0 0) (v1 := .slice none 0 0) (v2 := .int .i64 1000) (v3 := .bool false) (by refine ⟨?_, ?_, ?_, ?_⟩ <;> (repeat (first | with_reducible assumption | (simp [go_sem]; done) | with_reducible apply cell_alloc | with_reducible apply cell_drew | with_reducible apply cell_drewN | (with_reducible apply Ab.at; with_reducible assumption) | (with_reducible refine cell_set ?_ ?_; rotate_left; focus (first | (simp; done) | (simp; omega))) | (with_reducible refine cell_setb ?_ ?_; rotate_left; focus (first | omega | (simp only; omega) | (simp; omega))))))
  have dv1z := cell_lt dv1q0
  have dv1n := fun (o : Obj) (j : Nat) => World.cell?_alloc_lt w1 o ⟨w.heap.size, j, none⟩ dv1z
  go_wp2_with fail
  refine (wopen_any none none 0 0 [] [] (1000) false _ RB.nil RB.nil (by simp) (by simp) (by simp) (by simp) (-1) [] 0 WalEx.scan_none).mono ?_
  rintro e w2 ⟨r2, e2, D2, E2, c2, d2, h2, rfl, p2, s2, hb2⟩
  have H2 := Lib.hid (Prod.mk.inj (h2.out.trans WalEx.nm_b)).1
  obtain rfl : e2 = 2 := (Prod.mk.inj (h2.out.trans WalEx.nm_b)).2
  clear h2
  clear H2 p2 s2
  have z2 := hb2.size
  (try simp at z2)
  obtain ⟨dv2q0, dv2q1, dv2q2, dv2q3⟩ := wn_cells4 hb2 (b := w.heap.size) (v0 := .slice none 0 0) (v1 := .slice none 0 0) (v2 := .int .i64 1000) (v3 := .bool false) (by refine ⟨?_, ?_, ?_, ?_⟩ <;> (repeat (first | with_reducible assumption | (simp [go_sem]; done) | with_reducible apply cell_alloc | with_reducible apply cell_drew | with_reducible apply cell_drewN | (with_reducible apply Ab.at; with_reducible assumption) | (with_reducible refine cell_set ?_ ?_; rotate_left; focus (first | (simp; done) | (simp; omega))) | (with_reducible refine cell_setb ?_ ?_; rotate_left; focus (first | omega | (simp only; omega) | (simp; omega))))))
  clear dv1n dv1z dv1q0 dv1q1 dv1q2 dv1q3
  have dv2z := cell_lt dv2q0
  have dv2n := fun (o : Obj) (j : Nat) => World.cell?_alloc_lt w2 o ⟨w.heap.size, j, none⟩ dv2z
  go_wp2_with fail
  refine (wopen_any none none 0 0 [] [] (1000) false _ RB.nil RB.nil (by simp) (by simp) (by simp) (by simp) (1000000001) [] 0 WalEx.scan_none).mono ?_
  rintro e w3 ⟨r3, e3, D3, E3, c3, d3, h3, rfl, p3, s3, hb3⟩
  have H3 := Lib.hid (Prod.mk.inj (h3.out.trans WalEx.nm_c)).1
  obtain rfl : e3 = 2 := (Prod.mk.inj (h3.out.trans WalEx.nm_c)).2
  clear h3
  clear H3 p3 s3
  have z3 := hb3.size
  (try simp at z3)
  obtain ⟨dv3q0, dv3q1, dv3q2, dv3q3⟩ := wn_cells4 hb3 (b := w.heap.size) (v0 := .slice none 0 0) (v1 := .slice none 0 0) (v2 := .int .i64 1000) (v3 := .bool false) (by refine ⟨?_, ?_, ?_, ?_⟩ <;> (repeat (first | with_reducible assumption | (simp [go_sem]; done) | with_reducible apply cell_alloc | with_reducible apply cell_drew | with_reducible apply cell_drewN | (with_reducible apply Ab.at; with_reducible assumption) | (with_reducible refine cell_set ?_ ?_; rotate_left; focus (first | (simp; done) | (simp; omega))) | (with_reducible refine cell_setb ?_ ?_; rotate_left; focus (first | omega | (simp only; omega) | (simp; omega))))))
  clear dv2n dv2z dv2q0 dv2q1 dv2q2 dv2q3
  have dv3z := cell_lt dv3q0
  have dv3n := fun (o : Obj) (j : Nat) => World.cell?_alloc_lt w3 o ⟨w.heap.size, j, none⟩ dv3z
  go_wp2_with fail
  refine (wopen_any none none 0 0 [] [] (1000) false _ RB.nil RB.nil (by simp) (by simp) (by simp) (by simp) (1000000000) [] 0 WalEx.scan_none).mono ?_
  rintro e w4 ⟨r4, e4, D4, E4, c4, d4, h4, rfl, p4, s4, hb4⟩
  have H4 := Lib.hid (Prod.mk.inj (h4.out.trans WalEx.nm_d)).1
  obtain rfl : e4 = 0 := (Prod.mk.inj (h4.out.trans WalEx.nm_d)).2
  clear h4
  have g4 : Wal.Good r4 [] := by rw [H4.out]; exact WalEx.good_la
  have L4 := good_lens g4
  have z4 := hb4.size
  (try simp at z4)
  obtain ⟨dv4q0, dv4q1, dv4q2, dv4q3⟩ := wn_cells4 hb4 (b := w.heap.size) (v0 := .slice none 0 0) (v1 := .slice none 0 0) (v2 := .int .i64 1000) (v3 := .bool false) (by refine ⟨?_, ?_, ?_, ?_⟩ <;> (repeat (first | with_reducible assumption | (simp [go_sem]; done) | with_reducible apply cell_alloc | with_reducible apply cell_drew | with_reducible apply cell_drewN | (with_reducible apply Ab.at; with_reducible assumption) | (with_reducible refine cell_set ?_ ?_; rotate_left; focus (first | (simp; done) | (simp; omega))) | (with_reducible refine cell_setb ?_ ?_; rotate_left; focus (first | omega | (simp only; omega) | (simp; omega))))))
  clear dv3n dv3z dv3q0 dv3q1 dv3q2 dv3q3
  have dv4z := cell_lt dv4q0
  have dv4n := fun (o : Obj) (j : Nat) => World.cell?_alloc_lt w4 o ⟨w.heap.size, j, none⟩ dv4z
  clear dv4n dv4z dv4q0 dv4q1 dv4q2 dv4q3
  go_wp2_with fail
  refine (wappend_any D4 E4 c4 d4 r4.dev.s r4.dev.t r4.dev.cap r4.dev.down r4.first r4.next _ (p4.rb.zero.ab (by repeat (first | with_reducible exact Ab.refl _ | with_reducible assumption | with_reducible refine Ab.drew ?_ | with_reducible refine Ab.drewN ?_ _ | with_reducible refine Ab.alloc ?_ _ | with_reducible refine Ab.trans ?_ (by assumption) | with_reducible refine Ab.set ?_ (by first | (simp; done) | omega | (simp; omega)) _))) (s4.rb.zero.ab (by repeat (first | with_reducible exact Ab.refl _ | with_reducible assumption | with_reducible refine Ab.drew ?_ | with_reducible refine Ab.drewN ?_ _ | with_reducible refine Ab.alloc ?_ _ | with_reducible refine Ab.trans ?_ (by assumption) | with_reducible refine Ab.set ?_ (by first | (simp; done) | omega | (simp; omega)) _))) p4.le s4.le L4.1 L4.2 (some []) g4 none 0 [] RB.nil (by simp) (by simp)).mono ?_
  rintro e w5 ⟨r5, n5, e5, D5, E5, c5, d5, h5, rfl, p5, s5, hb5⟩
  have hm5 := h5.out.trans ((congrArg (fun l => Wal.append l [] (some [])) H4.out).trans WalEx.nm_e)
  have H5 := Lib.hid (Prod.mk.inj hm5).1
  have hn5 := (Prod.mk.inj hm5).2
  obtain ⟨rfl, rfl⟩ := Prod.mk.inj hn5
  clear h5 hm5
  have g5 : Wal.Good r5 [WalEx.rz] := by rw [H5.out]; exact WalEx.good_le
  have L5 := good_lens g5
  have z5 := hb5.size
  (try simp at z5)
  obtain ⟨la5q0, la5q1, la5q2, la5q3, la5q4, la5q5⟩ := cells6 hb5 (b := w4.heap.size) (v0 := .slice D4 r4.dev.s.length c4) (v1 := .slice E4 r4.dev.t.length d4) (v2 := .int .i64 r4.dev.cap) (v3 := .bool r4.dev.down) (v4 := .int .i64 r4.first) (v5 := .int .i64 r4.next) (by refine ⟨?_, ?_, ?_, ?_, ?_, ?_⟩ <;> (repeat (first | with_reducible assumption | (simp [go_sem]; done) | with_reducible apply cell_alloc | with_reducible apply cell_drew | with_reducible apply cell_drewN | (with_reducible apply Ab.at; with_reducible assumption) | (with_reducible refine cell_set ?_ ?_; rotate_left; focus (first | (simp; done) | (simp; omega))) | (with_reducible refine cell_setb ?_ ?_; rotate_left; focus (first | omega | (simp only; omega) | (simp; omega))))))
  have la5z := cell_lt la5q0
  have la5n := fun (o : Obj) (j : Nat) => World.cell?_alloc_lt w5 o ⟨w4.heap.size, j, none⟩ la5z
  go_wp2_with fail
  refine (wappend_any D5 E5 c5 d5 r5.dev.s r5.dev.t r5.dev.cap r5.dev.down r5.first r5.next _ (p5.rb.zero.ab (by repeat (first | with_reducible exact Ab.refl _ | with_reducible assumption | with_reducible refine Ab.drew ?_ | with_reducible refine Ab.drewN ?_ _ | with_reducible refine Ab.alloc ?_ _ | with_reducible refine Ab.trans ?_ (by assumption) | with_reducible refine Ab.set ?_ (by first | (simp; done) | omega | (simp; omega)) _))) (s5.rb.zero.ab (by repeat (first | with_reducible exact Ab.refl _ | with_reducible assumption | with_reducible refine Ab.drew ?_ | with_reducible refine Ab.drewN ?_ _ | with_reducible refine Ab.alloc ?_ _ | with_reducible refine Ab.trans ?_ (by assumption) | with_reducible refine Ab.set ?_ (by first | (simp; done) | omega | (simp; omega)) _))) p5.le s5.le L5.1 L5.2 (some [WalEx.rz]) g5 none 0 [] RB.nil (by simp) (by simp)).mono ?_
  rintro e w6 ⟨r6, n6, e6, D6, E6, c6, d6, h6, rfl, p6, s6, hb6⟩
  have hm6 := h6.out.trans ((congrArg (fun l => Wal.append l [] (some [WalEx.rz])) H5.out).trans WalEx.nm_f)
  have H6 := Lib.hid (Prod.mk.inj hm6).1
  have hn6 := (Prod.mk.inj hm6).2
  obtain ⟨rfl, rfl⟩ := Prod.mk.inj hn6
  clear h6 hm6
  clear H6 p6 s6
  have z6 := hb6.size
  (try simp at z6)
  obtain ⟨la6q0, la6q1, la6q2, la6q3, la6q4, la6q5⟩ := cells6 hb6 (b := w4.heap.size) (v0 := .slice D4 r4.dev.s.length c4) (v1 := .slice E4 r4.dev.t.length d4) (v2 := .int .i64 r4.dev.cap) (v3 := .bool r4.dev.down) (v4 := .int .i64 r4.first) (v5 := .int .i64 r4.next) (by refine ⟨?_, ?_, ?_, ?_, ?_, ?_⟩ <;> (repeat (first | with_reducible assumption | (simp [go_sem]; done) | with_reducible apply cell_alloc | with_reducible apply cell_drew | with_reducible apply cell_drewN | (with_reducible apply Ab.at; with_reducible assumption) | (with_reducible refine cell_set ?_ ?_; rotate_left; focus (first | (simp; done) | (simp; omega))) | (with_reducible refine cell_setb ?_ ?_; rotate_left; focus (first | omega | (simp only; omega) | (simp; omega))))))
  clear la5n la5z la5q0 la5q1 la5q2 la5q3 la5q4 la5q5
  have la6z := cell_lt la6q0
  have la6n := fun (o : Obj) (j : Nat) => World.cell?_alloc_lt w6 o ⟨w4.heap.size, j, none⟩ la6z
  obtain ⟨le6q0, le6q1, le6q2, le6q3, le6q4, le6q5⟩ := cells6 hb6 (b := w5.heap.size) (v0 := .slice D5 r5.dev.s.length c5) (v1 := .slice E5 r5.dev.t.length d5) (v2 := .int .i64 r5.dev.cap) (v3 := .bool r5.dev.down) (v4 := .int .i64 r5.first) (v5 := .int .i64 r5.next) (by refine ⟨?_, ?_, ?_, ?_, ?_, ?_⟩ <;> (repeat (first | with_reducible assumption | (simp [go_sem]; done) | with_reducible apply cell_alloc | with_reducible apply cell_drew | with_reducible apply cell_drewN | (with_reducible apply Ab.at; with_reducible assumption) | (with_reducible refine cell_set ?_ ?_; rotate_left; focus (first | (simp; done) | (simp; omega))) | (with_reducible refine cell_setb ?_ ?_; rotate_left; focus (first | omega | (simp only; omega) | (simp; omega))))))
  have le6z := cell_lt le6q0
  have le6n := fun (o : Obj) (j : Nat) => World.cell?_alloc_lt w6 o ⟨w5.heap.size, j, none⟩ le6z
  go_wp2_with fail
  refine (numbered_at r4 D4 E4 c4 d4 _ (p4.rb.zero.ab (by repeat (first | with_reducible exact Ab.refl _ | with_reducible assumption | with_reducible refine Ab.drew ?_ | with_reducible refine Ab.drewN ?_ _ | with_reducible refine Ab.alloc ?_ _ | with_reducible refine Ab.trans ?_ (by assumption) | with_reducible refine Ab.set ?_ (by first | (simp; done) | omega | (simp; omega)) _))) (s4.rb.zero.ab (by repeat (first | with_reducible exact Ab.refl _ | with_reducible assumption | with_reducible refine Ab.drew ?_ | with_reducible refine Ab.drewN ?_ _ | with_reducible refine Ab.alloc ?_ _ | with_reducible refine Ab.trans ?_ (by assumption) | with_reducible refine Ab.set ?_ (by first | (simp; done) | omega | (simp; omega)) _))) p4.le s4.le [] g4 1000000000 _ _ _ [] rfl Strs.nil rfl ((congrArg Wal.Log.first H4.out).trans rfl)).mono ?_
  rintro e w7 ⟨rfl, hb7⟩
  have z7 := hb7.size
  (try simp at z7)
  obtain ⟨la7q0, la7q1, la7q2, la7q3, la7q4, la7q5⟩ := cells6 hb7 (b := w4.heap.size) (v0 := .slice D4 r4.dev.s.length c4) (v1 := .slice E4 r4.dev.t.length d4) (v2 := .int .i64 r4.dev.cap) (v3 := .bool r4.dev.down) (v4 := .int .i64 r4.first) (v5 := .int .i64 r4.next) (by refine ⟨?_, ?_, ?_, ?_, ?_, ?_⟩ <;> (repeat (first | with_reducible assumption | (simp [go_sem]; done) | with_reducible apply cell_alloc | with_reducible apply cell_drew | with_reducible apply cell_drewN | (with_reducible apply Ab.at; with_reducible assumption) | (with_reducible refine cell_set ?_ ?_; rotate_left; focus (first | (simp; done) | (simp; omega))) | (with_reducible refine cell_setb ?_ ?_; rotate_left; focus (first | omega | (simp only; omega) | (simp; omega))))))
  clear la6n la6z la6q0 la6q1 la6q2 la6q3 la6q4 la6q5
  have la7z := cell_lt la7q0
  have la7n := fun (o : Obj) (j : Nat) => World.cell?_alloc_lt w7 o ⟨w4.heap.size, j, none⟩ la7z
  obtain ⟨le7q0, le7q1, le7q2, le7q3, le7q4, le7q5⟩ := cells6 hb7 (b := w5.heap.size) (v0 := .slice D5 r5.dev.s.length c5) (v1 := .slice E5 r5.dev.t.length d5) (v2 := .int .i64 r5.dev.cap) (v3 := .bool r5.dev.down) (v4 := .int .i64 r5.first) (v5 := .int .i64 r5.next) (by refine ⟨?_, ?_, ?_, ?_, ?_, ?_⟩ <;> (repeat (first | with_reducible assumption | (simp [go_sem]; done) | with_reducible apply cell_alloc | with_reducible apply cell_drew | with_reducible apply cell_drewN | (with_reducible apply Ab.at; with_reducible assumption) | (with_reducible refine cell_set ?_ ?_; rotate_left; focus (first | (simp; done) | (simp; omega))) | (with_reducible refine cell_setb ?_ ?_; rotate_left; focus (first | omega | (simp only; omega) | (simp; omega))))))
  clear le6n le6z le6q0 le6q1 le6q2 le6q3 le6q4 le6q5
  have le7z := cell_lt le7q0
  have le7n := fun (o : Obj) (j : Nat) => World.cell?_alloc_lt w7 o ⟨w5.heap.size, j, none⟩ le7z
  clear la7n la7z la7q0 la7q1 la7q2 la7q3 la7q4 la7q5
  go_wp2_with fail
  refine (numbered_at r5 D5 E5 c5 d5 _ (p5.rb.zero.ab (by repeat (first | with_reducible exact Ab.refl _ | with_reducible assumption | with_reducible refine Ab.drew ?_ | with_reducible refine Ab.drewN ?_ _ | with_reducible refine Ab.alloc ?_ _ | with_reducible refine Ab.trans ?_ (by assumption) | with_reducible refine Ab.set ?_ (by first | (simp; done) | omega | (simp; omega)) _))) (s5.rb.zero.ab (by repeat (first | with_reducible exact Ab.refl _ | with_reducible assumption | with_reducible refine Ab.drew ?_ | with_reducible refine Ab.drewN ?_ _ | with_reducible refine Ab.alloc ?_ _ | with_reducible refine Ab.trans ?_ (by assumption) | with_reducible refine Ab.set ?_ (by first | (simp; done) | omega | (simp; omega)) _))) p5.le s5.le [WalEx.rz] g5 1000000000 _ _ _ [[]] rfl (Strs.blk (T := 9) (fr := (0, 0)) (by (repeat (first | exact new_plain (by first | (simp; done) | omega | (simp; omega)) | with_reducible refine old_alloc ?_ | with_reducible refine old_drew ?_ | with_reducible refine old_set ?_ (by first | (simp; done) | omega | (simp; omega)) | with_reducible refine old_ab (by assumption) ?_)))) rfl ((congrArg Wal.Log.first H5.out).trans rfl)).mono ?_
  rintro e w8 ⟨rfl, hb8⟩
  have z8 := hb8.size
  (try simp at z8)
  obtain ⟨le8q0, le8q1, le8q2, le8q3, le8q4, le8q5⟩ := cells6 hb8 (b := w5.heap.size) (v0 := .slice D5 r5.dev.s.length c5) (v1 := .slice E5 r5.dev.t.length d5) (v2 := .int .i64 r5.dev.cap) (v3 := .bool r5.dev.down) (v4 := .int .i64 r5.first) (v5 := .int .i64 r5.next) (by refine ⟨?_, ?_, ?_, ?_, ?_, ?_⟩ <;> (repeat (first | with_reducible assumption | (simp [go_sem]; done) | with_reducible apply cell_alloc | with_reducible apply cell_drew | with_reducible apply cell_drewN | (with_reducible apply Ab.at; with_reducible assumption) | (with_reducible refine cell_set ?_ ?_; rotate_left; focus (first | (simp; done) | (simp; omega))) | (with_reducible refine cell_setb ?_ ?_; rotate_left; focus (first | omega | (simp only; omega) | (simp; omega))))))
  clear le7n le7z le7q0 le7q1 le7q2 le7q3 le7q4 le7q5
  have le8z := cell_lt le8q0
  have le8n := fun (o : Obj) (j : Nat) => World.cell?_alloc_lt w8 o ⟨w5.heap.size, j, none⟩ le8z
  clear le8n le8z le8q0 le8q1 le8q2 le8q3 le8q4 le8q5
  clear H4 g4 L4 p4 s4
  clear H5 g5 L5 p5 s5
  have HA8 : Ab (w.alloc (.cells #[.slice none 0 0, .slice none 0 0, .int .i64 1000, .bool false] 24)) w8 := (by repeat (first | with_reducible exact Ab.refl _ | with_reducible assumption | with_reducible refine Ab.drew ?_ | with_reducible refine Ab.drewN ?_ _ | with_reducible refine Ab.alloc ?_ _ | with_reducible refine Ab.trans ?_ (by assumption) | with_reducible refine Ab.set ?_ (by first | (simp; done) | omega | (simp; omega)) _))
  clear hb1 hb2 hb3 hb4 hb5 hb6 hb7 hb8
  go_wp2
  refine wp_cut (NK9 w) ?_ ?_
  rotate_left
  · intro J K' hJ hK'
    exact reg9 w _ HA8 _ (by rfl) (by rfl) (by rfl) _ _ (fun a' w' h => hK' _ _ (Met.intro (hJ _ _ h)))
  rename_i KK hKK
  rintro ⟨T2, d2⟩ wz ⟨hd2, hs2, f1, f16, f19, HAz⟩
  simp only at hd2 hs2 f1 f16 f19
  subst hd2
  refine hKK _ _ ?_
  exact part10 w wz HAz T2 hs2 f1 f16 f19
end Go.Proofs.Ytehagdpcegpbjaa
