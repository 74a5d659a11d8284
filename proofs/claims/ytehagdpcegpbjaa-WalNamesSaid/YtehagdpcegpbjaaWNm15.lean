/- WalNames: regions 15 to 26. Written by genwnames.py. Own work. -/
import Derived.Test.YtehagdpcegpbjaaWNm27
set_option linter.unusedVariables false
set_option linter.unusedSimpArgs false
namespace Go.Proofs.Ytehagdpcegpbjaa
open Go.RowKit

/-- Behind region 26. -/
def NK26 (w : World) (act : Act) (wx : World) : Prop :=
  act.defers = [] ∧ act.tmps.size = 359 ∧ act.tmps.getD 1 undef = .pointer (some ⟨w.heap.size, 0, none⟩) ∧ act.tmps.getD 16 undef = .bool true ∧ act.tmps.getD 31 undef = .bool true ∧ act.tmps.getD 54 undef = .bool true ∧ Ab (w.alloc (.cells #[.slice none 0 0, .slice none 0 0, .int .i64 1000, .bool false] 24)) wx
noncomputable def tail15 : Code := ((Try.f3.body.bind (tailR 15)).getD .skip)
set_option maxRecDepth 1000000 in
set_option maxHeartbeats 9600000 in
theorem part15 (w w0 : World) (HA0 : Ab (w.alloc (.cells #[.slice none 0 0, .slice none 0 0, .int .i64 1000, .bool false] 24)) w0) (T : Array Value) (hsT : T.size = 359) (f1 : T.getD 1 undef = .pointer (some ⟨w.heap.size, 0, none⟩)) (f16 : T.getD 16 undef = .bool true) (f31 : T.getD 31 undef = .bool true) :
    Code.wp Try.prog tail15 (bodyPost Try.prog Try.f3 (fun e w' => e = .returned (.bool true) ∧ Ab w w')) ⟨T, []⟩ w0 := by
  obtain ⟨g, hg, hT⟩ := opq_lit 359 T hsT
  rw [lit_359] at hT
  have e1 := (hg 1).trans f1
  have e16 := (hg 16).trans f16
  have e31 := (hg 31).trans f31
  clear hg hsT f1 f16 f31
  subst hT
  rw [e1, e16, e31]
  clear e1 e16 e31
  conv => arg 2; whnf
  have z0 := HA0.size
  simp at z0
  go_wp2_with fail
  refine (given_false _).mono ?_
  rintro e w1 ⟨r1, D1, E1, c1, d1, H1, rfl, p1, s1, hb1⟩
  have g1 : Wal.Good r1 [WalEx.r5, WalEx.r6] := by rw [H1.out]; exact WalEx.good_56
  have L1 := good_lens g1
  have z1 := hb1.size
  (try simp at z1)
  go_wp2_with fail
  refine (wrecords_any D1 E1 c1 d1 r1.dev.s r1.dev.t r1.dev.cap r1.dev.down r1.first r1.next _ (p1.rb.zero.ab (by repeat (first | with_reducible exact Ab.refl _ | with_reducible assumption | with_reducible refine Ab.drew ?_ | with_reducible refine Ab.drewN ?_ _ | with_reducible refine Ab.alloc ?_ _ | with_reducible refine Ab.trans ?_ (by assumption) | with_reducible refine Ab.set ?_ (by first | (simp; done) | omega | (simp; omega)) _))) (s1.rb.zero.ab (by repeat (first | with_reducible exact Ab.refl _ | with_reducible assumption | with_reducible refine Ab.drew ?_ | with_reducible refine Ab.drewN ?_ _ | with_reducible refine Ab.alloc ?_ _ | with_reducible refine Ab.trans ?_ (by assumption) | with_reducible refine Ab.set ?_ (by first | (simp; done) | omega | (simp; omega)) _))) p1.le s1.le L1.1 L1.2 (some [WalEx.r5, WalEx.r6]) g1 4).mono ?_
  rintro e w2 ⟨X2, x2, xs2, e2, h2, rfl, R2, hd2, hx2, hsm2, hb2⟩
  have hm2 := h2.out.trans ((congrArg (fun l => Wal.records l 4 (some [WalEx.r5, WalEx.r6])) H1.out).trans WalEx.nm_l4)
  obtain rfl : xs2 = [] := by have := (Prod.mk.inj hm2).1; simpa [recs] using this
  obtain rfl : e2 = 2 := (Prod.mk.inj hm2).2
  clear h2 hm2 R2 hd2 hx2 hsm2
  have z2 := hb2.size
  (try simp at z2)
  clear H1 g1 L1 p1 s1
  go_wp2_with fail
  refine (given_false _).mono ?_
  rintro e w3 ⟨r3, D3, E3, c3, d3, H3, rfl, p3, s3, hb3⟩
  have g3 : Wal.Good r3 [WalEx.r5, WalEx.r6] := by rw [H3.out]; exact WalEx.good_56
  have L3 := good_lens g3
  have z3 := hb3.size
  (try simp at z3)
  go_wp2_with fail
  refine (wrecords_any D3 E3 c3 d3 r3.dev.s r3.dev.t r3.dev.cap r3.dev.down r3.first r3.next _ (p3.rb.zero.ab (by repeat (first | with_reducible exact Ab.refl _ | with_reducible assumption | with_reducible refine Ab.drew ?_ | with_reducible refine Ab.drewN ?_ _ | with_reducible refine Ab.alloc ?_ _ | with_reducible refine Ab.trans ?_ (by assumption) | with_reducible refine Ab.set ?_ (by first | (simp; done) | omega | (simp; omega)) _))) (s3.rb.zero.ab (by repeat (first | with_reducible exact Ab.refl _ | with_reducible assumption | with_reducible refine Ab.drew ?_ | with_reducible refine Ab.drewN ?_ _ | with_reducible refine Ab.alloc ?_ _ | with_reducible refine Ab.trans ?_ (by assumption) | with_reducible refine Ab.set ?_ (by first | (simp; done) | omega | (simp; omega)) _))) p3.le s3.le L3.1 L3.2 (some [WalEx.r5, WalEx.r6]) g3 8).mono ?_
  rintro e w4 ⟨X4, x4, xs4, e4, h4, rfl, R4, hd4, hx4, hsm4, hb4⟩
  have hm4 := h4.out.trans ((congrArg (fun l => Wal.records l 8 (some [WalEx.r5, WalEx.r6])) H3.out).trans WalEx.nm_l8)
  obtain rfl : xs4 = [] := by have := (Prod.mk.inj hm4).1; simpa [recs] using this
  obtain rfl : e4 = 2 := (Prod.mk.inj hm4).2
  clear h4 hm4 R4 hd4 hx4 hsm4
  have z4 := hb4.size
  (try simp at z4)
  clear H3 g3 L3 p3 s3
  go_wp2_with fail
  refine (given_false _).mono ?_
  rintro e w5 ⟨r5, D5, E5, c5, d5, H5, rfl, p5, s5, hb5⟩
  have g5 : Wal.Good r5 [WalEx.r5, WalEx.r6] := by rw [H5.out]; exact WalEx.good_56
  have L5 := good_lens g5
  have z5 := hb5.size
  (try simp at z5)
  go_wp2_with fail
  refine (wrecords_any D5 E5 c5 d5 r5.dev.s r5.dev.t r5.dev.cap r5.dev.down r5.first r5.next _ (p5.rb.zero.ab (by repeat (first | with_reducible exact Ab.refl _ | with_reducible assumption | with_reducible refine Ab.drew ?_ | with_reducible refine Ab.drewN ?_ _ | with_reducible refine Ab.alloc ?_ _ | with_reducible refine Ab.trans ?_ (by assumption) | with_reducible refine Ab.set ?_ (by first | (simp; done) | omega | (simp; omega)) _))) (s5.rb.zero.ab (by repeat (first | with_reducible exact Ab.refl _ | with_reducible assumption | with_reducible refine Ab.drew ?_ | with_reducible refine Ab.drewN ?_ _ | with_reducible refine Ab.alloc ?_ _ | with_reducible refine Ab.trans ?_ (by assumption) | with_reducible refine Ab.set ?_ (by first | (simp; done) | omega | (simp; omega)) _))) p5.le s5.le L5.1 L5.2 (some [WalEx.r5, WalEx.r6]) g5 7).mono ?_
  rintro e w6 ⟨X6, x6, xs6, e6, h6, rfl, R6, hd6, hx6, hsm6, hb6⟩
  have hm6 := h6.out.trans ((congrArg (fun l => Wal.records l 7 (some [WalEx.r5, WalEx.r6])) H5.out).trans WalEx.nm_l7)
  obtain rfl : xs6 = [] := by have := (Prod.mk.inj hm6).1; simpa [recs] using this
  obtain rfl : e6 = 0 := (Prod.mk.inj hm6).2
  clear h6 hm6 R6 hd6 hx6 hsm6
  have z6 := hb6.size
  (try simp at z6)
  clear H5 g5 L5 p5 s5
  have HA6 : Ab (w.alloc (.cells #[.slice none 0 0, .slice none 0 0, .int .i64 1000, .bool false] 24)) w6 := (by repeat (first | with_reducible exact Ab.refl _ | with_reducible assumption | with_reducible refine Ab.drew ?_ | with_reducible refine Ab.drewN ?_ _ | with_reducible refine Ab.alloc ?_ _ | with_reducible refine Ab.trans ?_ (by assumption) | with_reducible refine Ab.set ?_ (by first | (simp; done) | omega | (simp; omega)) _))
  clear hb1 hb2 hb3 hb4 hb5 hb6 HA0
  go_wp2_with fail
  refine (given_false _).mono ?_
  rintro e w7 ⟨r7, D7, E7, c7, d7, H7, rfl, p7, s7, hb7⟩
  have g7 : Wal.Good r7 [WalEx.r5, WalEx.r6] := by rw [H7.out]; exact WalEx.good_56
  have L7 := good_lens g7
  have z7 := hb7.size
  (try simp at z7)
  go_wp2_with fail
  refine (wdrop_any D7 E7 c7 d7 r7.dev.s r7.dev.t r7.dev.cap r7.dev.down r7.first r7.next _ (p7.rb.zero.ab (by repeat (first | with_reducible exact Ab.refl _ | with_reducible assumption | with_reducible refine Ab.drew ?_ | with_reducible refine Ab.drewN ?_ _ | with_reducible refine Ab.alloc ?_ _ | with_reducible refine Ab.trans ?_ (by assumption) | with_reducible refine Ab.set ?_ (by first | (simp; done) | omega | (simp; omega)) _))) (s7.rb.zero.ab (by repeat (first | with_reducible exact Ab.refl _ | with_reducible assumption | with_reducible refine Ab.drew ?_ | with_reducible refine Ab.drewN ?_ _ | with_reducible refine Ab.alloc ?_ _ | with_reducible refine Ab.trans ?_ (by assumption) | with_reducible refine Ab.set ?_ (by first | (simp; done) | omega | (simp; omega)) _))) p7.le s7.le L7.1 L7.2 (some [WalEx.r5, WalEx.r6]) g7 4).mono ?_
  rintro e w8 ⟨r8, e8, D8, E8, c8, d8, h8, rfl, p8, s8, hb8⟩
  have hm8 := h8.out.trans ((congrArg (fun l => Wal.drop l 4 (some [WalEx.r5, WalEx.r6])) H7.out).trans WalEx.nm_m4)
  have H8 := Lib.hid (Prod.mk.inj hm8).1
  obtain rfl : e8 = 2 := (Prod.mk.inj hm8).2
  clear h8 hm8
  clear H8 p8 s8
  have z8 := hb8.size
  (try simp at z8)
  clear H7 g7 L7 p7 s7
  go_wp2_with fail
  refine (given_false _).mono ?_
  rintro e w9 ⟨r9, D9, E9, c9, d9, H9, rfl, p9, s9, hb9⟩
  have g9 : Wal.Good r9 [WalEx.r5, WalEx.r6] := by rw [H9.out]; exact WalEx.good_56
  have L9 := good_lens g9
  have z9 := hb9.size
  (try simp at z9)
  go_wp2_with fail
  refine (wdrop_any D9 E9 c9 d9 r9.dev.s r9.dev.t r9.dev.cap r9.dev.down r9.first r9.next _ (p9.rb.zero.ab (by repeat (first | with_reducible exact Ab.refl _ | with_reducible assumption | with_reducible refine Ab.drew ?_ | with_reducible refine Ab.drewN ?_ _ | with_reducible refine Ab.alloc ?_ _ | with_reducible refine Ab.trans ?_ (by assumption) | with_reducible refine Ab.set ?_ (by first | (simp; done) | omega | (simp; omega)) _))) (s9.rb.zero.ab (by repeat (first | with_reducible exact Ab.refl _ | with_reducible assumption | with_reducible refine Ab.drew ?_ | with_reducible refine Ab.drewN ?_ _ | with_reducible refine Ab.alloc ?_ _ | with_reducible refine Ab.trans ?_ (by assumption) | with_reducible refine Ab.set ?_ (by first | (simp; done) | omega | (simp; omega)) _))) p9.le s9.le L9.1 L9.2 (some [WalEx.r5, WalEx.r6]) g9 8).mono ?_
  rintro e w10 ⟨r10, e10, D10, E10, c10, d10, h10, rfl, p10, s10, hb10⟩
  have hm10 := h10.out.trans ((congrArg (fun l => Wal.drop l 8 (some [WalEx.r5, WalEx.r6])) H9.out).trans WalEx.nm_m8)
  have H10 := Lib.hid (Prod.mk.inj hm10).1
  obtain rfl : e10 = 2 := (Prod.mk.inj hm10).2
  clear h10 hm10
  clear H10 p10 s10
  have z10 := hb10.size
  (try simp at z10)
  clear H9 g9 L9 p9 s9
  go_wp2_with fail
  refine (given_false _).mono ?_
  rintro e w11 ⟨r11, D11, E11, c11, d11, H11, rfl, p11, s11, hb11⟩
  have g11 : Wal.Good r11 [WalEx.r5, WalEx.r6] := by rw [H11.out]; exact WalEx.good_56
  have L11 := good_lens g11
  have z11 := hb11.size
  (try simp at z11)
  go_wp2_with fail
  refine (wdrop_any D11 E11 c11 d11 r11.dev.s r11.dev.t r11.dev.cap r11.dev.down r11.first r11.next _ (p11.rb.zero.ab (by repeat (first | with_reducible exact Ab.refl _ | with_reducible assumption | with_reducible refine Ab.drew ?_ | with_reducible refine Ab.drewN ?_ _ | with_reducible refine Ab.alloc ?_ _ | with_reducible refine Ab.trans ?_ (by assumption) | with_reducible refine Ab.set ?_ (by first | (simp; done) | omega | (simp; omega)) _))) (s11.rb.zero.ab (by repeat (first | with_reducible exact Ab.refl _ | with_reducible assumption | with_reducible refine Ab.drew ?_ | with_reducible refine Ab.drewN ?_ _ | with_reducible refine Ab.alloc ?_ _ | with_reducible refine Ab.trans ?_ (by assumption) | with_reducible refine Ab.set ?_ (by first | (simp; done) | omega | (simp; omega)) _))) p11.le s11.le L11.1 L11.2 (some [WalEx.r5, WalEx.r6]) g11 6).mono ?_
  rintro e w12 ⟨r12, e12, D12, E12, c12, d12, h12, rfl, p12, s12, hb12⟩
  have hm12 := h12.out.trans ((congrArg (fun l => Wal.drop l 6 (some [WalEx.r5, WalEx.r6])) H11.out).trans WalEx.nm_m6)
  have H12 := Lib.hid (Prod.mk.inj hm12).1
  obtain rfl : e12 = 32 := (Prod.mk.inj hm12).2
  clear h12 hm12
  clear H12 p12 s12
  have z12 := hb12.size
  (try simp at z12)
  clear H11 g11 L11 p11 s11
  have HA12 : Ab (w.alloc (.cells #[.slice none 0 0, .slice none 0 0, .int .i64 1000, .bool false] 24)) w12 := (by repeat (first | with_reducible exact Ab.refl _ | with_reducible assumption | with_reducible refine Ab.drew ?_ | with_reducible refine Ab.drewN ?_ _ | with_reducible refine Ab.alloc ?_ _ | with_reducible refine Ab.trans ?_ (by assumption) | with_reducible refine Ab.set ?_ (by first | (simp; done) | omega | (simp; omega)) _))
  clear hb7 hb8 hb9 hb10 hb11 hb12 HA6
  go_wp2_with fail
  refine (given_false _).mono ?_
  rintro e w13 ⟨r13, D13, E13, c13, d13, H13, rfl, p13, s13, hb13⟩
  have g13 : Wal.Good r13 [WalEx.r5, WalEx.r6] := by rw [H13.out]; exact WalEx.good_56
  have L13 := good_lens g13
  have z13 := hb13.size
  (try simp at z13)
  go_wp2_with fail
  refine (wdrop_any D13 E13 c13 d13 r13.dev.s r13.dev.t r13.dev.cap r13.dev.down r13.first r13.next _ (p13.rb.zero.ab (by repeat (first | with_reducible exact Ab.refl _ | with_reducible assumption | with_reducible refine Ab.drew ?_ | with_reducible refine Ab.drewN ?_ _ | with_reducible refine Ab.alloc ?_ _ | with_reducible refine Ab.trans ?_ (by assumption) | with_reducible refine Ab.set ?_ (by first | (simp; done) | omega | (simp; omega)) _))) (s13.rb.zero.ab (by repeat (first | with_reducible exact Ab.refl _ | with_reducible assumption | with_reducible refine Ab.drew ?_ | with_reducible refine Ab.drewN ?_ _ | with_reducible refine Ab.alloc ?_ _ | with_reducible refine Ab.trans ?_ (by assumption) | with_reducible refine Ab.set ?_ (by first | (simp; done) | omega | (simp; omega)) _))) p13.le s13.le L13.1 L13.2 (some [WalEx.r5, WalEx.r6]) g13 5).mono ?_
  rintro e w14 ⟨r14, e14, D14, E14, c14, d14, h14, rfl, p14, s14, hb14⟩
  have hm14 := h14.out.trans ((congrArg (fun l => Wal.drop l 5 (some [WalEx.r5, WalEx.r6])) H13.out).trans WalEx.nm_m5)
  have H14 := Lib.hid (Prod.mk.inj hm14).1
  obtain rfl : e14 = 0 := (Prod.mk.inj hm14).2
  clear h14 hm14
  have g14 : Wal.Good r14 [WalEx.r5, WalEx.r6] := by rw [H14.out]; exact WalEx.good_56
  have L14 := good_lens g14
  have z14 := hb14.size
  (try simp at z14)
  clear H13 g13 L13 p13 s13
  go_wp2_with fail
  refine (given_true _).mono ?_
  rintro e w15 ⟨r15, D15, E15, c15, d15, H15, rfl, p15, s15, hb15⟩
  have g15 : Wal.Good r15 [WalEx.r5, WalEx.r6, WalEx.r7] := by rw [H15.out]; exact WalEx.good_567
  have L15 := good_lens g15
  have z15 := hb15.size
  (try simp at z15)
  obtain ⟨sa15q0, sa15q1, sa15q2, sa15q3, sa15q4, sa15q5⟩ := cells6 hb15 (b := w14.heap.size) (v0 := .slice D14 r14.dev.s.length c14) (v1 := .slice E14 r14.dev.t.length d14) (v2 := .int .i64 r14.dev.cap) (v3 := .bool r14.dev.down) (v4 := .int .i64 r14.first) (v5 := .int .i64 r14.next) (by refine ⟨?_, ?_, ?_, ?_, ?_, ?_⟩ <;> (repeat (first | with_reducible assumption | (simp [go_sem]; done) | with_reducible apply cell_alloc | with_reducible apply cell_drew | with_reducible apply cell_drewN | (with_reducible apply Ab.at; with_reducible assumption) | (with_reducible refine cell_set ?_ ?_; rotate_left; focus (first | (simp; done) | (simp; omega))) | (with_reducible refine cell_setb ?_ ?_; rotate_left; focus (first | omega | (simp only; omega) | (simp; omega))))))
  have sa15z := cell_lt sa15q0
  have sa15n := fun (o : Obj) (j : Nat) => World.cell?_alloc_lt w15 o ⟨w14.heap.size, j, none⟩ sa15z
  go_wp2_with fail
  refine (wsync_any D15 E15 c15 d15 r15.dev.s r15.dev.t r15.dev.cap r15.dev.down r15.first r15.next _ (p15.rb.zero.ab (by repeat (first | with_reducible exact Ab.refl _ | with_reducible assumption | with_reducible refine Ab.drew ?_ | with_reducible refine Ab.drewN ?_ _ | with_reducible refine Ab.alloc ?_ _ | with_reducible refine Ab.trans ?_ (by assumption) | with_reducible refine Ab.set ?_ (by first | (simp; done) | omega | (simp; omega)) _))) (s15.rb.zero.ab (by repeat (first | with_reducible exact Ab.refl _ | with_reducible assumption | with_reducible refine Ab.drew ?_ | with_reducible refine Ab.drewN ?_ _ | with_reducible refine Ab.alloc ?_ _ | with_reducible refine Ab.trans ?_ (by assumption) | with_reducible refine Ab.set ?_ (by first | (simp; done) | omega | (simp; omega)) _))) p15.le s15.le L15.1 L15.2 (some [WalEx.r5, WalEx.r6, WalEx.r7]) g15).mono ?_
  rintro e w16 ⟨r16, e16, D16, E16, c16, d16, h16, rfl, p16, s16, hb16⟩
  have hm16 := h16.out.trans ((congrArg (fun l => Wal.sync l (some [WalEx.r5, WalEx.r6, WalEx.r7])) H15.out).trans WalEx.nm_n)
  have H16 := Lib.hid (Prod.mk.inj hm16).1
  obtain rfl : e16 = 0 := (Prod.mk.inj hm16).2
  clear h16 hm16
  have g16 : Wal.Good r16 [WalEx.r5, WalEx.r6, WalEx.r7] := by rw [H16.out]; exact WalEx.good_s567
  have L16 := good_lens g16
  have z16 := hb16.size
  (try simp at z16)
  obtain ⟨sa16q0, sa16q1, sa16q2, sa16q3, sa16q4, sa16q5⟩ := cells6 hb16 (b := w14.heap.size) (v0 := .slice D14 r14.dev.s.length c14) (v1 := .slice E14 r14.dev.t.length d14) (v2 := .int .i64 r14.dev.cap) (v3 := .bool r14.dev.down) (v4 := .int .i64 r14.first) (v5 := .int .i64 r14.next) (by refine ⟨?_, ?_, ?_, ?_, ?_, ?_⟩ <;> (repeat (first | with_reducible assumption | (simp [go_sem]; done) | with_reducible apply cell_alloc | with_reducible apply cell_drew | with_reducible apply cell_drewN | (with_reducible apply Ab.at; with_reducible assumption) | (with_reducible refine cell_set ?_ ?_; rotate_left; focus (first | (simp; done) | (simp; omega))) | (with_reducible refine cell_setb ?_ ?_; rotate_left; focus (first | omega | (simp only; omega) | (simp; omega))))))
  clear sa15n sa15z sa15q0 sa15q1 sa15q2 sa15q3 sa15q4 sa15q5
  have sa16z := cell_lt sa16q0
  have sa16n := fun (o : Obj) (j : Nat) => World.cell?_alloc_lt w16 o ⟨w14.heap.size, j, none⟩ sa16z
  clear H15 g15 L15 p15 s15
  go_wp2_with fail
  refine (wdrop_any D16 E16 c16 d16 r16.dev.s r16.dev.t r16.dev.cap r16.dev.down r16.first r16.next _ (p16.rb.zero.ab (by repeat (first | with_reducible exact Ab.refl _ | with_reducible assumption | with_reducible refine Ab.drew ?_ | with_reducible refine Ab.drewN ?_ _ | with_reducible refine Ab.alloc ?_ _ | with_reducible refine Ab.trans ?_ (by assumption) | with_reducible refine Ab.set ?_ (by first | (simp; done) | omega | (simp; omega)) _))) (s16.rb.zero.ab (by repeat (first | with_reducible exact Ab.refl _ | with_reducible assumption | with_reducible refine Ab.drew ?_ | with_reducible refine Ab.drewN ?_ _ | with_reducible refine Ab.alloc ?_ _ | with_reducible refine Ab.trans ?_ (by assumption) | with_reducible refine Ab.set ?_ (by first | (simp; done) | omega | (simp; omega)) _))) p16.le s16.le L16.1 L16.2 (some [WalEx.r5, WalEx.r6, WalEx.r7]) g16 8).mono ?_
  rintro e w17 ⟨r17, e17, D17, E17, c17, d17, h17, rfl, p17, s17, hb17⟩
  have hm17 := h17.out.trans ((congrArg (fun l => Wal.drop l 8 (some [WalEx.r5, WalEx.r6, WalEx.r7])) H16.out).trans WalEx.nm_o)
  have H17 := Lib.hid (Prod.mk.inj hm17).1
  obtain rfl : e17 = 0 := (Prod.mk.inj hm17).2
  clear h17 hm17
  have g17 : Wal.Good r17 [] := by rw [H17.out]; exact WalEx.good_le8
  have L17 := good_lens g17
  have z17 := hb17.size
  (try simp at z17)
  obtain ⟨sa17q0, sa17q1, sa17q2, sa17q3, sa17q4, sa17q5⟩ := cells6 hb17 (b := w14.heap.size) (v0 := .slice D14 r14.dev.s.length c14) (v1 := .slice E14 r14.dev.t.length d14) (v2 := .int .i64 r14.dev.cap) (v3 := .bool r14.dev.down) (v4 := .int .i64 r14.first) (v5 := .int .i64 r14.next) (by refine ⟨?_, ?_, ?_, ?_, ?_, ?_⟩ <;> (repeat (first | with_reducible assumption | (simp [go_sem]; done) | with_reducible apply cell_alloc | with_reducible apply cell_drew | with_reducible apply cell_drewN | (with_reducible apply Ab.at; with_reducible assumption) | (with_reducible refine cell_set ?_ ?_; rotate_left; focus (first | (simp; done) | (simp; omega))) | (with_reducible refine cell_setb ?_ ?_; rotate_left; focus (first | omega | (simp only; omega) | (simp; omega))))))
  clear sa16n sa16z sa16q0 sa16q1 sa16q2 sa16q3 sa16q4 sa16q5
  have sa17z := cell_lt sa17q0
  have sa17n := fun (o : Obj) (j : Nat) => World.cell?_alloc_lt w17 o ⟨w14.heap.size, j, none⟩ sa17z
  obtain ⟨th17q0, th17q1, th17q2, th17q3, th17q4, th17q5⟩ := cells6 hb17 (b := w16.heap.size) (v0 := .slice D16 r16.dev.s.length c16) (v1 := .slice E16 r16.dev.t.length d16) (v2 := .int .i64 r16.dev.cap) (v3 := .bool r16.dev.down) (v4 := .int .i64 r16.first) (v5 := .int .i64 r16.next) (by refine ⟨?_, ?_, ?_, ?_, ?_, ?_⟩ <;> (repeat (first | with_reducible assumption | (simp [go_sem]; done) | with_reducible apply cell_alloc | with_reducible apply cell_drew | with_reducible apply cell_drewN | (with_reducible apply Ab.at; with_reducible assumption) | (with_reducible refine cell_set ?_ ?_; rotate_left; focus (first | (simp; done) | (simp; omega))) | (with_reducible refine cell_setb ?_ ?_; rotate_left; focus (first | omega | (simp only; omega) | (simp; omega))))))
  have th17z := cell_lt th17q0
  have th17n := fun (o : Obj) (j : Nat) => World.cell?_alloc_lt w17 o ⟨w16.heap.size, j, none⟩ th17z
  go_wp2_with fail
  refine (given_false _).mono ?_
  rintro e w18 ⟨r18, D18, E18, c18, d18, H18, rfl, p18, s18, hb18⟩
  have g18 : Wal.Good r18 [WalEx.r5, WalEx.r6] := by rw [H18.out]; exact WalEx.good_56
  have L18 := good_lens g18
  have z18 := hb18.size
  (try simp at z18)
  obtain ⟨sa18q0, sa18q1, sa18q2, sa18q3, sa18q4, sa18q5⟩ := cells6 hb18 (b := w14.heap.size) (v0 := .slice D14 r14.dev.s.length c14) (v1 := .slice E14 r14.dev.t.length d14) (v2 := .int .i64 r14.dev.cap) (v3 := .bool r14.dev.down) (v4 := .int .i64 r14.first) (v5 := .int .i64 r14.next) (by refine ⟨?_, ?_, ?_, ?_, ?_, ?_⟩ <;> (repeat (first | with_reducible assumption | (simp [go_sem]; done) | with_reducible apply cell_alloc | with_reducible apply cell_drew | with_reducible apply cell_drewN | (with_reducible apply Ab.at; with_reducible assumption) | (with_reducible refine cell_set ?_ ?_; rotate_left; focus (first | (simp; done) | (simp; omega))) | (with_reducible refine cell_setb ?_ ?_; rotate_left; focus (first | omega | (simp only; omega) | (simp; omega))))))
  clear sa17n sa17z sa17q0 sa17q1 sa17q2 sa17q3 sa17q4 sa17q5
  have sa18z := cell_lt sa18q0
  have sa18n := fun (o : Obj) (j : Nat) => World.cell?_alloc_lt w18 o ⟨w14.heap.size, j, none⟩ sa18z
  obtain ⟨th18q0, th18q1, th18q2, th18q3, th18q4, th18q5⟩ := cells6 hb18 (b := w16.heap.size) (v0 := .slice D16 r16.dev.s.length c16) (v1 := .slice E16 r16.dev.t.length d16) (v2 := .int .i64 r16.dev.cap) (v3 := .bool r16.dev.down) (v4 := .int .i64 r16.first) (v5 := .int .i64 r16.next) (by refine ⟨?_, ?_, ?_, ?_, ?_, ?_⟩ <;> (repeat (first | with_reducible assumption | (simp [go_sem]; done) | with_reducible apply cell_alloc | with_reducible apply cell_drew | with_reducible apply cell_drewN | (with_reducible apply Ab.at; with_reducible assumption) | (with_reducible refine cell_set ?_ ?_; rotate_left; focus (first | (simp; done) | (simp; omega))) | (with_reducible refine cell_setb ?_ ?_; rotate_left; focus (first | omega | (simp only; omega) | (simp; omega))))))
  clear th17n th17z th17q0 th17q1 th17q2 th17q3 th17q4 th17q5
  have th18z := cell_lt th18q0
  have th18n := fun (o : Obj) (j : Nat) => World.cell?_alloc_lt w18 o ⟨w16.heap.size, j, none⟩ th18z
  obtain ⟨gn18q0, gn18q1, gn18q2, gn18q3, gn18q4, gn18q5⟩ := cells6 hb18 (b := w17.heap.size) (v0 := .slice D17 r17.dev.s.length c17) (v1 := .slice E17 r17.dev.t.length d17) (v2 := .int .i64 r17.dev.cap) (v3 := .bool r17.dev.down) (v4 := .int .i64 r17.first) (v5 := .int .i64 r17.next) (by refine ⟨?_, ?_, ?_, ?_, ?_, ?_⟩ <;> (repeat (first | with_reducible assumption | (simp [go_sem]; done) | with_reducible apply cell_alloc | with_reducible apply cell_drew | with_reducible apply cell_drewN | (with_reducible apply Ab.at; with_reducible assumption) | (with_reducible refine cell_set ?_ ?_; rotate_left; focus (first | (simp; done) | (simp; omega))) | (with_reducible refine cell_setb ?_ ?_; rotate_left; focus (first | omega | (simp only; omega) | (simp; omega))))))
  have gn18z := cell_lt gn18q0
  have gn18n := fun (o : Obj) (j : Nat) => World.cell?_alloc_lt w18 o ⟨w17.heap.size, j, none⟩ gn18z
  go_wp2_with fail
  refine (wcrash_any D18 E18 c18 d18 r18.dev.s r18.dev.t r18.dev.cap r18.dev.down r18.first r18.next _ (p18.rb.zero.ab (by repeat (first | with_reducible exact Ab.refl _ | with_reducible assumption | with_reducible refine Ab.drew ?_ | with_reducible refine Ab.drewN ?_ _ | with_reducible refine Ab.alloc ?_ _ | with_reducible refine Ab.trans ?_ (by assumption) | with_reducible refine Ab.set ?_ (by first | (simp; done) | omega | (simp; omega)) _))) (s18.rb.zero.ab (by repeat (first | with_reducible exact Ab.refl _ | with_reducible assumption | with_reducible refine Ab.drew ?_ | with_reducible refine Ab.drewN ?_ _ | with_reducible refine Ab.alloc ?_ _ | with_reducible refine Ab.trans ?_ (by assumption) | with_reducible refine Ab.set ?_ (by first | (simp; done) | omega | (simp; omega)) _))) p18.le s18.le L18.1 L18.2 (some [WalEx.r5, WalEx.r6]) g18 28).mono ?_
  rintro e w19 ⟨r19, e19, D19, E19, c19, d19, h19, rfl, p19, s19, hb19⟩
  have hm19 := h19.out.trans ((congrArg (fun l => Wal.crash l 28 (some [WalEx.r5, WalEx.r6])) H18.out).trans WalEx.nm_p)
  have H19 := Lib.hid (Prod.mk.inj hm19).1
  obtain rfl : e19 = 2 := (Prod.mk.inj hm19).2
  clear h19 hm19
  clear H19 p19 s19
  have z19 := hb19.size
  (try simp at z19)
  obtain ⟨sa19q0, sa19q1, sa19q2, sa19q3, sa19q4, sa19q5⟩ := cells6 hb19 (b := w14.heap.size) (v0 := .slice D14 r14.dev.s.length c14) (v1 := .slice E14 r14.dev.t.length d14) (v2 := .int .i64 r14.dev.cap) (v3 := .bool r14.dev.down) (v4 := .int .i64 r14.first) (v5 := .int .i64 r14.next) (by refine ⟨?_, ?_, ?_, ?_, ?_, ?_⟩ <;> (repeat (first | with_reducible assumption | (simp [go_sem]; done) | with_reducible apply cell_alloc | with_reducible apply cell_drew | with_reducible apply cell_drewN | (with_reducible apply Ab.at; with_reducible assumption) | (with_reducible refine cell_set ?_ ?_; rotate_left; focus (first | (simp; done) | (simp; omega))) | (with_reducible refine cell_setb ?_ ?_; rotate_left; focus (first | omega | (simp only; omega) | (simp; omega))))))
  clear sa18n sa18z sa18q0 sa18q1 sa18q2 sa18q3 sa18q4 sa18q5
  have sa19z := cell_lt sa19q0
  have sa19n := fun (o : Obj) (j : Nat) => World.cell?_alloc_lt w19 o ⟨w14.heap.size, j, none⟩ sa19z
  obtain ⟨th19q0, th19q1, th19q2, th19q3, th19q4, th19q5⟩ := cells6 hb19 (b := w16.heap.size) (v0 := .slice D16 r16.dev.s.length c16) (v1 := .slice E16 r16.dev.t.length d16) (v2 := .int .i64 r16.dev.cap) (v3 := .bool r16.dev.down) (v4 := .int .i64 r16.first) (v5 := .int .i64 r16.next) (by refine ⟨?_, ?_, ?_, ?_, ?_, ?_⟩ <;> (repeat (first | with_reducible assumption | (simp [go_sem]; done) | with_reducible apply cell_alloc | with_reducible apply cell_drew | with_reducible apply cell_drewN | (with_reducible apply Ab.at; with_reducible assumption) | (with_reducible refine cell_set ?_ ?_; rotate_left; focus (first | (simp; done) | (simp; omega))) | (with_reducible refine cell_setb ?_ ?_; rotate_left; focus (first | omega | (simp only; omega) | (simp; omega))))))
  clear th18n th18z th18q0 th18q1 th18q2 th18q3 th18q4 th18q5
  have th19z := cell_lt th19q0
  have th19n := fun (o : Obj) (j : Nat) => World.cell?_alloc_lt w19 o ⟨w16.heap.size, j, none⟩ th19z
  obtain ⟨gn19q0, gn19q1, gn19q2, gn19q3, gn19q4, gn19q5⟩ := cells6 hb19 (b := w17.heap.size) (v0 := .slice D17 r17.dev.s.length c17) (v1 := .slice E17 r17.dev.t.length d17) (v2 := .int .i64 r17.dev.cap) (v3 := .bool r17.dev.down) (v4 := .int .i64 r17.first) (v5 := .int .i64 r17.next) (by refine ⟨?_, ?_, ?_, ?_, ?_, ?_⟩ <;> (repeat (first | with_reducible assumption | (simp [go_sem]; done) | with_reducible apply cell_alloc | with_reducible apply cell_drew | with_reducible apply cell_drewN | (with_reducible apply Ab.at; with_reducible assumption) | (with_reducible refine cell_set ?_ ?_; rotate_left; focus (first | (simp; done) | (simp; omega))) | (with_reducible refine cell_setb ?_ ?_; rotate_left; focus (first | omega | (simp only; omega) | (simp; omega))))))
  clear gn18n gn18z gn18q0 gn18q1 gn18q2 gn18q3 gn18q4 gn18q5
  have gn19z := cell_lt gn19q0
  have gn19n := fun (o : Obj) (j : Nat) => World.cell?_alloc_lt w19 o ⟨w17.heap.size, j, none⟩ gn19z
  clear H18 g18 L18 p18 s18
  go_wp2_with fail
  refine (wsynced_any D16 E16 c16 d16 r16.dev.s r16.dev.t r16.dev.cap r16.dev.down r16.first r16.next _ (p16.rb.zero.ab (by repeat (first | with_reducible exact Ab.refl _ | with_reducible assumption | with_reducible refine Ab.drew ?_ | with_reducible refine Ab.drewN ?_ _ | with_reducible refine Ab.alloc ?_ _ | with_reducible refine Ab.trans ?_ (by assumption) | with_reducible refine Ab.set ?_ (by first | (simp; done) | omega | (simp; omega)) _))) (s16.rb.zero.ab (by repeat (first | with_reducible exact Ab.refl _ | with_reducible assumption | with_reducible refine Ab.drew ?_ | with_reducible refine Ab.drewN ?_ _ | with_reducible refine Ab.alloc ?_ _ | with_reducible refine Ab.trans ?_ (by assumption) | with_reducible refine Ab.set ?_ (by first | (simp; done) | omega | (simp; omega)) _))) p16.le s16.le L16.1 L16.2 (some [WalEx.r5, WalEx.r6, WalEx.r7]) g16).mono ?_
  rintro e w20 ⟨a20, e20, h20, rfl, hb20⟩
  obtain ⟨rfl, rfl⟩ := Prod.mk.inj (h20.out.trans ((congrArg (fun l => Wal.synced l (some [WalEx.r5, WalEx.r6, WalEx.r7])) H16.out).trans WalEx.nm_q))
  clear h20
  have z20 := hb20.size
  (try simp at z20)
  obtain ⟨sa20q0, sa20q1, sa20q2, sa20q3, sa20q4, sa20q5⟩ := cells6 hb20 (b := w14.heap.size) (v0 := .slice D14 r14.dev.s.length c14) (v1 := .slice E14 r14.dev.t.length d14) (v2 := .int .i64 r14.dev.cap) (v3 := .bool r14.dev.down) (v4 := .int .i64 r14.first) (v5 := .int .i64 r14.next) (by refine ⟨?_, ?_, ?_, ?_, ?_, ?_⟩ <;> (repeat (first | with_reducible assumption | (simp [go_sem]; done) | with_reducible apply cell_alloc | with_reducible apply cell_drew | with_reducible apply cell_drewN | (with_reducible apply Ab.at; with_reducible assumption) | (with_reducible refine cell_set ?_ ?_; rotate_left; focus (first | (simp; done) | (simp; omega))) | (with_reducible refine cell_setb ?_ ?_; rotate_left; focus (first | omega | (simp only; omega) | (simp; omega))))))
  clear sa19n sa19z sa19q0 sa19q1 sa19q2 sa19q3 sa19q4 sa19q5
  have sa20z := cell_lt sa20q0
  have sa20n := fun (o : Obj) (j : Nat) => World.cell?_alloc_lt w20 o ⟨w14.heap.size, j, none⟩ sa20z
  obtain ⟨th20q0, th20q1, th20q2, th20q3, th20q4, th20q5⟩ := cells6 hb20 (b := w16.heap.size) (v0 := .slice D16 r16.dev.s.length c16) (v1 := .slice E16 r16.dev.t.length d16) (v2 := .int .i64 r16.dev.cap) (v3 := .bool r16.dev.down) (v4 := .int .i64 r16.first) (v5 := .int .i64 r16.next) (by refine ⟨?_, ?_, ?_, ?_, ?_, ?_⟩ <;> (repeat (first | with_reducible assumption | (simp [go_sem]; done) | with_reducible apply cell_alloc | with_reducible apply cell_drew | with_reducible apply cell_drewN | (with_reducible apply Ab.at; with_reducible assumption) | (with_reducible refine cell_set ?_ ?_; rotate_left; focus (first | (simp; done) | (simp; omega))) | (with_reducible refine cell_setb ?_ ?_; rotate_left; focus (first | omega | (simp only; omega) | (simp; omega))))))
  clear th19n th19z th19q0 th19q1 th19q2 th19q3 th19q4 th19q5
  have th20z := cell_lt th20q0
  have th20n := fun (o : Obj) (j : Nat) => World.cell?_alloc_lt w20 o ⟨w16.heap.size, j, none⟩ th20z
  obtain ⟨gn20q0, gn20q1, gn20q2, gn20q3, gn20q4, gn20q5⟩ := cells6 hb20 (b := w17.heap.size) (v0 := .slice D17 r17.dev.s.length c17) (v1 := .slice E17 r17.dev.t.length d17) (v2 := .int .i64 r17.dev.cap) (v3 := .bool r17.dev.down) (v4 := .int .i64 r17.first) (v5 := .int .i64 r17.next) (by refine ⟨?_, ?_, ?_, ?_, ?_, ?_⟩ <;> (repeat (first | with_reducible assumption | (simp [go_sem]; done) | with_reducible apply cell_alloc | with_reducible apply cell_drew | with_reducible apply cell_drewN | (with_reducible apply Ab.at; with_reducible assumption) | (with_reducible refine cell_set ?_ ?_; rotate_left; focus (first | (simp; done) | (simp; omega))) | (with_reducible refine cell_setb ?_ ?_; rotate_left; focus (first | omega | (simp only; omega) | (simp; omega))))))
  clear gn19n gn19z gn19q0 gn19q1 gn19q2 gn19q3 gn19q4 gn19q5
  have gn20z := cell_lt gn20q0
  have gn20n := fun (o : Obj) (j : Nat) => World.cell?_alloc_lt w20 o ⟨w17.heap.size, j, none⟩ gn20z
  clear th20n th20z th20q0 th20q1 th20q2 th20q3 th20q4 th20q5
  go_upto_region 26 with fail
  refine wp_cut (NK26 w) ?_ ?_
  rotate_left
  · intro J K' hJ hK'
    go_wp2_with fail
    refine (numbered_at r14 D14 E14 c14 d14 _ (p14.rb.zero.ab (by repeat (first | with_reducible exact Ab.refl _ | with_reducible assumption | with_reducible refine Ab.drew ?_ | with_reducible refine Ab.drewN ?_ _ | with_reducible refine Ab.alloc ?_ _ | with_reducible refine Ab.trans ?_ (by assumption) | with_reducible refine Ab.set ?_ (by first | (simp; done) | omega | (simp; omega)) _))) (s14.rb.zero.ab (by repeat (first | with_reducible exact Ab.refl _ | with_reducible assumption | with_reducible refine Ab.drew ?_ | with_reducible refine Ab.drewN ?_ _ | with_reducible refine Ab.alloc ?_ _ | with_reducible refine Ab.trans ?_ (by assumption) | with_reducible refine Ab.set ?_ (by first | (simp; done) | omega | (simp; omega)) _))) p14.le s14.le [WalEx.r5, WalEx.r6] g14 5 _ _ _ [[97], [98, 99]] rfl (Strs.blk (T := 9) (fr := (0, 0)) (by (repeat (first | exact new_plain (by first | (simp; done) | omega | (simp; omega)) | with_reducible refine old_alloc ?_ | with_reducible refine old_drew ?_ | with_reducible refine old_set ?_ (by first | (simp; done) | omega | (simp; omega)) | with_reducible refine old_ab (by assumption) ?_)))) rfl ((congrArg Wal.Log.first H14.out).trans rfl)).mono ?_
    rintro e w21 ⟨rfl, hb21⟩
    have z21 := hb21.size
    (try simp at z21)
    obtain ⟨sa21q0, sa21q1, sa21q2, sa21q3, sa21q4, sa21q5⟩ := cells6 hb21 (b := w14.heap.size) (v0 := .slice D14 r14.dev.s.length c14) (v1 := .slice E14 r14.dev.t.length d14) (v2 := .int .i64 r14.dev.cap) (v3 := .bool r14.dev.down) (v4 := .int .i64 r14.first) (v5 := .int .i64 r14.next) (by refine ⟨?_, ?_, ?_, ?_, ?_, ?_⟩ <;> (repeat (first | with_reducible assumption | (simp [go_sem]; done) | with_reducible apply cell_alloc | with_reducible apply cell_drew | with_reducible apply cell_drewN | (with_reducible apply Ab.at; with_reducible assumption) | (with_reducible refine cell_set ?_ ?_; rotate_left; focus (first | (simp; done) | (simp; omega))) | (with_reducible refine cell_setb ?_ ?_; rotate_left; focus (first | omega | (simp only; omega) | (simp; omega))))))
    clear sa20n sa20z sa20q0 sa20q1 sa20q2 sa20q3 sa20q4 sa20q5
    have sa21z := cell_lt sa21q0
    have sa21n := fun (o : Obj) (j : Nat) => World.cell?_alloc_lt w21 o ⟨w14.heap.size, j, none⟩ sa21z
    obtain ⟨gn21q0, gn21q1, gn21q2, gn21q3, gn21q4, gn21q5⟩ := cells6 hb21 (b := w17.heap.size) (v0 := .slice D17 r17.dev.s.length c17) (v1 := .slice E17 r17.dev.t.length d17) (v2 := .int .i64 r17.dev.cap) (v3 := .bool r17.dev.down) (v4 := .int .i64 r17.first) (v5 := .int .i64 r17.next) (by refine ⟨?_, ?_, ?_, ?_, ?_, ?_⟩ <;> (repeat (first | with_reducible assumption | (simp [go_sem]; done) | with_reducible apply cell_alloc | with_reducible apply cell_drew | with_reducible apply cell_drewN | (with_reducible apply Ab.at; with_reducible assumption) | (with_reducible refine cell_set ?_ ?_; rotate_left; focus (first | (simp; done) | (simp; omega))) | (with_reducible refine cell_setb ?_ ?_; rotate_left; focus (first | omega | (simp only; omega) | (simp; omega))))))
    clear gn20n gn20z gn20q0 gn20q1 gn20q2 gn20q3 gn20q4 gn20q5
    have gn21z := cell_lt gn21q0
    have gn21n := fun (o : Obj) (j : Nat) => World.cell?_alloc_lt w21 o ⟨w17.heap.size, j, none⟩ gn21z
    clear sa21n sa21z sa21q0 sa21q1 sa21q2 sa21q3 sa21q4 sa21q5
    go_wp2_with fail
    refine (numbered_at r17 D17 E17 c17 d17 _ (p17.rb.zero.ab (by repeat (first | with_reducible exact Ab.refl _ | with_reducible assumption | with_reducible refine Ab.drew ?_ | with_reducible refine Ab.drewN ?_ _ | with_reducible refine Ab.alloc ?_ _ | with_reducible refine Ab.trans ?_ (by assumption) | with_reducible refine Ab.set ?_ (by first | (simp; done) | omega | (simp; omega)) _))) (s17.rb.zero.ab (by repeat (first | with_reducible exact Ab.refl _ | with_reducible assumption | with_reducible refine Ab.drew ?_ | with_reducible refine Ab.drewN ?_ _ | with_reducible refine Ab.alloc ?_ _ | with_reducible refine Ab.trans ?_ (by assumption) | with_reducible refine Ab.set ?_ (by first | (simp; done) | omega | (simp; omega)) _))) p17.le s17.le [] g17 8 _ _ _ [] rfl Strs.nil rfl ((congrArg Wal.Log.first H17.out).trans rfl)).mono ?_
    rintro e w22 ⟨rfl, hb22⟩
    have z22 := hb22.size
    (try simp at z22)
    obtain ⟨gn22q0, gn22q1, gn22q2, gn22q3, gn22q4, gn22q5⟩ := cells6 hb22 (b := w17.heap.size) (v0 := .slice D17 r17.dev.s.length c17) (v1 := .slice E17 r17.dev.t.length d17) (v2 := .int .i64 r17.dev.cap) (v3 := .bool r17.dev.down) (v4 := .int .i64 r17.first) (v5 := .int .i64 r17.next) (by refine ⟨?_, ?_, ?_, ?_, ?_, ?_⟩ <;> (repeat (first | with_reducible assumption | (simp [go_sem]; done) | with_reducible apply cell_alloc | with_reducible apply cell_drew | with_reducible apply cell_drewN | (with_reducible apply Ab.at; with_reducible assumption) | (with_reducible refine cell_set ?_ ?_; rotate_left; focus (first | (simp; done) | (simp; omega))) | (with_reducible refine cell_setb ?_ ?_; rotate_left; focus (first | omega | (simp only; omega) | (simp; omega))))))
    clear gn21n gn21z gn21q0 gn21q1 gn21q2 gn21q3 gn21q4 gn21q5
    have gn22z := cell_lt gn22q0
    have gn22n := fun (o : Obj) (j : Nat) => World.cell?_alloc_lt w22 o ⟨w17.heap.size, j, none⟩ gn22z
    clear gn22n gn22z gn22q0 gn22q1 gn22q2 gn22q3 gn22q4 gn22q5
    go_wp2
    refine Met.intro (hJ _ _ ?_)
    exact ⟨rfl, rfl, rfl, rfl, rfl, rfl, (by repeat (first | with_reducible exact Ab.refl _ | with_reducible assumption | with_reducible refine Ab.drew ?_ | with_reducible refine Ab.drewN ?_ _ | with_reducible refine Ab.alloc ?_ _ | with_reducible refine Ab.trans ?_ (by assumption) | with_reducible refine Ab.set ?_ (by first | (simp; done) | omega | (simp; omega)) _))⟩
  rename_i KK hKK
  rintro ⟨T2, d2⟩ wz ⟨hd2, hs2, f1, f16, f31, f54, HAz⟩
  simp only at hd2 hs2 f1 f16 f31 f54
  subst hd2
  refine hKK _ _ ?_
  exact part27 w wz HAz T2 hs2 f1 f16 f31 f54
end Go.Proofs.Ytehagdpcegpbjaa
