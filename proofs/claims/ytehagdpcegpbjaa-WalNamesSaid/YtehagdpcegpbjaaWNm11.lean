/- WalNames: regions 11 to 14. Written by genwnames.py. Own work. -/
import Derived.Test.YtehagdpcegpbjaaWNm15
set_option linter.unusedVariables false
set_option linter.unusedSimpArgs false
namespace Go.Proofs.Ytehagdpcegpbjaa
open Go.RowKit

/-- Behind region 14. -/
def NK14 (w : World) (act : Act) (wx : World) : Prop :=
  act.defers = [] ∧ act.tmps.size = 359 ∧ act.tmps.getD 1 undef = .pointer (some ⟨w.heap.size, 0, none⟩) ∧ act.tmps.getD 16 undef = .bool true ∧ act.tmps.getD 31 undef = .bool true ∧ Ab (w.alloc (.cells #[.slice none 0 0, .slice none 0 0, .int .i64 1000, .bool false] 24)) wx
noncomputable def tail11 : Code := ((Try.f3.body.bind (tailR 11)).getD .skip)
set_option maxRecDepth 1000000 in
set_option maxHeartbeats 9600000 in
theorem part11 (w w0 : World) (HA0 : Ab (w.alloc (.cells #[.slice none 0 0, .slice none 0 0, .int .i64 1000, .bool false] 24)) w0) (T : Array Value) (hsT : T.size = 359) (f1 : T.getD 1 undef = .pointer (some ⟨w.heap.size, 0, none⟩)) (f16 : T.getD 16 undef = .bool true) (f19 : T.getD 19 undef = .int .i64 4) (f22 : T.getD 22 undef = .int .i64 18) :
    Code.wp Try.prog tail11 (bodyPost Try.prog Try.f3 (fun e w' => e = .returned (.bool true) ∧ Ab w w')) ⟨T, []⟩ w0 := by
  have kc := fun (w : World) (C : Array Value) (n c g : Nat) (hg : g = w.heap.size) => Joins.run_convert_bytes_const_at (P := Try.prog) w 22 5 C n c g hg Try.underlying22 Try.underlying5
  obtain ⟨g, hg, hT⟩ := opq_lit 359 T hsT
  rw [lit_359] at hT
  have e1 := (hg 1).trans f1
  have e16 := (hg 16).trans f16
  have e19 := (hg 19).trans f19
  have e22 := (hg 22).trans f22
  clear hg hsT f1 f16 f19 f22
  subst hT
  rw [e1, e16, e19, e22]
  clear e1 e16 e19 e22
  conv => arg 2; whnf
  have z0 := HA0.size
  simp at z0
  go_wp2_with fail
  refine (wopen_any none none 0 0 [] [] (13) false _ RB.nil RB.nil (by simp) (by simp) (by simp) (by simp) (0) [] 0 WalEx.scan_none).mono ?_
  rintro e w1 ⟨r1, e1, D1, E1, c1, d1, h1, rfl, p1, s1, hb1⟩
  have H1 := Lib.hid (Prod.mk.inj (h1.out.trans WalEx.nm_i)).1
  obtain rfl : e1 = 0 := (Prod.mk.inj (h1.out.trans WalEx.nm_i)).2
  clear h1
  have g1 : Wal.Good r1 [] := by rw [H1.out]; exact WalEx.good_sm
  have L1 := good_lens g1
  have z1 := hb1.size
  (try simp at z1)
  go_wp2_with fail
  refine (wappend_any D1 E1 c1 d1 r1.dev.s r1.dev.t r1.dev.cap r1.dev.down r1.first r1.next _ (p1.rb.zero.ab (by repeat (first | with_reducible exact Ab.refl _ | with_reducible assumption | with_reducible refine Ab.drew ?_ | with_reducible refine Ab.drewN ?_ _ | with_reducible refine Ab.alloc ?_ _ | with_reducible refine Ab.trans ?_ (by assumption) | with_reducible refine Ab.set ?_ (by first | (simp; done) | omega | (simp; omega)) _))) (s1.rb.zero.ab (by repeat (first | with_reducible exact Ab.refl _ | with_reducible assumption | with_reducible refine Ab.drew ?_ | with_reducible refine Ab.drewN ?_ _ | with_reducible refine Ab.alloc ?_ _ | with_reducible refine Ab.trans ?_ (by assumption) | with_reducible refine Ab.set ?_ (by first | (simp; done) | omega | (simp; omega)) _))) p1.le s1.le L1.1 L1.2 (some []) g1 _ _ [120] (RB.blk (T := 5) (fr := (1, 1 + 1)) (by (repeat (first | exact new_plain (by first | (simp; done) | omega | (simp; omega)) | with_reducible refine old_alloc ?_ | with_reducible refine old_drew ?_ | with_reducible refine old_set ?_ (by first | (simp; done) | omega | (simp; omega)) | with_reducible refine old_ab (by assumption) ?_))) (Nat.zero_le _)) (by simp) (by simp)).mono ?_
  rintro e w2 ⟨r2, n2, e2, D2, E2, c2, d2, h2, rfl, p2, s2, hb2⟩
  have hm2 := h2.out.trans ((congrArg (fun l => Wal.append l [120] (some [])) H1.out).trans WalEx.nm_j)
  have H2 := Lib.hid (Prod.mk.inj hm2).1
  have hn2 := (Prod.mk.inj hm2).2
  obtain ⟨rfl, rfl⟩ := Prod.mk.inj hn2
  clear h2 hm2
  have g2 : Wal.Good r2 [WalEx.rx] := by rw [H2.out]; exact WalEx.good_fl
  have L2 := good_lens g2
  have z2 := hb2.size
  (try simp at z2)
  obtain ⟨sm2q0, sm2q1, sm2q2, sm2q3, sm2q4, sm2q5⟩ := cells6 hb2 (b := w1.heap.size) (v0 := .slice D1 r1.dev.s.length c1) (v1 := .slice E1 r1.dev.t.length d1) (v2 := .int .i64 r1.dev.cap) (v3 := .bool r1.dev.down) (v4 := .int .i64 r1.first) (v5 := .int .i64 r1.next) (by refine ⟨?_, ?_, ?_, ?_, ?_, ?_⟩ <;> (repeat (first | with_reducible assumption | (simp [go_sem]; done) | with_reducible apply cell_alloc | with_reducible apply cell_drew | with_reducible apply cell_drewN | (with_reducible apply Ab.at; with_reducible assumption) | (with_reducible refine cell_set ?_ ?_; rotate_left; focus (first | (simp; done) | (simp; omega))) | (with_reducible refine cell_setb ?_ ?_; rotate_left; focus (first | omega | (simp only; omega) | (simp; omega))))))
  have sm2z := cell_lt sm2q0
  have sm2n := fun (o : Obj) (j : Nat) => World.cell?_alloc_lt w2 o ⟨w1.heap.size, j, none⟩ sm2z
  clear sm2n sm2z sm2q0 sm2q1 sm2q2 sm2q3 sm2q4 sm2q5
  go_wp2_with fail
  refine (wappend_any D2 E2 c2 d2 r2.dev.s r2.dev.t r2.dev.cap r2.dev.down r2.first r2.next _ (p2.rb.zero.ab (by repeat (first | with_reducible exact Ab.refl _ | with_reducible assumption | with_reducible refine Ab.drew ?_ | with_reducible refine Ab.drewN ?_ _ | with_reducible refine Ab.alloc ?_ _ | with_reducible refine Ab.trans ?_ (by assumption) | with_reducible refine Ab.set ?_ (by first | (simp; done) | omega | (simp; omega)) _))) (s2.rb.zero.ab (by repeat (first | with_reducible exact Ab.refl _ | with_reducible assumption | with_reducible refine Ab.drew ?_ | with_reducible refine Ab.drewN ?_ _ | with_reducible refine Ab.alloc ?_ _ | with_reducible refine Ab.trans ?_ (by assumption) | with_reducible refine Ab.set ?_ (by first | (simp; done) | omega | (simp; omega)) _))) p2.le s2.le L2.1 L2.2 (some [WalEx.rx]) g2 none 0 [] RB.nil (by simp) (by simp)).mono ?_
  rintro e w3 ⟨r3, n3, e3, D3, E3, c3, d3, h3, rfl, p3, s3, hb3⟩
  have hm3 := h3.out.trans ((congrArg (fun l => Wal.append l [] (some [WalEx.rx])) H2.out).trans WalEx.nm_k)
  have H3 := Lib.hid (Prod.mk.inj hm3).1
  have hn3 := (Prod.mk.inj hm3).2
  obtain ⟨rfl, rfl⟩ := Prod.mk.inj hn3
  clear h3 hm3
  clear H3 p3 s3
  have z3 := hb3.size
  (try simp at z3)
  obtain ⟨fl3q0, fl3q1, fl3q2, fl3q3, fl3q4, fl3q5⟩ := cells6 hb3 (b := w2.heap.size) (v0 := .slice D2 r2.dev.s.length c2) (v1 := .slice E2 r2.dev.t.length d2) (v2 := .int .i64 r2.dev.cap) (v3 := .bool r2.dev.down) (v4 := .int .i64 r2.first) (v5 := .int .i64 r2.next) (by refine ⟨?_, ?_, ?_, ?_, ?_, ?_⟩ <;> (repeat (first | with_reducible assumption | (simp [go_sem]; done) | with_reducible apply cell_alloc | with_reducible apply cell_drew | with_reducible apply cell_drewN | (with_reducible apply Ab.at; with_reducible assumption) | (with_reducible refine cell_set ?_ ?_; rotate_left; focus (first | (simp; done) | (simp; omega))) | (with_reducible refine cell_setb ?_ ?_; rotate_left; focus (first | omega | (simp only; omega) | (simp; omega))))))
  have fl3z := cell_lt fl3q0
  have fl3n := fun (o : Obj) (j : Nat) => World.cell?_alloc_lt w3 o ⟨w2.heap.size, j, none⟩ fl3z
  go_upto_region 14 with fail
  refine wp_cut (NK14 w) ?_ ?_
  rotate_left
  · intro J K' hJ hK'
    go_wp2_with fail
    refine (numbered_at r2 D2 E2 c2 d2 _ (p2.rb.zero.ab (by repeat (first | with_reducible exact Ab.refl _ | with_reducible assumption | with_reducible refine Ab.drew ?_ | with_reducible refine Ab.drewN ?_ _ | with_reducible refine Ab.alloc ?_ _ | with_reducible refine Ab.trans ?_ (by assumption) | with_reducible refine Ab.set ?_ (by first | (simp; done) | omega | (simp; omega)) _))) (s2.rb.zero.ab (by repeat (first | with_reducible exact Ab.refl _ | with_reducible assumption | with_reducible refine Ab.drew ?_ | with_reducible refine Ab.drewN ?_ _ | with_reducible refine Ab.alloc ?_ _ | with_reducible refine Ab.trans ?_ (by assumption) | with_reducible refine Ab.set ?_ (by first | (simp; done) | omega | (simp; omega)) _))) p2.le s2.le [WalEx.rx] g2 0 _ _ _ [[120]] rfl (Strs.blk (T := 9) (fr := (0, 0)) (by (repeat (first | exact new_plain (by first | (simp; done) | omega | (simp; omega)) | with_reducible refine old_alloc ?_ | with_reducible refine old_drew ?_ | with_reducible refine old_set ?_ (by first | (simp; done) | omega | (simp; omega)) | with_reducible refine old_ab (by assumption) ?_)))) rfl ((congrArg Wal.Log.first H2.out).trans rfl)).mono ?_
    rintro e w4 ⟨rfl, hb4⟩
    have z4 := hb4.size
    (try simp at z4)
    obtain ⟨fl4q0, fl4q1, fl4q2, fl4q3, fl4q4, fl4q5⟩ := cells6 hb4 (b := w2.heap.size) (v0 := .slice D2 r2.dev.s.length c2) (v1 := .slice E2 r2.dev.t.length d2) (v2 := .int .i64 r2.dev.cap) (v3 := .bool r2.dev.down) (v4 := .int .i64 r2.first) (v5 := .int .i64 r2.next) (by refine ⟨?_, ?_, ?_, ?_, ?_, ?_⟩ <;> (repeat (first | with_reducible assumption | (simp [go_sem]; done) | with_reducible apply cell_alloc | with_reducible apply cell_drew | with_reducible apply cell_drewN | (with_reducible apply Ab.at; with_reducible assumption) | (with_reducible refine cell_set ?_ ?_; rotate_left; focus (first | (simp; done) | (simp; omega))) | (with_reducible refine cell_setb ?_ ?_; rotate_left; focus (first | omega | (simp only; omega) | (simp; omega))))))
    clear fl3n fl3z fl3q0 fl3q1 fl3q2 fl3q3 fl3q4 fl3q5
    have fl4z := cell_lt fl4q0
    have fl4n := fun (o : Obj) (j : Nat) => World.cell?_alloc_lt w4 o ⟨w2.heap.size, j, none⟩ fl4z
    clear fl4n fl4z fl4q0 fl4q1 fl4q2 fl4q3 fl4q4 fl4q5
    go_wp2
    refine Met.intro (hJ _ _ ?_)
    exact ⟨rfl, rfl, rfl, rfl, rfl, (by repeat (first | with_reducible exact Ab.refl _ | with_reducible assumption | with_reducible refine Ab.drew ?_ | with_reducible refine Ab.drewN ?_ _ | with_reducible refine Ab.alloc ?_ _ | with_reducible refine Ab.trans ?_ (by assumption) | with_reducible refine Ab.set ?_ (by first | (simp; done) | omega | (simp; omega)) _))⟩
  rename_i KK hKK
  rintro ⟨T2, d2⟩ wz ⟨hd2, hs2, f1, f16, f31, HAz⟩
  simp only at hd2 hs2 f1 f16 f31
  subst hd2
  refine hKK _ _ ?_
  exact part15 w wz HAz T2 hs2 f1 f16 f31
end Go.Proofs.Ytehagdpcegpbjaa
