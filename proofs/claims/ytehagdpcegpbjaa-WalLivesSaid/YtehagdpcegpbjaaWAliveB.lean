/- given of layer 4's law, walked. Own work. -/
import Derived.Test.YtehagdpcegpbjaaWAliveA
set_option linter.unusedVariables false
set_option linter.unusedSimpArgs false
namespace Go.Proofs.Ytehagdpcegpbjaa
open Go.RowKit

theorem good_lens {r : Wal.Log} {rs : List Frame.Rec} (h : Wal.Good r rs) : r.dev.s.length ≤ 1000000 ∧ r.dev.t.length ≤ 1000000 := by
  have := h.room
  simp only [Disk.Dev.size] at this
  omega
/-- The log r lies at P, beside the result's zero cells at b. -/
def GBox (b P : Nat) (r : Wal.Log) (D E : Option Addr) (cd ce : Nat) (wx : World) : Prop :=
  (wx.cell? ⟨P, 0, none⟩ = some (.slice D r.dev.s.length cd) ∧ wx.cell? ⟨P, 1, none⟩ = some (.slice E r.dev.t.length ce) ∧ wx.cell? ⟨P, 2, none⟩ = some (.int .i64 r.dev.cap) ∧ wx.cell? ⟨P, 3, none⟩ = some (.bool r.dev.down) ∧ wx.cell? ⟨P, 4, none⟩ = some (.int .i64 r.first) ∧ wx.cell? ⟨P, 5, none⟩ = some (.int .i64 r.next) ∧
    wx.frozen? ⟨P, 0, none⟩ = false ∧ wx.frozen? ⟨P, 1, none⟩ = false ∧ wx.frozen? ⟨P, 2, none⟩ = false ∧ wx.frozen? ⟨P, 3, none⟩ = false ∧ wx.frozen? ⟨P, 4, none⟩ = false ∧ wx.frozen? ⟨P, 5, none⟩ = false) ∧
  (wx.cell? ⟨b, 0, none⟩ = some (.slice none 0 0) ∧ wx.cell? ⟨b, 1, none⟩ = some (.slice none 0 0) ∧ wx.cell? ⟨b, 2, none⟩ = some (.int .i64 0) ∧ wx.cell? ⟨b, 3, none⟩ = some (.bool false) ∧ wx.cell? ⟨b, 4, none⟩ = some (.int .i64 0) ∧ wx.cell? ⟨b, 5, none⟩ = some (.int .i64 0) ∧
    wx.frozen? ⟨b, 0, none⟩ = false ∧ wx.frozen? ⟨b, 1, none⟩ = false ∧ wx.frozen? ⟨b, 2, none⟩ = false ∧ wx.frozen? ⟨b, 3, none⟩ = false ∧ wx.frozen? ⟨b, 4, none⟩ = false ∧ wx.frozen? ⟨b, 5, none⟩ = false) ∧ b < P ∧ P < wx.heap.size
theorem GBox.ab {b P : Nat} {r : Wal.Log} {D E : Option Addr} {cd ce : Nat} {wx wy : World} (h : GBox b P r D E cd ce wx) (hb : Ab wx wy) : GBox b P r D E cd ce wy := by
  obtain ⟨⟨q0, q1, q2, q3, q4, q5, f0, f1, f2, f3, f4, f5⟩, ⟨x0, x1, x2, x3, x4, x5, y0, y1, y2, y3, y4, y5⟩, hPw, hPl⟩ := h
  have z := hb.size
  have hbl : b < wx.heap.size := by omega
  exact ⟨⟨hb.at q0, hb.at q1, hb.at q2, hb.at q3, hb.at q4, hb.at q5, hb.fr hPl f0, hb.fr hPl f1, hb.fr hPl f2, hb.fr hPl f3, hb.fr hPl f4, hb.fr hPl f5⟩, ⟨hb.at x0, hb.at x1, hb.at x2, hb.at x3, hb.at x4, hb.at x5, hb.fr hbl y0, hb.fr hbl y1, hb.fr hbl y2, hb.fr hbl y3, hb.fr hbl y4, hb.fr hbl y5⟩, hPw, by omega⟩
set_option maxHeartbeats 1600000 in
theorem GBox.put {b P : Nat} {r r' : Wal.Log} {D E D' E' : Option Addr} {cd ce cd' ce' : Nat} {wx : World} (h : GBox b P r D E cd ce wx) :
    GBox b P r' D' E' cd' ce' ((((((wx.setCell ⟨P, 0, none⟩ (.slice D' r'.dev.s.length cd')).setCell ⟨P, 1, none⟩ (.slice E' r'.dev.t.length ce')).setCell ⟨P, 2, none⟩ (.int .i64 r'.dev.cap)).setCell ⟨P, 3, none⟩ (.bool r'.dev.down)).setCell ⟨P, 4, none⟩ (.int .i64 r'.first)).setCell ⟨P, 5, none⟩ (.int .i64 r'.next)) := by
  obtain ⟨⟨q0, q1, q2, q3, q4, q5, f0, f1, f2, f3, f4, f5⟩, ⟨x0, x1, x2, x3, x4, x5, y0, y1, y2, y3, y4, y5⟩, hPw, hPl⟩ := h
  have hne : b ≠ P := by omega
  have hne2 : P ≠ b := by omega
  refine ⟨⟨?_, ?_, ?_, ?_, ?_, ?_, ?_, ?_, ?_, ?_, ?_, ?_⟩, ⟨?_, ?_, ?_, ?_, ?_, ?_, ?_, ?_, ?_, ?_, ?_, ?_⟩, hPw, ?_⟩
  all_goals (simp [go_sem, *]; done)

set_option maxRecDepth 100000 in
set_option maxHeartbeats 6400000 in
theorem given_false (w : World) : Calls Try.prog 13 #[.bool false] w (RetLog w WalEx.l56) := by
  have kc := fun (w : World) (C : Array Value) (n c g : Nat) (hg : g = w.heap.size) => Joins.run_convert_bytes_const_at (P := Try.prog) w 22 5 C n c g hg Try.underlying22 Try.underlying5
  go_enter Try.func13, Try.ntmps13
  go_wp2_with fail
  refine (wopen_any none none 0 0 [] [] 1000 false _ RB.nil RB.nil (by simp) (by simp) (by simp) (by simp) 5 [] 0 WalEx.scan_none).mono ?_
  rintro e w1 ⟨r1, e1, D1, E1, c1, d1, h1, rfl, p1, s1, hb1⟩
  have H1 := Lib.hid (Prod.mk.inj (h1.out.trans (WalEx.open_new 1000 5 (by omega) (by omega) (by omega) (by omega)))).1
  obtain rfl : e1 = 0 := (Prod.mk.inj (h1.out.trans (WalEx.open_new 1000 5 (by omega) (by omega) (by omega) (by omega)))).2
  clear h1
  have g1 : Wal.Good r1 [] := by rw [H1.out]; exact WalEx.good_o
  have L1 := good_lens g1
  have z1 := hb1.size
  simp at z1
  have zq0 := hb1.at (p := ⟨w.heap.size, 0, none⟩) (v := .slice none 0 0) (by simp [go_sem]); have zq1 := hb1.at (p := ⟨w.heap.size, 1, none⟩) (v := .slice none 0 0) (by simp [go_sem]); have zq2 := hb1.at (p := ⟨w.heap.size, 2, none⟩) (v := .int .i64 0) (by simp [go_sem]); have zq3 := hb1.at (p := ⟨w.heap.size, 3, none⟩) (v := .bool false) (by simp [go_sem]); have zq4 := hb1.at (p := ⟨w.heap.size, 4, none⟩) (v := .int .i64 0) (by simp [go_sem]); have zq5 := hb1.at (p := ⟨w.heap.size, 5, none⟩) (v := .int .i64 0) (by simp [go_sem])
  have zr0 : w1.frozen? ⟨w.heap.size, 0, none⟩ = false := (hb1.frozen (p := ⟨w.heap.size, 0, none⟩) (by simp)).trans (by simp [go_sem]); have zr1 : w1.frozen? ⟨w.heap.size, 1, none⟩ = false := (hb1.frozen (p := ⟨w.heap.size, 1, none⟩) (by simp)).trans (by simp [go_sem]); have zr2 : w1.frozen? ⟨w.heap.size, 2, none⟩ = false := (hb1.frozen (p := ⟨w.heap.size, 2, none⟩) (by simp)).trans (by simp [go_sem]); have zr3 : w1.frozen? ⟨w.heap.size, 3, none⟩ = false := (hb1.frozen (p := ⟨w.heap.size, 3, none⟩) (by simp)).trans (by simp [go_sem]); have zr4 : w1.frozen? ⟨w.heap.size, 4, none⟩ = false := (hb1.frozen (p := ⟨w.heap.size, 4, none⟩) (by simp)).trans (by simp [go_sem]); have zr5 : w1.frozen? ⟨w.heap.size, 5, none⟩ = false := (hb1.frozen (p := ⟨w.heap.size, 5, none⟩) (by simp)).trans (by simp [go_sem])
  have G1 : GBox w.heap.size w1.heap.size r1 D1 E1 c1 d1 (w1.alloc (.cells #[.slice D1 r1.dev.s.length c1, .slice E1 r1.dev.t.length d1, .int .i64 r1.dev.cap, .bool r1.dev.down, .int .i64 r1.first, .int .i64 r1.next] 26)) :=
    ⟨⟨by simp [go_sem], by simp [go_sem], by simp [go_sem], by simp [go_sem], by simp [go_sem], by simp [go_sem], by simp [go_sem], by simp [go_sem], by simp [go_sem], by simp [go_sem], by simp [go_sem], by simp [go_sem]⟩,
      ⟨cell_alloc zq0, cell_alloc zq1, cell_alloc zq2, cell_alloc zq3, cell_alloc zq4, cell_alloc zq5, fr_alloc (by simp only; omega) zr0, fr_alloc (by simp only; omega) zr1, fr_alloc (by simp only; omega) zr2, fr_alloc (by simp only; omega) zr3, fr_alloc (by simp only; omega) zr4, fr_alloc (by simp only; omega) zr5⟩, by omega, by simp⟩
  clear zq0 zq1 zq2 zq3 zq4 zq5 zr0 zr1 zr2 zr3 zr4 zr5
  go_wp2_with fail
  refine (wappend_any D1 E1 c1 d1 r1.dev.s r1.dev.t r1.dev.cap r1.dev.down r1.first r1.next _ (p1.rb.zero.ab (by repeat (first | with_reducible exact Ab.refl _ | with_reducible assumption | with_reducible refine Ab.drew ?_ | with_reducible refine Ab.drewN ?_ _ | with_reducible refine Ab.alloc ?_ _ | with_reducible refine Ab.trans ?_ (by assumption) | with_reducible refine Ab.set ?_ (by first | (simp; done) | omega | (simp; omega)) _))) (s1.rb.zero.ab (by repeat (first | with_reducible exact Ab.refl _ | with_reducible assumption | with_reducible refine Ab.drew ?_ | with_reducible refine Ab.drewN ?_ _ | with_reducible refine Ab.alloc ?_ _ | with_reducible refine Ab.trans ?_ (by assumption) | with_reducible refine Ab.set ?_ (by first | (simp; done) | omega | (simp; omega)) _))) p1.le s1.le L1.1 L1.2 (some []) g1 _ _ [97] (RB.blk (T := 5) (fr := (1, 1 + 1)) (by (repeat (first | exact new_plain (by first | (simp; done) | omega | (simp; omega)) | with_reducible refine old_alloc ?_ | with_reducible refine old_drew ?_ | with_reducible refine old_set ?_ (by first | (simp; done) | omega | (simp; omega)) | with_reducible refine old_ab (by assumption) ?_))) (Nat.zero_le _)) (by simp) (by simp)).mono ?_
  rintro e w2 ⟨r2, n2, e2, D2, E2, c2, d2, h2, rfl, p2, s2, hb2⟩
  have hm2 := h2.out.trans ((congrArg (fun l => Wal.append l [97] (some [])) H1.out).trans WalEx.app5)
  have H2 := Lib.hid (Prod.mk.inj hm2).1
  have hm2 := (Prod.mk.inj hm2).2
  obtain ⟨rfl, rfl⟩ := Prod.mk.inj hm2
  clear h2 hm2
  have g2 : Wal.Good r2 [WalEx.r5] := by rw [H2.out]; exact WalEx.good_5
  have L2 := good_lens g2
  have G2 := G1.ab (show Ab (w1.alloc (.cells #[.slice D1 r1.dev.s.length c1, .slice E1 r1.dev.t.length d1, .int .i64 r1.dev.cap, .bool r1.dev.down, .int .i64 r1.first, .int .i64 r1.next] 26)) w2 from (by repeat (first | with_reducible exact Ab.refl _ | with_reducible assumption | with_reducible refine Ab.drew ?_ | with_reducible refine Ab.drewN ?_ _ | with_reducible refine Ab.alloc ?_ _ | with_reducible refine Ab.trans ?_ (by assumption) | with_reducible refine Ab.set ?_ (by first | (simp; done) | omega | (simp; omega)) _)))
  have G2p := G2.put (r' := r2) (D' := D2) (E' := E2) (cd' := c2) (ce' := d2)
  obtain ⟨⟨q0, q1, q2, q3, q4, q5, f0, f1, f2, f3, f4, f5⟩, ⟨x0, x1, x2, x3, x4, x5, y0, y1, y2, y3, y4, y5⟩, hPw, hPl⟩ := G2
  clear G1
  have zp2 : w1.heap.size < w2.heap.size := hPl
  go_wp2_with fail
  clear q0 q1 q2 q3 q4 q5 f0 f1 f2 f3 f4 f5 x0 x1 x2 x3 x4 x5 y0 y1 y2 y3 y4 y5 hPw hPl
  have lo2 : OR 5 (w1.heap.size + 1) w2 D2 c2 r2.dev.s := OR.mono p2 (by first | (simp; done) | omega | (simp; omega))
  have lo2' : OR 5 (w1.heap.size + 1) w2 E2 d2 r2.dev.t := OR.mono s2 (by first | (simp; done) | omega | (simp; omega))
  refine (wappend_any D2 E2 c2 d2 r2.dev.s r2.dev.t r2.dev.cap r2.dev.down r2.first r2.next _ (RB.zero (OR.rb (c := c2) (show OR 5 (w1.heap.size + 1) _ D2 c2 r2.dev.s from (by (repeat (first | with_reducible exact OR.none_ | with_reducible assumption | with_reducible refine OR.drew ?_ | with_reducible refine OR.drewN ?_ _ | with_reducible refine OR.alloc ?_ _ | (with_reducible refine OR.setNew ?_ _ ?_ _; rotate_left; focus (first | (simp; done) | omega | (simp; omega))) | with_reducible refine OR.set ?_ (by first | (simp; done) | omega | (simp; omega)) _ | (with_reducible refine OR.keep ?_ (by assumption)))))))) (RB.zero (OR.rb (c := d2) (show OR 5 (w1.heap.size + 1) _ E2 d2 r2.dev.t from (by (repeat (first | with_reducible exact OR.none_ | with_reducible assumption | with_reducible refine OR.drew ?_ | with_reducible refine OR.drewN ?_ _ | with_reducible refine OR.alloc ?_ _ | (with_reducible refine OR.setNew ?_ _ ?_ _; rotate_left; focus (first | (simp; done) | omega | (simp; omega))) | with_reducible refine OR.set ?_ (by first | (simp; done) | omega | (simp; omega)) _ | (with_reducible refine OR.keep ?_ (by assumption)))))))) p2.le s2.le L2.1 L2.2 (some [WalEx.r5]) g2 _ _ [98, 99] (RB.blk (T := 5) (fr := (2, 2 + 1)) (by (repeat (first | exact new_plain (by first | (simp; done) | omega | (simp; omega)) | with_reducible refine old_alloc ?_ | with_reducible refine old_drew ?_ | with_reducible refine old_set ?_ (by first | (simp; done) | omega | (simp; omega)) | with_reducible refine old_ab (by assumption) ?_))) (Nat.zero_le _)) (by simp) (by simp)).mono ?_
  rintro e w3 ⟨r3, n3, e3, D3, E3, c3, d3, h3, rfl, p3, s3, hb3⟩
  have hm3 := h3.out.trans ((congrArg (fun l => Wal.append l [98, 99] (some [WalEx.r5])) H2.out).trans WalEx.app6)
  have H3 := Lib.hid (Prod.mk.inj hm3).1
  have hm2 := (Prod.mk.inj hm3).2
  obtain ⟨rfl, rfl⟩ := Prod.mk.inj hm2
  clear h3 hm3
  have g3 : Wal.Good r3 [WalEx.r5, WalEx.r6] := by rw [H3.out]; exact WalEx.good_56
  have L3 := good_lens g3
  have G3 := G2p.ab (((Ab.refl _).alloc _).trans hb3)
  have hb23 : Ab w w2 := (by repeat (first | with_reducible exact Ab.refl _ | with_reducible assumption | with_reducible refine Ab.drew ?_ | with_reducible refine Ab.drewN ?_ _ | with_reducible refine Ab.alloc ?_ _ | with_reducible refine Ab.trans ?_ (by assumption) | with_reducible refine Ab.set ?_ (by first | (simp; done) | omega | (simp; omega)) _))
  have hb33 : Ab w w3 := (by repeat (first | with_reducible exact Ab.refl _ | with_reducible assumption | with_reducible refine Ab.drew ?_ | with_reducible refine Ab.drewN ?_ _ | with_reducible refine Ab.alloc ?_ _ | with_reducible refine Ab.trans ?_ (by assumption) | with_reducible refine Ab.set ?_ (by first | (simp; done) | omega | (simp; omega)) _))
  have G3p := G3.put (r' := r3) (D' := D3) (E' := E3) (cd' := c3) (ce' := d3)
  obtain ⟨⟨q0, q1, q2, q3, q4, q5, f0, f1, f2, f3, f4, f5⟩, ⟨x0, x1, x2, x3, x4, x5, y0, y1, y2, y3, y4, y5⟩, hPw, hPl⟩ := G3
  clear G2p
  have zp3 : w1.heap.size < w3.heap.size := hPl
  have lo3 : OR 5 (w1.heap.size + 1) w3 D3 c3 r3.dev.s := OR.mono p3 (by first | (simp; done) | omega | (simp; omega))
  have lo3' : OR 5 (w1.heap.size + 1) w3 E3 d3 r3.dev.t := OR.mono s3 (by first | (simp; done) | omega | (simp; omega))
  go_wp2
  refine bodyPost_ret (v := .agg #[.slice D3 r3.dev.s.length c3, .slice E3 r3.dev.t.length d3, .int .i64 r3.dev.cap, .bool r3.dev.down, .int .i64 r3.first, .int .i64 r3.next]) (by simp [results, Try.results13, go_sem, *]) rfl ?_
  exact ⟨r3, D3, E3, c3, d3, H3, rfl, OR.mono (lo := w1.heap.size + 1) (by (repeat (first | with_reducible exact OR.none_ | with_reducible assumption | with_reducible refine OR.drew ?_ | with_reducible refine OR.drewN ?_ _ | with_reducible refine OR.alloc ?_ _ | (with_reducible refine OR.setNew ?_ _ ?_ _; rotate_left; focus (first | (simp; done) | omega | (simp; omega))) | with_reducible refine OR.set ?_ (by first | (simp; done) | omega | (simp; omega)) _ | (with_reducible refine OR.keep ?_ (by assumption))))) (by first | (simp; done) | omega | (simp; omega)), OR.mono (lo := w1.heap.size + 1) (by (repeat (first | with_reducible exact OR.none_ | with_reducible assumption | with_reducible refine OR.drew ?_ | with_reducible refine OR.drewN ?_ _ | with_reducible refine OR.alloc ?_ _ | (with_reducible refine OR.setNew ?_ _ ?_ _; rotate_left; focus (first | (simp; done) | omega | (simp; omega))) | with_reducible refine OR.set ?_ (by first | (simp; done) | omega | (simp; omega)) _ | (with_reducible refine OR.keep ?_ (by assumption))))) (by first | (simp; done) | omega | (simp; omega)), (by repeat (first | with_reducible exact Ab.refl _ | with_reducible assumption | with_reducible refine Ab.drew ?_ | with_reducible refine Ab.drewN ?_ _ | with_reducible refine Ab.alloc ?_ _ | with_reducible refine Ab.trans ?_ (by assumption) | with_reducible refine Ab.set ?_ (by first | (simp; done) | omega | (simp; omega)) _))⟩

set_option maxRecDepth 100000 in
set_option maxHeartbeats 6400000 in
theorem given_true (w : World) : Calls Try.prog 13 #[.bool true] w (RetLog w WalEx.l567) := by
  have kc := fun (w : World) (C : Array Value) (n c g : Nat) (hg : g = w.heap.size) => Joins.run_convert_bytes_const_at (P := Try.prog) w 22 5 C n c g hg Try.underlying22 Try.underlying5
  go_enter Try.func13, Try.ntmps13
  go_wp2_with fail
  refine (wopen_any none none 0 0 [] [] 1000 false _ RB.nil RB.nil (by simp) (by simp) (by simp) (by simp) 5 [] 0 WalEx.scan_none).mono ?_
  rintro e w1 ⟨r1, e1, D1, E1, c1, d1, h1, rfl, p1, s1, hb1⟩
  have H1 := Lib.hid (Prod.mk.inj (h1.out.trans (WalEx.open_new 1000 5 (by omega) (by omega) (by omega) (by omega)))).1
  obtain rfl : e1 = 0 := (Prod.mk.inj (h1.out.trans (WalEx.open_new 1000 5 (by omega) (by omega) (by omega) (by omega)))).2
  clear h1
  have g1 : Wal.Good r1 [] := by rw [H1.out]; exact WalEx.good_o
  have L1 := good_lens g1
  have z1 := hb1.size
  simp at z1
  have zq0 := hb1.at (p := ⟨w.heap.size, 0, none⟩) (v := .slice none 0 0) (by simp [go_sem]); have zq1 := hb1.at (p := ⟨w.heap.size, 1, none⟩) (v := .slice none 0 0) (by simp [go_sem]); have zq2 := hb1.at (p := ⟨w.heap.size, 2, none⟩) (v := .int .i64 0) (by simp [go_sem]); have zq3 := hb1.at (p := ⟨w.heap.size, 3, none⟩) (v := .bool false) (by simp [go_sem]); have zq4 := hb1.at (p := ⟨w.heap.size, 4, none⟩) (v := .int .i64 0) (by simp [go_sem]); have zq5 := hb1.at (p := ⟨w.heap.size, 5, none⟩) (v := .int .i64 0) (by simp [go_sem])
  have zr0 : w1.frozen? ⟨w.heap.size, 0, none⟩ = false := (hb1.frozen (p := ⟨w.heap.size, 0, none⟩) (by simp)).trans (by simp [go_sem]); have zr1 : w1.frozen? ⟨w.heap.size, 1, none⟩ = false := (hb1.frozen (p := ⟨w.heap.size, 1, none⟩) (by simp)).trans (by simp [go_sem]); have zr2 : w1.frozen? ⟨w.heap.size, 2, none⟩ = false := (hb1.frozen (p := ⟨w.heap.size, 2, none⟩) (by simp)).trans (by simp [go_sem]); have zr3 : w1.frozen? ⟨w.heap.size, 3, none⟩ = false := (hb1.frozen (p := ⟨w.heap.size, 3, none⟩) (by simp)).trans (by simp [go_sem]); have zr4 : w1.frozen? ⟨w.heap.size, 4, none⟩ = false := (hb1.frozen (p := ⟨w.heap.size, 4, none⟩) (by simp)).trans (by simp [go_sem]); have zr5 : w1.frozen? ⟨w.heap.size, 5, none⟩ = false := (hb1.frozen (p := ⟨w.heap.size, 5, none⟩) (by simp)).trans (by simp [go_sem])
  have G1 : GBox w.heap.size w1.heap.size r1 D1 E1 c1 d1 (w1.alloc (.cells #[.slice D1 r1.dev.s.length c1, .slice E1 r1.dev.t.length d1, .int .i64 r1.dev.cap, .bool r1.dev.down, .int .i64 r1.first, .int .i64 r1.next] 26)) :=
    ⟨⟨by simp [go_sem], by simp [go_sem], by simp [go_sem], by simp [go_sem], by simp [go_sem], by simp [go_sem], by simp [go_sem], by simp [go_sem], by simp [go_sem], by simp [go_sem], by simp [go_sem], by simp [go_sem]⟩,
      ⟨cell_alloc zq0, cell_alloc zq1, cell_alloc zq2, cell_alloc zq3, cell_alloc zq4, cell_alloc zq5, fr_alloc (by simp only; omega) zr0, fr_alloc (by simp only; omega) zr1, fr_alloc (by simp only; omega) zr2, fr_alloc (by simp only; omega) zr3, fr_alloc (by simp only; omega) zr4, fr_alloc (by simp only; omega) zr5⟩, by omega, by simp⟩
  clear zq0 zq1 zq2 zq3 zq4 zq5 zr0 zr1 zr2 zr3 zr4 zr5
  go_wp2_with fail
  refine (wappend_any D1 E1 c1 d1 r1.dev.s r1.dev.t r1.dev.cap r1.dev.down r1.first r1.next _ (p1.rb.zero.ab (by repeat (first | with_reducible exact Ab.refl _ | with_reducible assumption | with_reducible refine Ab.drew ?_ | with_reducible refine Ab.drewN ?_ _ | with_reducible refine Ab.alloc ?_ _ | with_reducible refine Ab.trans ?_ (by assumption) | with_reducible refine Ab.set ?_ (by first | (simp; done) | omega | (simp; omega)) _))) (s1.rb.zero.ab (by repeat (first | with_reducible exact Ab.refl _ | with_reducible assumption | with_reducible refine Ab.drew ?_ | with_reducible refine Ab.drewN ?_ _ | with_reducible refine Ab.alloc ?_ _ | with_reducible refine Ab.trans ?_ (by assumption) | with_reducible refine Ab.set ?_ (by first | (simp; done) | omega | (simp; omega)) _))) p1.le s1.le L1.1 L1.2 (some []) g1 _ _ [97] (RB.blk (T := 5) (fr := (1, 1 + 1)) (by (repeat (first | exact new_plain (by first | (simp; done) | omega | (simp; omega)) | with_reducible refine old_alloc ?_ | with_reducible refine old_drew ?_ | with_reducible refine old_set ?_ (by first | (simp; done) | omega | (simp; omega)) | with_reducible refine old_ab (by assumption) ?_))) (Nat.zero_le _)) (by simp) (by simp)).mono ?_
  rintro e w2 ⟨r2, n2, e2, D2, E2, c2, d2, h2, rfl, p2, s2, hb2⟩
  have hm2 := h2.out.trans ((congrArg (fun l => Wal.append l [97] (some [])) H1.out).trans WalEx.app5)
  have H2 := Lib.hid (Prod.mk.inj hm2).1
  have hm2 := (Prod.mk.inj hm2).2
  obtain ⟨rfl, rfl⟩ := Prod.mk.inj hm2
  clear h2 hm2
  have g2 : Wal.Good r2 [WalEx.r5] := by rw [H2.out]; exact WalEx.good_5
  have L2 := good_lens g2
  have G2 := G1.ab (show Ab (w1.alloc (.cells #[.slice D1 r1.dev.s.length c1, .slice E1 r1.dev.t.length d1, .int .i64 r1.dev.cap, .bool r1.dev.down, .int .i64 r1.first, .int .i64 r1.next] 26)) w2 from (by repeat (first | with_reducible exact Ab.refl _ | with_reducible assumption | with_reducible refine Ab.drew ?_ | with_reducible refine Ab.drewN ?_ _ | with_reducible refine Ab.alloc ?_ _ | with_reducible refine Ab.trans ?_ (by assumption) | with_reducible refine Ab.set ?_ (by first | (simp; done) | omega | (simp; omega)) _)))
  have G2p := G2.put (r' := r2) (D' := D2) (E' := E2) (cd' := c2) (ce' := d2)
  obtain ⟨⟨q0, q1, q2, q3, q4, q5, f0, f1, f2, f3, f4, f5⟩, ⟨x0, x1, x2, x3, x4, x5, y0, y1, y2, y3, y4, y5⟩, hPw, hPl⟩ := G2
  clear G1
  have zp2 : w1.heap.size < w2.heap.size := hPl
  go_wp2_with fail
  clear q0 q1 q2 q3 q4 q5 f0 f1 f2 f3 f4 f5 x0 x1 x2 x3 x4 x5 y0 y1 y2 y3 y4 y5 hPw hPl
  have lo2 : OR 5 (w1.heap.size + 1) w2 D2 c2 r2.dev.s := OR.mono p2 (by first | (simp; done) | omega | (simp; omega))
  have lo2' : OR 5 (w1.heap.size + 1) w2 E2 d2 r2.dev.t := OR.mono s2 (by first | (simp; done) | omega | (simp; omega))
  refine (wappend_any D2 E2 c2 d2 r2.dev.s r2.dev.t r2.dev.cap r2.dev.down r2.first r2.next _ (RB.zero (OR.rb (c := c2) (show OR 5 (w1.heap.size + 1) _ D2 c2 r2.dev.s from (by (repeat (first | with_reducible exact OR.none_ | with_reducible assumption | with_reducible refine OR.drew ?_ | with_reducible refine OR.drewN ?_ _ | with_reducible refine OR.alloc ?_ _ | (with_reducible refine OR.setNew ?_ _ ?_ _; rotate_left; focus (first | (simp; done) | omega | (simp; omega))) | with_reducible refine OR.set ?_ (by first | (simp; done) | omega | (simp; omega)) _ | (with_reducible refine OR.keep ?_ (by assumption)))))))) (RB.zero (OR.rb (c := d2) (show OR 5 (w1.heap.size + 1) _ E2 d2 r2.dev.t from (by (repeat (first | with_reducible exact OR.none_ | with_reducible assumption | with_reducible refine OR.drew ?_ | with_reducible refine OR.drewN ?_ _ | with_reducible refine OR.alloc ?_ _ | (with_reducible refine OR.setNew ?_ _ ?_ _; rotate_left; focus (first | (simp; done) | omega | (simp; omega))) | with_reducible refine OR.set ?_ (by first | (simp; done) | omega | (simp; omega)) _ | (with_reducible refine OR.keep ?_ (by assumption)))))))) p2.le s2.le L2.1 L2.2 (some [WalEx.r5]) g2 _ _ [98, 99] (RB.blk (T := 5) (fr := (2, 2 + 1)) (by (repeat (first | exact new_plain (by first | (simp; done) | omega | (simp; omega)) | with_reducible refine old_alloc ?_ | with_reducible refine old_drew ?_ | with_reducible refine old_set ?_ (by first | (simp; done) | omega | (simp; omega)) | with_reducible refine old_ab (by assumption) ?_))) (Nat.zero_le _)) (by simp) (by simp)).mono ?_
  rintro e w3 ⟨r3, n3, e3, D3, E3, c3, d3, h3, rfl, p3, s3, hb3⟩
  have hm3 := h3.out.trans ((congrArg (fun l => Wal.append l [98, 99] (some [WalEx.r5])) H2.out).trans WalEx.app6)
  have H3 := Lib.hid (Prod.mk.inj hm3).1
  have hm2 := (Prod.mk.inj hm3).2
  obtain ⟨rfl, rfl⟩ := Prod.mk.inj hm2
  clear h3 hm3
  have g3 : Wal.Good r3 [WalEx.r5, WalEx.r6] := by rw [H3.out]; exact WalEx.good_56
  have L3 := good_lens g3
  have G3 := G2p.ab (((Ab.refl _).alloc _).trans hb3)
  have hb23 : Ab w w2 := (by repeat (first | with_reducible exact Ab.refl _ | with_reducible assumption | with_reducible refine Ab.drew ?_ | with_reducible refine Ab.drewN ?_ _ | with_reducible refine Ab.alloc ?_ _ | with_reducible refine Ab.trans ?_ (by assumption) | with_reducible refine Ab.set ?_ (by first | (simp; done) | omega | (simp; omega)) _))
  have hb33 : Ab w w3 := (by repeat (first | with_reducible exact Ab.refl _ | with_reducible assumption | with_reducible refine Ab.drew ?_ | with_reducible refine Ab.drewN ?_ _ | with_reducible refine Ab.alloc ?_ _ | with_reducible refine Ab.trans ?_ (by assumption) | with_reducible refine Ab.set ?_ (by first | (simp; done) | omega | (simp; omega)) _))
  have G3p := G3.put (r' := r3) (D' := D3) (E' := E3) (cd' := c3) (ce' := d3)
  obtain ⟨⟨q0, q1, q2, q3, q4, q5, f0, f1, f2, f3, f4, f5⟩, ⟨x0, x1, x2, x3, x4, x5, y0, y1, y2, y3, y4, y5⟩, hPw, hPl⟩ := G3
  clear G2p
  have zp3 : w1.heap.size < w3.heap.size := hPl
  have lo3 : OR 5 (w1.heap.size + 1) w3 D3 c3 r3.dev.s := OR.mono p3 (by first | (simp; done) | omega | (simp; omega))
  have lo3' : OR 5 (w1.heap.size + 1) w3 E3 d3 r3.dev.t := OR.mono s3 (by first | (simp; done) | omega | (simp; omega))
  go_wp2_with fail
  clear q0 q1 q2 q3 q4 q5 f0 f1 f2 f3 f4 f5 x0 x1 x2 x3 x4 x5 y0 y1 y2 y3 y4 y5 hPw hPl
  refine (wsync_any D3 E3 c3 d3 r3.dev.s r3.dev.t r3.dev.cap r3.dev.down r3.first r3.next _ (RB.zero (OR.rb (c := c3) (show OR 5 (w1.heap.size + 1) _ D3 c3 r3.dev.s from (by (repeat (first | with_reducible exact OR.none_ | with_reducible assumption | with_reducible refine OR.drew ?_ | with_reducible refine OR.drewN ?_ _ | with_reducible refine OR.alloc ?_ _ | (with_reducible refine OR.setNew ?_ _ ?_ _; rotate_left; focus (first | (simp; done) | omega | (simp; omega))) | with_reducible refine OR.set ?_ (by first | (simp; done) | omega | (simp; omega)) _ | (with_reducible refine OR.keep ?_ (by assumption)))))))) (RB.zero (OR.rb (c := d3) (show OR 5 (w1.heap.size + 1) _ E3 d3 r3.dev.t from (by (repeat (first | with_reducible exact OR.none_ | with_reducible assumption | with_reducible refine OR.drew ?_ | with_reducible refine OR.drewN ?_ _ | with_reducible refine OR.alloc ?_ _ | (with_reducible refine OR.setNew ?_ _ ?_ _; rotate_left; focus (first | (simp; done) | omega | (simp; omega))) | with_reducible refine OR.set ?_ (by first | (simp; done) | omega | (simp; omega)) _ | (with_reducible refine OR.keep ?_ (by assumption)))))))) p3.le s3.le L3.1 L3.2 (some [WalEx.r5, WalEx.r6]) g3).mono ?_
  rintro e w4 ⟨r4, e4, D4, E4, c4, d4, h4, rfl, p4, s4, hb4⟩
  have hm4 := h4.out.trans ((congrArg (fun l => Wal.sync l (some [WalEx.r5, WalEx.r6])) H3.out).trans (show Wal.sync WalEx.l56 (some [WalEx.r5, WalEx.r6]) = (WalEx.s56, 0) from rfl))
  have H4 := Lib.hid (Prod.mk.inj hm4).1
  obtain rfl : e4 = 0 := (Prod.mk.inj hm4).2
  clear h4 hm4
  have g4 : Wal.Good r4 [WalEx.r5, WalEx.r6] := by rw [H4.out]; exact WalEx.good_s
  have L4 := good_lens g4
  have G4 := G3p.ab hb4
  have G4p := G4.put (r' := r4) (D' := D4) (E' := E4) (cd' := c4) (ce' := d4)
  obtain ⟨⟨q0, q1, q2, q3, q4, q5, f0, f1, f2, f3, f4, f5⟩, ⟨x0, x1, x2, x3, x4, x5, y0, y1, y2, y3, y4, y5⟩, hPw, hPl⟩ := G4
  clear G3p
  have zp4 : w1.heap.size < w4.heap.size := hPl
  have hb44 : Ab w w4 := (by repeat (first | with_reducible exact Ab.refl _ | with_reducible assumption | with_reducible refine Ab.drew ?_ | with_reducible refine Ab.drewN ?_ _ | with_reducible refine Ab.alloc ?_ _ | with_reducible refine Ab.trans ?_ (by assumption) | with_reducible refine Ab.set ?_ (by first | (simp; done) | omega | (simp; omega)) _))
  have lo4 : OR 5 (w1.heap.size + 1) w4 D4 c4 r4.dev.s := OR.mono p4 (by first | (simp; done) | omega | (simp; omega))
  have lo4' : OR 5 (w1.heap.size + 1) w4 E4 d4 r4.dev.t := OR.mono s4 (by first | (simp; done) | omega | (simp; omega))
  go_wp2_with fail
  clear q0 q1 q2 q3 q4 q5 f0 f1 f2 f3 f4 f5 x0 x1 x2 x3 x4 x5 y0 y1 y2 y3 y4 y5 hPw hPl
  refine (wappend_any D4 E4 c4 d4 r4.dev.s r4.dev.t r4.dev.cap r4.dev.down r4.first r4.next _ (RB.zero (OR.rb (c := c4) (show OR 5 (w1.heap.size + 1) _ D4 c4 r4.dev.s from (by (repeat (first | with_reducible exact OR.none_ | with_reducible assumption | with_reducible refine OR.drew ?_ | with_reducible refine OR.drewN ?_ _ | with_reducible refine OR.alloc ?_ _ | (with_reducible refine OR.setNew ?_ _ ?_ _; rotate_left; focus (first | (simp; done) | omega | (simp; omega))) | with_reducible refine OR.set ?_ (by first | (simp; done) | omega | (simp; omega)) _ | (with_reducible refine OR.keep ?_ (by assumption)))))))) (RB.zero (OR.rb (c := d4) (show OR 5 (w1.heap.size + 1) _ E4 d4 r4.dev.t from (by (repeat (first | with_reducible exact OR.none_ | with_reducible assumption | with_reducible refine OR.drew ?_ | with_reducible refine OR.drewN ?_ _ | with_reducible refine OR.alloc ?_ _ | (with_reducible refine OR.setNew ?_ _ ?_ _; rotate_left; focus (first | (simp; done) | omega | (simp; omega))) | with_reducible refine OR.set ?_ (by first | (simp; done) | omega | (simp; omega)) _ | (with_reducible refine OR.keep ?_ (by assumption)))))))) p4.le s4.le L4.1 L4.2 (some [WalEx.r5, WalEx.r6]) g4 _ _ [100] (RB.blk (T := 5) (fr := (1, 1 + 1)) (by (repeat (first | exact new_plain (by first | (simp; done) | omega | (simp; omega)) | with_reducible refine old_alloc ?_ | with_reducible refine old_drew ?_ | with_reducible refine old_set ?_ (by first | (simp; done) | omega | (simp; omega)) | with_reducible refine old_ab (by assumption) ?_))) (Nat.zero_le _)) (by simp) (by simp)).mono ?_
  rintro e w5 ⟨r5, n5, e5, D5, E5, c5, d5, h5, rfl, p5, s5, hb5⟩
  have hm5 := h5.out.trans ((congrArg (fun l => Wal.append l [100] (some [WalEx.r5, WalEx.r6])) H4.out).trans WalEx.app7)
  have H5 := Lib.hid (Prod.mk.inj hm5).1
  have hm2 := (Prod.mk.inj hm5).2
  obtain ⟨rfl, rfl⟩ := Prod.mk.inj hm2
  clear h5 hm5
  have G5 := G4p.ab (((Ab.refl _).alloc _).trans hb5)
  obtain ⟨⟨q0, q1, q2, q3, q4, q5, f0, f1, f2, f3, f4, f5⟩, ⟨x0, x1, x2, x3, x4, x5, y0, y1, y2, y3, y4, y5⟩, hPw, hPl⟩ := G5
  clear G4p
  have zp5 : w1.heap.size < w5.heap.size := hPl
  have hb55 : Ab w w5 := (by repeat (first | with_reducible exact Ab.refl _ | with_reducible assumption | with_reducible refine Ab.drew ?_ | with_reducible refine Ab.drewN ?_ _ | with_reducible refine Ab.alloc ?_ _ | with_reducible refine Ab.trans ?_ (by assumption) | with_reducible refine Ab.set ?_ (by first | (simp; done) | omega | (simp; omega)) _))
  have lo5 : OR 5 (w1.heap.size + 1) w5 D5 c5 r5.dev.s := OR.mono p5 (by first | (simp; done) | omega | (simp; omega))
  have lo5' : OR 5 (w1.heap.size + 1) w5 E5 d5 r5.dev.t := OR.mono s5 (by first | (simp; done) | omega | (simp; omega))
  go_wp2
  refine bodyPost_ret (v := .agg #[.slice D5 r5.dev.s.length c5, .slice E5 r5.dev.t.length d5, .int .i64 r5.dev.cap, .bool r5.dev.down, .int .i64 r5.first, .int .i64 r5.next]) (by simp [results, Try.results13, go_sem, *]) rfl ?_
  exact ⟨r5, D5, E5, c5, d5, H5, rfl, OR.mono (lo := w1.heap.size + 1) (by (repeat (first | with_reducible exact OR.none_ | with_reducible assumption | with_reducible refine OR.drew ?_ | with_reducible refine OR.drewN ?_ _ | with_reducible refine OR.alloc ?_ _ | (with_reducible refine OR.setNew ?_ _ ?_ _; rotate_left; focus (first | (simp; done) | omega | (simp; omega))) | with_reducible refine OR.set ?_ (by first | (simp; done) | omega | (simp; omega)) _ | (with_reducible refine OR.keep ?_ (by assumption))))) (by first | (simp; done) | omega | (simp; omega)), OR.mono (lo := w1.heap.size + 1) (by (repeat (first | with_reducible exact OR.none_ | with_reducible assumption | with_reducible refine OR.drew ?_ | with_reducible refine OR.drewN ?_ _ | with_reducible refine OR.alloc ?_ _ | (with_reducible refine OR.setNew ?_ _ ?_ _; rotate_left; focus (first | (simp; done) | omega | (simp; omega))) | with_reducible refine OR.set ?_ (by first | (simp; done) | omega | (simp; omega)) _ | (with_reducible refine OR.keep ?_ (by assumption))))) (by first | (simp; done) | omega | (simp; omega)), (by repeat (first | with_reducible exact Ab.refl _ | with_reducible assumption | with_reducible refine Ab.drew ?_ | with_reducible refine Ab.drewN ?_ _ | with_reducible refine Ab.alloc ?_ _ | with_reducible refine Ab.trans ?_ (by assumption) | with_reducible refine Ab.set ?_ (by first | (simp; done) | omega | (simp; omega)) _))⟩
end Go.Proofs.Ytehagdpcegpbjaa
