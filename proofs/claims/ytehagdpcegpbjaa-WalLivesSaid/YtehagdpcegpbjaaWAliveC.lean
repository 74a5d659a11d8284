/- alive of layer 4's law, walked. Own work. -/
import Derived.Test.YtehagdpcegpbjaaWAliveB
import Derived.Test.YtehagdpcegpbjaaWFunF
set_option linter.unusedVariables false
set_option linter.unusedSimpArgs false
namespace Go.Proofs.Ytehagdpcegpbjaa
open Go.RowKit

theorem numbered_at (r : Wal.Log) (D E : Option Addr) (cd ce : Nat) (w : World) (hs : RB w 0 D r.dev.s) (ht : RB w 0 E r.dev.t) (hcd : r.dev.s.length ≤ cd) (hce : r.dev.t.length ≤ ce) (rs : List Frame.Rec) (hg : Wal.Good r rs) (k : Int) (K : Option Addr) (c nd : Nat) (ds : List (List UInt8)) (hnd : ds.length = nd) (hK : Strs w K ds) (hds : rs.map Frame.Rec.data = ds) (hk : r.first = k) :
    Calls Try.prog 12 #[.agg #[.slice D r.dev.s.length cd, .slice E r.dev.t.length ce, .int .i64 r.dev.cap, .bool r.dev.down, .int .i64 r.first, .int .i64 r.next], .int .i64 0, .int .i64 k, .slice K nd c] w fun e w' => e = .returned (.bool true) ∧ Ab w w' := by
  subst hk
  obtain ⟨⟨s, t, cap, dn⟩, f, n⟩ := r
  obtain rfl : dn = false := hg.isUp
  exact numbered_true D E cd ce s t cap f n w hs ht hcd hce rs hg K c nd ds hnd hK hds

set_option maxRecDepth 100000 in
set_option maxHeartbeats 6400000 in
theorem alive4_true (w : World) : Calls Try.prog 20 #[] w (RetTrue w) := by
  go_enter Try.func20, Try.ntmps20
  go_wp2_with fail
  refine (given_false _).mono ?_
  rintro e w1 ⟨r1, D1, E1, c1, d1, H1, rfl, p1, s1, hb1⟩
  have g1 : Wal.Good r1 [WalEx.r5, WalEx.r6] := by rw [H1.out]; exact WalEx.good_56
  have L1 := good_lens g1
  go_wp2_with fail
  refine (wsynced_any D1 E1 c1 d1 r1.dev.s r1.dev.t r1.dev.cap r1.dev.down r1.first r1.next _ (p1.rb.zero.ab (by repeat (first | with_reducible exact Ab.refl _ | with_reducible assumption | with_reducible refine Ab.drew ?_ | with_reducible refine Ab.drewN ?_ _ | with_reducible refine Ab.alloc ?_ _ | with_reducible refine Ab.trans ?_ (by assumption) | with_reducible refine Ab.set ?_ (by first | (simp; done) | omega | (simp; omega)) _))) (s1.rb.zero.ab (by repeat (first | with_reducible exact Ab.refl _ | with_reducible assumption | with_reducible refine Ab.drew ?_ | with_reducible refine Ab.drewN ?_ _ | with_reducible refine Ab.alloc ?_ _ | with_reducible refine Ab.trans ?_ (by assumption) | with_reducible refine Ab.set ?_ (by first | (simp; done) | omega | (simp; omega)) _))) p1.le s1.le L1.1 L1.2 (some [WalEx.r5, WalEx.r6]) g1).mono ?_
  rintro e w2 ⟨a2, e2, h2, rfl, hb2⟩
  obtain ⟨rfl, rfl⟩ := Prod.mk.inj (h2.out.trans ((congrArg (fun l => Wal.synced l (some [WalEx.r5, WalEx.r6])) H1.out).trans WalEx.synced_56))
  clear h2
  go_wp2_with fail
  refine (given_true _).mono ?_
  rintro e w3 ⟨r3, D3, E3, c3, d3, H3, rfl, p3, s3, hb3⟩
  have g3 : Wal.Good r3 [WalEx.r5, WalEx.r6, WalEx.r7] := by rw [H3.out]; exact WalEx.good_567
  have L3 := good_lens g3
  go_wp2_with fail
  refine (wcrash_any D3 E3 c3 d3 r3.dev.s r3.dev.t r3.dev.cap r3.dev.down r3.first r3.next _ (p3.rb.zero.ab (by repeat (first | with_reducible exact Ab.refl _ | with_reducible assumption | with_reducible refine Ab.drew ?_ | with_reducible refine Ab.drewN ?_ _ | with_reducible refine Ab.alloc ?_ _ | with_reducible refine Ab.trans ?_ (by assumption) | with_reducible refine Ab.set ?_ (by first | (simp; done) | omega | (simp; omega)) _))) (s3.rb.zero.ab (by repeat (first | with_reducible exact Ab.refl _ | with_reducible assumption | with_reducible refine Ab.drew ?_ | with_reducible refine Ab.drewN ?_ _ | with_reducible refine Ab.alloc ?_ _ | with_reducible refine Ab.trans ?_ (by assumption) | with_reducible refine Ab.set ?_ (by first | (simp; done) | omega | (simp; omega)) _))) p3.le s3.le L3.1 L3.2 (some [WalEx.r5, WalEx.r6, WalEx.r7]) g3 12).mono ?_
  rintro e w4 ⟨rd, e4, D4, E4, c4, d4, h4, rfl, p4, s4, hb4⟩
  have hm4 := h4.out.trans ((congrArg (fun l => Wal.crash l 12 (some [WalEx.r5, WalEx.r6, WalEx.r7])) H3.out).trans WalEx.crash12)
  have H4 := Lib.hid (Prod.mk.inj hm4).1
  obtain rfl : e4 = 0 := (Prod.mk.inj hm4).2
  have L4 : rd.s.length ≤ 1000000 ∧ rd.t.length ≤ 1000000 := by rw [H4.out]; simp [WalEx.dc_len]
  clear h4 hm4
  have B4 : Ab w4 (w4.alloc (.cells #[.slice D4 rd.s.length c4, .slice E4 rd.t.length d4, .int .i64 rd.cap, .bool rd.down] 24)) := (by repeat (first | with_reducible exact Ab.refl _ | with_reducible assumption | with_reducible refine Ab.drew ?_ | with_reducible refine Ab.drewN ?_ _ | with_reducible refine Ab.alloc ?_ _ | with_reducible refine Ab.trans ?_ (by assumption) | with_reducible refine Ab.set ?_ (by first | (simp; done) | omega | (simp; omega)) _))
  go_wp2_with fail
  refine (wopen_any D4 E4 c4 d4 rd.s rd.t rd.cap rd.down _ (p4.rb.zero.ab (by repeat (first | with_reducible exact Ab.refl _ | with_reducible assumption | with_reducible refine Ab.drew ?_ | with_reducible refine Ab.drewN ?_ _ | with_reducible refine Ab.alloc ?_ _ | with_reducible refine Ab.trans ?_ (by assumption) | with_reducible refine Ab.set ?_ (by first | (simp; done) | omega | (simp; omega)) _))) (s4.rb.zero.ab (by repeat (first | with_reducible exact Ab.refl _ | with_reducible assumption | with_reducible refine Ab.drew ?_ | with_reducible refine Ab.drewN ?_ _ | with_reducible refine Ab.alloc ?_ _ | with_reducible refine Ab.trans ?_ (by assumption) | with_reducible refine Ab.set ?_ (by first | (simp; done) | omega | (simp; omega)) _))) p4.le s4.le L4.1 L4.2 0 [WalEx.r5, WalEx.r6] 27 (by rw [H4.out]; exact WalEx.scan_dc)).mono ?_
  rintro e w5 ⟨r5, e5, D5, E5, c5, d5, h5, rfl, p5, s5, hb5⟩
  have hm5 := h5.out.trans ((congrArg (fun d => Wal.open_ d 0 [WalEx.r5, WalEx.r6] 27) H4.out).trans WalEx.open0)
  have H5 := Lib.hid (Prod.mk.inj hm5).1
  obtain rfl : e5 = 0 := (Prod.mk.inj hm5).2
  have g5 : Wal.Good r5 [WalEx.r5, WalEx.r6] := by rw [H5.out]; exact WalEx.good_r
  have L5 := good_lens g5
  clear h5 hm5
  go_wp2_with fail
  refine (wdrop_any D5 E5 c5 d5 r5.dev.s r5.dev.t r5.dev.cap r5.dev.down r5.first r5.next _ (p5.rb.zero.ab (by repeat (first | with_reducible exact Ab.refl _ | with_reducible assumption | with_reducible refine Ab.drew ?_ | with_reducible refine Ab.drewN ?_ _ | with_reducible refine Ab.alloc ?_ _ | with_reducible refine Ab.trans ?_ (by assumption) | with_reducible refine Ab.set ?_ (by first | (simp; done) | omega | (simp; omega)) _))) (s5.rb.zero.ab (by repeat (first | with_reducible exact Ab.refl _ | with_reducible assumption | with_reducible refine Ab.drew ?_ | with_reducible refine Ab.drewN ?_ _ | with_reducible refine Ab.alloc ?_ _ | with_reducible refine Ab.trans ?_ (by assumption) | with_reducible refine Ab.set ?_ (by first | (simp; done) | omega | (simp; omega)) _))) p5.le s5.le L5.1 L5.2 (some [WalEx.r5, WalEx.r6]) g5 6).mono ?_
  rintro e w6 ⟨r6, e6, D6, E6, c6, d6, h6, rfl, p6, s6, hb6⟩
  have hm6 := h6.out.trans ((congrArg (fun l => Wal.drop l 6 (some [WalEx.r5, WalEx.r6])) H5.out).trans WalEx.drop6)
  have H6 := Lib.hid (Prod.mk.inj hm6).1
  obtain rfl : e6 = 0 := (Prod.mk.inj hm6).2
  have g6 : Wal.Good r6 [WalEx.r6] := by rw [H6.out]; exact WalEx.good_d
  clear h6 hm6
  have bx4 : Ab (w4.alloc (.cells #[.slice D4 rd.s.length c4, .slice E4 rd.t.length d4, .int .i64 rd.cap, .bool rd.down] 24)) w6 := (by repeat (first | with_reducible exact Ab.refl _ | with_reducible assumption | with_reducible refine Ab.drew ?_ | with_reducible refine Ab.drewN ?_ _ | with_reducible refine Ab.alloc ?_ _ | with_reducible refine Ab.trans ?_ (by assumption) | with_reducible refine Ab.set ?_ (by first | (simp; done) | omega | (simp; omega)) _))
  have dq0 := bx4.at (p := ⟨w4.heap.size, 0, none⟩) (v := .slice D4 rd.s.length c4) (by simp [go_sem]); have dq1 := bx4.at (p := ⟨w4.heap.size, 1, none⟩) (v := .slice E4 rd.t.length d4) (by simp [go_sem]); have dq2 := bx4.at (p := ⟨w4.heap.size, 2, none⟩) (v := .int .i64 rd.cap) (by simp [go_sem]); have dq3 := bx4.at (p := ⟨w4.heap.size, 3, none⟩) (v := .bool rd.down) (by simp [go_sem])
  have zd : w4.heap.size < w6.heap.size := cell_lt dq0
  have nd := fun (o : Obj) (j : Nat) => World.cell?_alloc_lt w6 o ⟨w4.heap.size, j, none⟩ zd
  clear bx4 B4
  go_wp2_with fail
  refine (wopen_any D4 E4 c4 d4 rd.s rd.t rd.cap rd.down _ (p4.rb.zero.ab (by repeat (first | with_reducible exact Ab.refl _ | with_reducible assumption | with_reducible refine Ab.drew ?_ | with_reducible refine Ab.drewN ?_ _ | with_reducible refine Ab.alloc ?_ _ | with_reducible refine Ab.trans ?_ (by assumption) | with_reducible refine Ab.set ?_ (by first | (simp; done) | omega | (simp; omega)) _))) (s4.rb.zero.ab (by repeat (first | with_reducible exact Ab.refl _ | with_reducible assumption | with_reducible refine Ab.drew ?_ | with_reducible refine Ab.drewN ?_ _ | with_reducible refine Ab.alloc ?_ _ | with_reducible refine Ab.trans ?_ (by assumption) | with_reducible refine Ab.set ?_ (by first | (simp; done) | omega | (simp; omega)) _))) p4.le s4.le L4.1 L4.2 9 [WalEx.r5, WalEx.r6] 27 (by rw [H4.out]; exact WalEx.scan_dc)).mono ?_
  rintro e w7 ⟨r7, e7, D7, E7, c7, d7, h7, rfl, p7, s7, hb7⟩
  have hm7 := h7.out.trans ((congrArg (fun d => Wal.open_ d 9 [WalEx.r5, WalEx.r6] 27) H4.out).trans WalEx.open9)
  have H7 := Lib.hid (Prod.mk.inj hm7).1
  obtain rfl : e7 = 0 := (Prod.mk.inj hm7).2
  have g7 : Wal.Good r7 [] := by rw [H7.out]; exact WalEx.good_9
  clear h7 hm7 dq0 dq1 dq2 dq3 nd
  go_wp2_with fail
  refine (given_false _).mono ?_
  rintro e w8 ⟨r8, D8, E8, c8, d8, H8, rfl, p8, s8, hb8⟩
  have g8 : Wal.Good r8 [WalEx.r5, WalEx.r6] := by rw [H8.out]; exact WalEx.good_56
  go_wp2_with fail
  have hTmp : Ab (w5.alloc (.cells #[.slice D5 r5.dev.s.length c5, .slice E5 r5.dev.t.length d5, .int .i64 r5.dev.cap, .bool r5.dev.down, .int .i64 r5.first, .int .i64 r5.next] 26)) w8 := (by repeat (first | with_reducible exact Ab.refl _ | with_reducible assumption | with_reducible refine Ab.drew ?_ | with_reducible refine Ab.drewN ?_ _ | with_reducible refine Ab.alloc ?_ _ | with_reducible refine Ab.trans ?_ (by assumption) | with_reducible refine Ab.set ?_ (by first | (simp; done) | omega | (simp; omega)) _))
  obtain ⟨iq0, iq1, iq2, iq3, iq4, iq5⟩ := cells6 hTmp (b := w5.heap.size) (v0 := .slice D5 r5.dev.s.length c5) (v1 := .slice E5 r5.dev.t.length d5) (v2 := .int .i64 r5.dev.cap) (v3 := .bool r5.dev.down) (v4 := .int .i64 r5.first) (v5 := .int .i64 r5.next) (by first | (simp [go_sem]; done) | (refine ⟨?_, ?_, ?_, ?_, ?_, ?_⟩ <;> assumption))
  clear hTmp
  have hTmp : Ab (w6.alloc (.cells #[.slice D6 r6.dev.s.length c6, .slice E6 r6.dev.t.length d6, .int .i64 r6.dev.cap, .bool r6.dev.down, .int .i64 r6.first, .int .i64 r6.next] 26)) w8 := (by repeat (first | with_reducible exact Ab.refl _ | with_reducible assumption | with_reducible refine Ab.drew ?_ | with_reducible refine Ab.drewN ?_ _ | with_reducible refine Ab.alloc ?_ _ | with_reducible refine Ab.trans ?_ (by assumption) | with_reducible refine Ab.set ?_ (by first | (simp; done) | omega | (simp; omega)) _))
  obtain ⟨jq0, jq1, jq2, jq3, jq4, jq5⟩ := cells6 hTmp (b := w6.heap.size) (v0 := .slice D6 r6.dev.s.length c6) (v1 := .slice E6 r6.dev.t.length d6) (v2 := .int .i64 r6.dev.cap) (v3 := .bool r6.dev.down) (v4 := .int .i64 r6.first) (v5 := .int .i64 r6.next) (by first | (simp [go_sem]; done) | (refine ⟨?_, ?_, ?_, ?_, ?_, ?_⟩ <;> assumption))
  clear hTmp
  have hTmp : Ab (w7.alloc (.cells #[.slice D7 r7.dev.s.length c7, .slice E7 r7.dev.t.length d7, .int .i64 r7.dev.cap, .bool r7.dev.down, .int .i64 r7.first, .int .i64 r7.next] 26)) w8 := (by repeat (first | with_reducible exact Ab.refl _ | with_reducible assumption | with_reducible refine Ab.drew ?_ | with_reducible refine Ab.drewN ?_ _ | with_reducible refine Ab.alloc ?_ _ | with_reducible refine Ab.trans ?_ (by assumption) | with_reducible refine Ab.set ?_ (by first | (simp; done) | omega | (simp; omega)) _))
  obtain ⟨kq0, kq1, kq2, kq3, kq4, kq5⟩ := cells6 hTmp (b := w7.heap.size) (v0 := .slice D7 r7.dev.s.length c7) (v1 := .slice E7 r7.dev.t.length d7) (v2 := .int .i64 r7.dev.cap) (v3 := .bool r7.dev.down) (v4 := .int .i64 r7.first) (v5 := .int .i64 r7.next) (by first | (simp [go_sem]; done) | (refine ⟨?_, ?_, ?_, ?_, ?_, ?_⟩ <;> assumption))
  clear hTmp
  refine (numbered_at r8 D8 E8 c8 d8 _ (p8.rb.zero.ab (by repeat (first | with_reducible exact Ab.refl _ | with_reducible assumption | with_reducible refine Ab.drew ?_ | with_reducible refine Ab.drewN ?_ _ | with_reducible refine Ab.alloc ?_ _ | with_reducible refine Ab.trans ?_ (by assumption) | with_reducible refine Ab.set ?_ (by first | (simp; done) | omega | (simp; omega)) _))) (s8.rb.zero.ab (by repeat (first | with_reducible exact Ab.refl _ | with_reducible assumption | with_reducible refine Ab.drew ?_ | with_reducible refine Ab.drewN ?_ _ | with_reducible refine Ab.alloc ?_ _ | with_reducible refine Ab.trans ?_ (by assumption) | with_reducible refine Ab.set ?_ (by first | (simp; done) | omega | (simp; omega)) _))) p8.le s8.le [WalEx.r5, WalEx.r6] g8 5 _ _ _ [[97], [98, 99]] rfl (Strs.blk (T := 9) (fr := (0, 0)) (by (repeat (first | exact new_plain (by first | (simp; done) | omega | (simp; omega)) | with_reducible refine old_alloc ?_ | with_reducible refine old_drew ?_ | with_reducible refine old_set ?_ (by first | (simp; done) | omega | (simp; omega)) | with_reducible refine old_ab (by assumption) ?_)))) rfl ((congrArg Wal.Log.first H8.out).trans rfl)).mono ?_
  rintro e wa ⟨rfl, hwa⟩
  have hTmp : Ab (w5.alloc (.cells #[.slice D5 r5.dev.s.length c5, .slice E5 r5.dev.t.length d5, .int .i64 r5.dev.cap, .bool r5.dev.down, .int .i64 r5.first, .int .i64 r5.next] 26)) wa := (by repeat (first | with_reducible exact Ab.refl _ | with_reducible assumption | with_reducible refine Ab.drew ?_ | with_reducible refine Ab.drewN ?_ _ | with_reducible refine Ab.alloc ?_ _ | with_reducible refine Ab.trans ?_ (by assumption) | with_reducible refine Ab.set ?_ (by first | (simp; done) | omega | (simp; omega)) _))
  obtain ⟨iq0, iq1, iq2, iq3, iq4, iq5⟩ := cells6 hTmp (b := w5.heap.size) (v0 := .slice D5 r5.dev.s.length c5) (v1 := .slice E5 r5.dev.t.length d5) (v2 := .int .i64 r5.dev.cap) (v3 := .bool r5.dev.down) (v4 := .int .i64 r5.first) (v5 := .int .i64 r5.next) (by first | (simp [go_sem]; done) | (refine ⟨?_, ?_, ?_, ?_, ?_, ?_⟩ <;> assumption))
  clear hTmp
  have hTmp : Ab (w6.alloc (.cells #[.slice D6 r6.dev.s.length c6, .slice E6 r6.dev.t.length d6, .int .i64 r6.dev.cap, .bool r6.dev.down, .int .i64 r6.first, .int .i64 r6.next] 26)) wa := (by repeat (first | with_reducible exact Ab.refl _ | with_reducible assumption | with_reducible refine Ab.drew ?_ | with_reducible refine Ab.drewN ?_ _ | with_reducible refine Ab.alloc ?_ _ | with_reducible refine Ab.trans ?_ (by assumption) | with_reducible refine Ab.set ?_ (by first | (simp; done) | omega | (simp; omega)) _))
  obtain ⟨jq0, jq1, jq2, jq3, jq4, jq5⟩ := cells6 hTmp (b := w6.heap.size) (v0 := .slice D6 r6.dev.s.length c6) (v1 := .slice E6 r6.dev.t.length d6) (v2 := .int .i64 r6.dev.cap) (v3 := .bool r6.dev.down) (v4 := .int .i64 r6.first) (v5 := .int .i64 r6.next) (by first | (simp [go_sem]; done) | (refine ⟨?_, ?_, ?_, ?_, ?_, ?_⟩ <;> assumption))
  clear hTmp
  have hTmp : Ab (w7.alloc (.cells #[.slice D7 r7.dev.s.length c7, .slice E7 r7.dev.t.length d7, .int .i64 r7.dev.cap, .bool r7.dev.down, .int .i64 r7.first, .int .i64 r7.next] 26)) wa := (by repeat (first | with_reducible exact Ab.refl _ | with_reducible assumption | with_reducible refine Ab.drew ?_ | with_reducible refine Ab.drewN ?_ _ | with_reducible refine Ab.alloc ?_ _ | with_reducible refine Ab.trans ?_ (by assumption) | with_reducible refine Ab.set ?_ (by first | (simp; done) | omega | (simp; omega)) _))
  obtain ⟨kq0, kq1, kq2, kq3, kq4, kq5⟩ := cells6 hTmp (b := w7.heap.size) (v0 := .slice D7 r7.dev.s.length c7) (v1 := .slice E7 r7.dev.t.length d7) (v2 := .int .i64 r7.dev.cap) (v3 := .bool r7.dev.down) (v4 := .int .i64 r7.first) (v5 := .int .i64 r7.next) (by first | (simp [go_sem]; done) | (refine ⟨?_, ?_, ?_, ?_, ?_, ?_⟩ <;> assumption))
  clear hTmp
  go_wp2_with fail
  refine (numbered_at r5 D5 E5 c5 d5 _ (p5.rb.zero.ab (by repeat (first | with_reducible exact Ab.refl _ | with_reducible assumption | with_reducible refine Ab.drew ?_ | with_reducible refine Ab.drewN ?_ _ | with_reducible refine Ab.alloc ?_ _ | with_reducible refine Ab.trans ?_ (by assumption) | with_reducible refine Ab.set ?_ (by first | (simp; done) | omega | (simp; omega)) _))) (s5.rb.zero.ab (by repeat (first | with_reducible exact Ab.refl _ | with_reducible assumption | with_reducible refine Ab.drew ?_ | with_reducible refine Ab.drewN ?_ _ | with_reducible refine Ab.alloc ?_ _ | with_reducible refine Ab.trans ?_ (by assumption) | with_reducible refine Ab.set ?_ (by first | (simp; done) | omega | (simp; omega)) _))) p5.le s5.le [WalEx.r5, WalEx.r6] g5 5 _ _ _ [[97], [98, 99]] rfl (Strs.blk (T := 9) (fr := (0, 0)) (by (repeat (first | exact new_plain (by first | (simp; done) | omega | (simp; omega)) | with_reducible refine old_alloc ?_ | with_reducible refine old_drew ?_ | with_reducible refine old_set ?_ (by first | (simp; done) | omega | (simp; omega)) | with_reducible refine old_ab (by assumption) ?_)))) rfl ((congrArg Wal.Log.first H5.out).trans rfl)).mono ?_
  rintro e wb ⟨rfl, hwb⟩
  have hTmp : Ab (w6.alloc (.cells #[.slice D6 r6.dev.s.length c6, .slice E6 r6.dev.t.length d6, .int .i64 r6.dev.cap, .bool r6.dev.down, .int .i64 r6.first, .int .i64 r6.next] 26)) wb := (by repeat (first | with_reducible exact Ab.refl _ | with_reducible assumption | with_reducible refine Ab.drew ?_ | with_reducible refine Ab.drewN ?_ _ | with_reducible refine Ab.alloc ?_ _ | with_reducible refine Ab.trans ?_ (by assumption) | with_reducible refine Ab.set ?_ (by first | (simp; done) | omega | (simp; omega)) _))
  obtain ⟨jq0, jq1, jq2, jq3, jq4, jq5⟩ := cells6 hTmp (b := w6.heap.size) (v0 := .slice D6 r6.dev.s.length c6) (v1 := .slice E6 r6.dev.t.length d6) (v2 := .int .i64 r6.dev.cap) (v3 := .bool r6.dev.down) (v4 := .int .i64 r6.first) (v5 := .int .i64 r6.next) (by first | (simp [go_sem]; done) | (refine ⟨?_, ?_, ?_, ?_, ?_, ?_⟩ <;> assumption))
  clear hTmp
  have hTmp : Ab (w7.alloc (.cells #[.slice D7 r7.dev.s.length c7, .slice E7 r7.dev.t.length d7, .int .i64 r7.dev.cap, .bool r7.dev.down, .int .i64 r7.first, .int .i64 r7.next] 26)) wb := (by repeat (first | with_reducible exact Ab.refl _ | with_reducible assumption | with_reducible refine Ab.drew ?_ | with_reducible refine Ab.drewN ?_ _ | with_reducible refine Ab.alloc ?_ _ | with_reducible refine Ab.trans ?_ (by assumption) | with_reducible refine Ab.set ?_ (by first | (simp; done) | omega | (simp; omega)) _))
  obtain ⟨kq0, kq1, kq2, kq3, kq4, kq5⟩ := cells6 hTmp (b := w7.heap.size) (v0 := .slice D7 r7.dev.s.length c7) (v1 := .slice E7 r7.dev.t.length d7) (v2 := .int .i64 r7.dev.cap) (v3 := .bool r7.dev.down) (v4 := .int .i64 r7.first) (v5 := .int .i64 r7.next) (by first | (simp [go_sem]; done) | (refine ⟨?_, ?_, ?_, ?_, ?_, ?_⟩ <;> assumption))
  clear hTmp
  go_wp2_with fail
  refine (numbered_at r6 D6 E6 c6 d6 _ (p6.rb.zero.ab (by repeat (first | with_reducible exact Ab.refl _ | with_reducible assumption | with_reducible refine Ab.drew ?_ | with_reducible refine Ab.drewN ?_ _ | with_reducible refine Ab.alloc ?_ _ | with_reducible refine Ab.trans ?_ (by assumption) | with_reducible refine Ab.set ?_ (by first | (simp; done) | omega | (simp; omega)) _))) (s6.rb.zero.ab (by repeat (first | with_reducible exact Ab.refl _ | with_reducible assumption | with_reducible refine Ab.drew ?_ | with_reducible refine Ab.drewN ?_ _ | with_reducible refine Ab.alloc ?_ _ | with_reducible refine Ab.trans ?_ (by assumption) | with_reducible refine Ab.set ?_ (by first | (simp; done) | omega | (simp; omega)) _))) p6.le s6.le [WalEx.r6] g6 6 _ _ _ [[98, 99]] rfl (Strs.blk (T := 9) (fr := (0, 0)) (by (repeat (first | exact new_plain (by first | (simp; done) | omega | (simp; omega)) | with_reducible refine old_alloc ?_ | with_reducible refine old_drew ?_ | with_reducible refine old_set ?_ (by first | (simp; done) | omega | (simp; omega)) | with_reducible refine old_ab (by assumption) ?_)))) rfl ((congrArg Wal.Log.first H6.out).trans rfl)).mono ?_
  rintro e wd ⟨rfl, hwd⟩
  have hTmp : Ab (w7.alloc (.cells #[.slice D7 r7.dev.s.length c7, .slice E7 r7.dev.t.length d7, .int .i64 r7.dev.cap, .bool r7.dev.down, .int .i64 r7.first, .int .i64 r7.next] 26)) wd := (by repeat (first | with_reducible exact Ab.refl _ | with_reducible assumption | with_reducible refine Ab.drew ?_ | with_reducible refine Ab.drewN ?_ _ | with_reducible refine Ab.alloc ?_ _ | with_reducible refine Ab.trans ?_ (by assumption) | with_reducible refine Ab.set ?_ (by first | (simp; done) | omega | (simp; omega)) _))
  obtain ⟨kq0, kq1, kq2, kq3, kq4, kq5⟩ := cells6 hTmp (b := w7.heap.size) (v0 := .slice D7 r7.dev.s.length c7) (v1 := .slice E7 r7.dev.t.length d7) (v2 := .int .i64 r7.dev.cap) (v3 := .bool r7.dev.down) (v4 := .int .i64 r7.first) (v5 := .int .i64 r7.next) (by first | (simp [go_sem]; done) | (refine ⟨?_, ?_, ?_, ?_, ?_, ?_⟩ <;> assumption))
  clear hTmp
  go_wp2_with fail
  refine (numbered_at r7 D7 E7 c7 d7 _ (p7.rb.zero.ab (by repeat (first | with_reducible exact Ab.refl _ | with_reducible assumption | with_reducible refine Ab.drew ?_ | with_reducible refine Ab.drewN ?_ _ | with_reducible refine Ab.alloc ?_ _ | with_reducible refine Ab.trans ?_ (by assumption) | with_reducible refine Ab.set ?_ (by first | (simp; done) | omega | (simp; omega)) _))) (s7.rb.zero.ab (by repeat (first | with_reducible exact Ab.refl _ | with_reducible assumption | with_reducible refine Ab.drew ?_ | with_reducible refine Ab.drewN ?_ _ | with_reducible refine Ab.alloc ?_ _ | with_reducible refine Ab.trans ?_ (by assumption) | with_reducible refine Ab.set ?_ (by first | (simp; done) | omega | (simp; omega)) _))) p7.le s7.le [] g7 9 _ _ _ [] rfl Strs.nil rfl ((congrArg Wal.Log.first H7.out).trans rfl)).mono ?_
  rintro e we ⟨rfl, hwe⟩
  go_wp2
  go_ret
  exact ⟨rfl, (by repeat (first | with_reducible exact Ab.refl _ | with_reducible assumption | with_reducible refine Ab.drew ?_ | with_reducible refine Ab.drewN ?_ _ | with_reducible refine Ab.alloc ?_ _ | with_reducible refine Ab.trans ?_ (by assumption) | with_reducible refine Ab.set ?_ (by first | (simp; done) | omega | (simp; omega)) _))⟩
end Go.Proofs.Ytehagdpcegpbjaa
