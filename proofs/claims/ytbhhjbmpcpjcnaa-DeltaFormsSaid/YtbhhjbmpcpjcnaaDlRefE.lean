/- The reference's Encode of deltas, walked. Own work. -/
import Derived.Test.YtbhhjbmpcpjcnaaDlEnc
import Derived.Test.YtbhhjbmpcpjcnaaCvAlive
import Derived.Test.YtbhhjbmpcpjcnaaCvRefS
set_option linter.unusedVariables false
set_option linter.unusedSimpArgs false
namespace Go.Proofs.Ytbhhjbmpcpjcnaa
open Go.RowKit
open Codec (V)

set_option maxRecDepth 100000 in
theorem dtext_any (A : Option Addr) (l : List UInt8) (c : Nat) (w : World) (hb : RB w 0 A l) (hc : l.length ≤ c) (ll : l.length ≤ 1000000) :
    Calls Try.prog 43 #[.slice A l.length c] w fun e w' => ∃ (A' : Option Addr) (c' : Nat), e = .returned (vmB A' l c').val ∧ VL 1 w' (fun g => w.heap.size ≤ g) (vmB A' l c') ∧ Ab w w' := by
  go_enter Try.func43, Try.ntmps43
  have Y0 : VB (w.alloc (.cells VM.zero.cells.toArray 58)) w.heap.size VM.zero.cells := VB.box (xs := VM.zero.cells.toArray) (T := 58) (by (repeat (first | exact new_plain wnA | with_reducible refine old_alloc ?_ | with_reducible refine old_drew ?_ | with_reducible refine old_set ?_ wnA | with_reducible refine old_ab (by assumption) ?_)))
  have Y1 := Y0.ab (show Ab _ ((w.alloc (.cells VM.zero.cells.toArray 58)).alloc (.cells #[] 5)) from abA)
  go_wp2_with (first
    | ((at_builtin
        refine listLit rfl _ _ rfl rfl rfl (m := l) rfl (by (repeat (first | exact new_plain wnA | with_reducible refine old_alloc ?_ | with_reducible refine old_drew ?_ | with_reducible refine old_set ?_ wnA | with_reducible refine old_ab (by assumption) ?_))) (RB.ab hb (show Ab w _ from abA)) hc (by omega) ?_
        intro A1 d1 w1 L1 e1 b1 o1
        have oA := o1 (w.heap.size + 1) (by simp) (by simp)
        have ab1 : Ab w w1 := Ab.trans (by exact abA) b1
        have YA := Y1.ab b1
        clear o1))
    | (refine list_stV (o := ⟨none, _, _, _, _, _⟩) (us := [.int .u8 2, .int .i64 0, .slice A1 L1.length d1, .slice none 0 0]) _ infoV rfl _ _ rfl rfl rfl YA rfl rfl rfl ?_; intro w9 h9))
  refine bodyPost_ret (res_V1 _ infoV Try.underlying58 rfl Try.results43 _ rfl h9.v rfl) rfl ?_
  have hl1 : L1 = l := e1.out
  subst hl1
  refine ⟨A1, d1, rfl, vl_B ?_ oA.le (by omega), h9.ab w ab1 (Nat.le_refl _)⟩
  exact RS.mono' (fun g hg => by omega) ((oA.rb.rs (S := fun g => w.heap.size + 1 ≤ g) (fun g h => h)).keep (w' := w9) fun g hg hl => h9.blk g (by omega))
theorem OwnVs.list3 {d lo c : Nat} {w : World} {A : Option Addr} {ys : List VM} (h : OwnVs d lo w A c ys) (hl : ys.length ≤ 9223372036854775807) : VL (d + 1) w (fun _ => True) (vmL A (ys.map VM.v) c) := OwnVs.list h hl
set_option maxRecDepth 100000 in
set_option maxHeartbeats 8000000 in
theorem rdencode_any (A : Option Addr) (c : Nat) (xs : List PM) (w : World) (h : Pts w A c xs) (hbl : ∀ x ∈ xs, x.b.length ≤ 1000000) :
    Calls Try.prog 24 #[.slice A xs.length c] w (RetEd w (xs.map PM.d)) := by
  have TV := fun w' (k : Ab w w') => rvalid_any A c xs w' (h.ab k)
  by_cases hv : Dl.valid (xs.map PM.d) = 0
  · have hf := Lib.hid (Dl.valid_zero.1 hv).2
    have hl2 : xs.length ≤ 200 := by have := (Dl.valid_zero.1 hv).1; simpa using this
    have HE : Hid (Dl.encode (xs.map PM.d) = Codec.encode (Obj.L ((xs.map PM.d).map Dl.pv))) := by unfold Hid Dl.encode; rw [if_pos hv]; rfl
    have HF := Lib.hid (Dl.fits_dv hv)
    have HVS := Lib.hid (fun k (hk : k < xs.length) => dl_pvs xs k hk)
    have HVL : Hid (((xs.map PM.d).map Dl.pv).length = xs.length) := by unfold Hid; simp
    have H := Lib.hid h
    have HB := Lib.hid hbl
    rw [hv] at TV
    unfold RetEd
    unfold Dl.dv at HF
    clear hv h hbl
    generalize (xs.map PM.d).map Dl.pv = vs at *
    generalize Dl.encode _ = enc at *
    go_enter Try.func24, Try.ntmps24
    go_wp2_with fail
    refine (TV _ abA).mono ?_
    rintro e w1 ⟨rfl, hb1⟩
    have b1 : Ab w w1 := Ab.trans abA hb1
    clear hb1 TV
    go_wp2_with fail
    go_loopw [4, 5] (fun s4 i w' => ∃ (k : Nat) (B : Option Addr) (cb_ : Nat) (ys : List VM), k ≤ xs.length ∧ s4 = .slice B ys.length cb_ ∧ i = .int .i64 k ∧ ys.length = k ∧ Ab w w' ∧ OwnVs 2 w.heap.size w' B cb_ ys ∧ Hid (ys.map VM.v = vs.take k)) (fun _ i _ => xs.length - (intOf i).toNat)
    case atStart => exact ⟨0, none, 0, [], Nat.zero_le _, rfl, rfl, rfl, b1, OwnVs.nil, Lib.hid rfl⟩
    case round =>
      obtain ⟨k, B, cb_, ys, hk, rfl, rfl, hyl, b5, O5, v5⟩ := hrel
      have hyl' : k = ys.length := hyl.symm
      subst hyl'
      clear hyl
      rename World => w5
      by_cases hlt : ys.length < xs.length
      · have hT : (ys.length : Int) < xs.length := by omega
        obtain ⟨g, o, rfl, hR, hp⟩ := pts_at H.out hlt
        have hR5 := (show w5.rangeAt g (o + ys.length * 3) xs[ys.length].cells from fun j u hu => b5.at (hR j u hu))
        have hm := List.getElem_mem hlt
        have HS := Lib.hid (HVS.out ys.length hlt)
        have hbx := HB.out _ hm
        have hfx := hf.out xs[ys.length].d (List.mem_map.2 ⟨_, hm, rfl⟩)
        have hxl : xs[ys.length].cells.length = 3 := rfl
        have HC := fun w' => rcopies_any xs[ys.length] w'
        have HPV : Hid (Dl.pv xs[ys.length].d = if Dl.copies xs[ys.length].d then Obj.L [Obj.N xs[ys.length].p, Obj.N xs[ys.length].n] else Obj.B xs[ys.length].b) := by
          unfold Hid Dl.pv
          unfold Dl.fine at hfx
          by_cases hi : Dl.inserts xs[ys.length].d = true
          · have : Dl.copies xs[ys.length].d = false := by
              rw [Bool.eq_false_iff]; intro hc; rw [Dl.copies_iff] at hc; rw [Dl.inserts_iff] at hi; omega
            rw [if_pos hi, this]; rfl
          · rw [if_neg hi]
            rw [if_pos (by simpa [hi] using hfx)]; rfl
        clear hm hfx
        have zB : ∀ g', B.map (·.block) = some g' → w.heap.size ≤ g' ∧ g' < w5.heap.size := fun g' e => ⟨O5.low e, O5.lt e⟩
        generalize hxx : xs[ys.length] = x at *
        clear hxx
        generalize Dl.copies x.d = q at *
        have hp0 := Lib.hid hp.p0
        have hp1 := Lib.hid hp.p1
        have hn0 := Lib.hid hp.n0
        have hn1 := Lib.hid hp.n1
        have z5 := b5.size
        go_wp2_with (refine list_ldP (o := ⟨some 20, _, _, _, _, _⟩) (o + ys.length * 3) x hR5 (by kernel_rfl) _ rfl rfl ?_)
        refine (HC _).mono ?_
        rintro e w6 ⟨rfl, hb6⟩
        have b6 := b5.trans hb6
        have O6 := O5.ab hb6
        have s6 := hb6.size
        clear HC hb6 O5 hR5
        cases q with
        | true =>
          go_upto_region 8 with fail
          refine wp_region_held_drew (by kernel_rfl) (S := fun w' => w'.rangeAt g (o + ys.length * 3) x.cells) ?_ (fun hHeld => ?_)
          · exact fun j u hu => (show Ab w _ from b6.trans abA).at (hR j u hu)
          (refine rtA 0 ?_ ?_
           (try simp only [Act.put, stA, st0, st1]))
          (refine rtA 1 ?_ ?_
           (try simp only [Act.put, stA, st0, st1]))
          (refine rtA 2 ?_ ?_
           (try simp only [Act.put, stA, st0, st1]))
          (refine rtA 3 ?_ ?_
           (try simp only [Act.put, stA, st0, st1]))
          (refine rtA 4 ?_ ?_
           (try simp only [Act.put, stA, st0, st1]))
          (refine rtA 5 (.int .i64 x.p) ?_ (hy := by intro w hSw; have z0 : w.cell? ⟨g, o + ys.length * 3, none⟩ = some (.int .i64 x.p) := hSw 0 (.int .i64 x.p) rfl; go_simp; (try with_reducible rfl)); (try simp only [Act.put, stA, st0, st1]))
          (refine rtA 7 ?_ ?_
           (try simp only [Act.put, stA, st0, st1]))
          (refine rtA 8 ?_ ?_
           (try simp only [Act.put, stA, st0, st1]))
          (refine rtA 9 ?_ ?_
           (try simp only [Act.put, stA, st0, st1]))
          (refine rtA 10 ?_ ?_
           (try simp only [Act.put, stA, st0, st1]))
          (refine rtA 11 (.int .i64 x.n) ?_ (hy := by intro w hSw; have z0 : w.cell? ⟨g, o + ys.length * 3 + 1, none⟩ = some (.int .i64 x.n) := hSw 1 (.int .i64 x.n) rfl; go_simp; (try with_reducible rfl)); (try simp only [Act.put, stA, st0, st1]))
          refine r1A 6 (fun K hK => ?_)
          (go_simp
           (refine (number_any x.p _).mono ?_; rintro e w7 ⟨he, hb7⟩; have he' : e = .returned (.agg #[.int .u8 1, .int .i64 x.p, .slice none 0 0, .slice none 0 0]) := he; subst he'; clear he)
           (try go_wp2_with fail)
           (refine hK.out _ _ ?_ (fun hHeld => ?_)
            · (try dsimp only); exact fun j u hu => (b6.trans (Ab.trans abA hb7)).at (hR j u hu)
            clear hK K
            (try simp only [Act.put, stA, st0, st1])))
          have b7 : Ab w6 w7 := Ab.trans (by exact abA) hb7
          clear hb7
          refine r1A 12 (fun K hK => ?_)
          (go_simp
           (refine (number_any x.n _).mono ?_; rintro e w8 ⟨he, hb8⟩; have he' : e = .returned (.agg #[.int .u8 1, .int .i64 x.n, .slice none 0 0, .slice none 0 0]) := he; subst he'; clear he)
           (try go_wp2_with fail)
           (refine hK.out _ _ ?_ (fun hHeld => ?_)
            · (try dsimp only); exact fun j u hu => ((b6.trans b7).trans hb8).at (hR j u hu)
            clear hK K
            (try simp only [Act.put, stA, st0, st1])))
          have b8 : Ab w6 w8 := b7.trans hb8
          have s8 := b8.size
          clear hb8 b7
          have b8a : Ab w8 (w8.alloc (.cells #[.int .u8 1, .int .i64 x.p, .slice none 0 0, .slice none 0 0, .int .u8 1, .int .i64 x.n, .slice none 0 0, .slice none 0 0] 58)) := abA
          refine r1A 13 (fun K hK => ?_)
          (go_simp
           (refine hK.out _ _ ?_ (fun hHeld => ?_)
            · (try dsimp only); exact (show (w8.alloc (.cells #[.int .u8 1, .int .i64 x.p, .slice none 0 0, .slice none 0 0, .int .u8 1, .int .i64 x.n, .slice none 0 0, .slice none 0 0] 58)).rangeAt g (o + ys.length * 3) x.cells from fun j u hu => ((b6.trans b8).trans b8a).at (hR j u hu))
            clear hK K
            (try simp only [Act.put, stA, st0, st1])))
          have G8 : VB (w8.alloc (.cells #[.int .u8 1, .int .i64 x.p, .slice none 0 0, .slice none 0 0, .int .u8 1, .int .i64 x.n, .slice none 0 0, .slice none 0 0] 58)) w8.heap.size (vcells [vmN x.p, vmN x.n]) := VB.box (xs := #[.int .u8 1, .int .i64 x.p, .slice none 0 0, .slice none 0 0, .int .u8 1, .int .i64 x.n, .slice none 0 0, .slice none 0 0]) (T := 58) (by (repeat (first | exact new_plain wnA | with_reducible refine old_alloc ?_ | with_reducible refine old_drew ?_ | with_reducible refine old_set ?_ wnA | with_reducible refine old_ab (by assumption) ?_)))
          refine r1A 14 (fun K hK => ?_)
          (go_simp
           (refine (list_any (some ⟨w8.heap.size, 0, none⟩) 2 2 (w8.alloc (.cells #[.int .u8 1, .int .i64 x.p, .slice none 0 0, .slice none 0 0, .int .u8 1, .int .i64 x.n, .slice none 0 0, .slice none 0 0] 58))).mono ?_; rintro e w9 ⟨rfl, hb9⟩)
           (try go_wp2_with fail)
           (refine hK.out _ _ ?_ (fun hHeld => ?_)
            · (try dsimp only); exact fun j u hu => (((b6.trans b8).trans b8a).trans hb9).at (hR j u hu)
            clear hK K
            (try simp only [Act.put, stA, st0, st1])))
          have G9 := G8.ab hb9
          have b9 : Ab w6 w9 := b8.trans (b8a.trans hb9)
          have s9 : w8.heap.size < w9.heap.size := by have := hb9.size; simp at this; omega
          clear G8 hb9 b8 b8a
          have b10 : Ab w9 (w9.alloc (.cells #[.int .u8 3, .int .i64 0, .slice none 0 0, .slice (some ⟨w8.heap.size, 0, none⟩) 2 2] 58)) := abA
          refine r1A 15 (fun K hK => ?_)
          (go_simp
           (refine hK.out _ _ ?_ (fun hHeld => ?_)
            · (try dsimp only); exact (show (w9.alloc (.cells #[.int .u8 3, .int .i64 0, .slice none 0 0, .slice (some ⟨w8.heap.size, 0, none⟩) 2 2] 58)).rangeAt g (o + ys.length * 3) x.cells from fun j u hu => ((b6.trans b9).trans b10).at (hR j u hu))
            clear hK K
            (try simp only [Act.put, stA, st0, st1])))
          have XV : VL 2 (w9.alloc (.cells #[.int .u8 3, .int .i64 0, .slice none 0 0, .slice (some ⟨w8.heap.size, 0, none⟩) 2 2] 58)) (fun g => w.heap.size ≤ g ∧ B.map (·.block) ≠ some g) (vmL (some ⟨w8.heap.size, 0, none⟩) [Obj.N x.p, Obj.N x.n] 2) := by
            refine vl_list (d := 1) [vmN x.p, vmN x.n] (G9.ab b10) ⟨by omega, fun e => by have := (zB _ e).2; omega⟩ (fun y hy => ?_) (Nat.le_refl _) (by simp)
            rcases List.mem_cons.1 hy with rfl | hy
            · exact vl_N hp0.out hp1.out
            · obtain rfl : y = vmN x.n := by simpa using hy
              exact vl_N hn0.out hn1.out
          have hnew : (w9.alloc (.cells #[.int .u8 3, .int .i64 0, .slice none 0 0, .slice (some ⟨w8.heap.size, 0, none⟩) 2 2] 58)).heap[w9.heap.size]? = some (.cells #[.int .u8 3, .int .i64 0, .slice none 0 0, .slice (some ⟨w8.heap.size, 0, none⟩) 2 2] 58 (0, 0)) := by (repeat (first | exact new_plain wnA | with_reducible refine old_alloc ?_ | with_reducible refine old_drew ?_ | with_reducible refine old_set ?_ wnA | with_reducible refine old_ab (by assumption) ?_))
          have zsz : w.heap.size ≤ (w9.alloc (.cells #[.int .u8 3, .int .i64 0, .slice none 0 0, .slice (some ⟨w8.heap.size, 0, none⟩) 2 2] 58)).heap.size := by simp; omega
          refine r1A 16 (fun K hK => ?_)
          (try simp only [Act.put, List.getElem_toArray, List.getElem_cons_succ, List.getElem_cons_zero, stA, st0, st1])
          refine if_go (by rfl) ?_
          refine wp_appVs (x := vmL (some ⟨w8.heap.size, 0, none⟩) [Obj.N x.p, Obj.N x.n] 2) _ _ rfl rfl rfl ((O6.ab b9).ab b10) zsz hnew XV (by omega) ?_
          intro g' c' w13 zs ez O13 hg13 hk13
          have b13 : Ab w w13 := grown_ab ((b6.trans b9).trans b10) hg13 (fun g e => by have := zB g e; omega)
          have v13 : Hid (zs.map VM.v = vs.take (ys.length + 1)) := by
            unfold Hid
            rw [ez.out, List.map_append, v5.out, HS.out, HPV.out]
            rfl
          have l13 : zs.length = ys.length + 1 := by rw [ez.out]; simp
          (refine hK.out _ _ ?_ (fun hHeld => ?_)
           · (try dsimp only); exact fun j u hu => b13.at (hR j u hu)
           clear hK K
           (try simp only [Act.put, stA, st0, st1]))
          clear XV hnew hg13 b10 ez hk13 G9 O6 b9
          refine r1A 17 (fun K hK => ?_)
          (go_simp
           (refine hK.out _ _ ?_ (fun hHeld => ?_)
            · (try dsimp only); exact (show w13.rangeAt g (o + ys.length * 3) x.cells from fun j u hu => b13.at (hR j u hu))
            clear hK K
            (try simp only [Act.put, stA, st0, st1])))
          refine wpAnyH_done (by kernel_rfl) ?_ _
          go_wp2
          go_roundw
          case rel => exact ⟨ys.length + 1, some ⟨g', 0, none⟩, c', zs, by omega, by rw [l13], by go_num, l13, b13, O13, v13⟩
          case measure => simp [intOf] <;> omega
        | false =>
          have c2 : w6.cell? ⟨g, o + ys.length * 3 + 2, none⟩ = some (.slice x.A x.b.length x.c) := b6.at (hR 2 _ rfl)
          go_wp2_with fail
          refine (dtext_any x.A x.b x.c _ (hp.b.ab b6) hp.c hbx).mono ?_
          rintro e w7 ⟨tA, tc, he, hT7, hb7⟩
          have he' : e = .returned (.agg #[.int .u8 2, .int .i64 0, .slice tA x.b.length tc, .slice none 0 0]) := he
          subst he'
          clear he
          have O7 := O6.ab hb7
          have b7 := b6.trans hb7
          have s7 := hb7.size
          have s7' := b7.size
          have XV : ∀ w', Ab w7 w' → VL 2 w' (fun g => w.heap.size ≤ g ∧ B.map (·.block) ≠ some g) (vmB tA x.b tc) := fun w' k => VL.le ((VL.mono (fun g' hg' => ⟨by omega, fun e => by have := (zB _ e).2; omega⟩) hT7).ab k) (by omega)
          have HB7 := Lib.hid b7
          clear O6 hb7 c2 hT7 b5 b6 b7 b1
          go_wp2_with (first
            | (at_builtin
               refine listAppVs (x := ⟨2, 0, tA, x.b, tc, none, [], 0⟩) rfl _ _ rfl rfl rfl (O7.ab (w' := _) abA) (by simp; omega) (by (repeat (first | exact new_plain wnA | with_reducible refine old_alloc ?_ | with_reducible refine old_drew ?_ | with_reducible refine old_set ?_ wnA | with_reducible refine old_ab (by assumption) ?_))) (XV _ abA) (by omega) ?_
               intro g' c' w13 zs ez O13 hg13 hk13))
          have b13 : Ab w w13 := grown_ab (HB7.out.trans abA) hg13 (fun g e => by have := zB g e; omega)
          have v13 : Hid (zs.map VM.v = vs.take (ys.length + 1)) := by
            unfold Hid
            rw [ez.out, List.map_append, v5.out, HS.out, HPV.out]
            rfl
          have l13 : zs.length = ys.length + 1 := by rw [ez.out]; simp
          go_roundw
          case rel => exact ⟨ys.length + 1, some ⟨g', 0, none⟩, c', zs, by omega, by rw [l13], by go_num, l13, b13, O13, v13⟩
          case measure => simp [intOf] <;> omega
      · have hke : ys.length = xs.length := by omega
        have hT : ¬ ((ys.length : Nat) : Int) < (xs.length : Int) := by omega
        have hvs : ys.map VM.v = vs := by rw [v5.out, List.take_of_length_le (by rw [HVL.out]; omega)]
        have HW := Lib.hid (fun w' (k : Ab w5 w') => (O5.ab k).list (by omega))
        have hw5 : VM.cells (vmL B vs cb_) = [.int .u8 3, .int .i64 0, .slice none 0 0, .slice B ys.length cb_] := by
          show [Value.int .u8 3, .int .i64 0, .slice none 0 0, .slice B vs.length cb_] = _
          rw [← hvs, List.length_map]
        have HCE := fun w' (k : Ab w5 w') => rencode_any 3 (fun _ => True) (vmL B vs cb_) w' (by have := HW.out w' k; rw [hvs] at this; exact this) HF.out
        unfold VM.val at HCE
        rw [hw5] at HCE
        have z5 := b5.size
        clear hke hvs O5 hw5 HF HW
        go_wp2_with fail
        refine (list_any B ys.length cb_ _).mono ?_
        rintro e w6 ⟨rfl, hb6⟩
        have b6 : Ab w5 w6 := Ab.trans (by exact abA) hb6
        go_wp2_with fail
        refine (HCE _ b6).mono ?_
        rintro e w7 ⟨A6, c6, L6, er, rfl, hL6, o6, hb7⟩
        go_wp2
        go_ret2
        have := b6.size
        exact ⟨A6, c6, L6, er, rfl, Lib.hid (by rw [HE.out]; exact hL6.out), o6.mono (by omega), b5.trans (b6.trans hb7)⟩
  · have HE : Hid (Dl.encode (xs.map PM.d) = ([], Dl.valid (xs.map PM.d))) := by unfold Hid Dl.encode; rw [if_neg hv]
    have hc' : (Dl.valid (xs.map PM.d) != 0) = true := by rw [bne_iff_ne]; exact hv
    have hn' := h.n'
    unfold RetEd
    clear hv h
    generalize Dl.valid (xs.map PM.d) = q at *
    generalize Dl.encode _ = enc at *
    go_enter Try.func24, Try.ntmps24
    go_wp2_with fail
    refine (TV _ abA).mono ?_
    rintro e w1 ⟨rfl, hb1⟩
    have b1 : Ab w w1 := Ab.trans abA hb1
    go_wp2_with fail
    refine (TV _ b1).mono ?_
    rintro e w2 ⟨rfl, hb2⟩
    have b2 : Ab w w2 := b1.trans hb2
    go_wp2
    go_ret2
    exact ⟨none, 0, [], q, rfl, HE, OR.none_, b2⟩
end Go.Proofs.Ytbhhjbmpcpjcnaa
