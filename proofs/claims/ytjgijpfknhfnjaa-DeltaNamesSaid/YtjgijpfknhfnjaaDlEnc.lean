/- The bytes of a delta, walked. Own work. -/
import Derived.Test.YtjgijpfknhfnjaaDlVal
set_option linter.unusedVariables false
set_option linter.unusedSimpArgs false
namespace Go.Proofs.Ytjgijpfknhfnjaa
open Go.RowKit
open Codec (V)

/-- What Encode returns. -/
def RetEd (w : World) (l : List Dl.Part) (e : Ending) (w' : World) : Prop := ∃ (A : Option Addr) (c : Nat) (L : List UInt8) (er : Int), e = .returned (.tuple #[.slice A L.length c, .int .i64 er]) ∧ Hid (Dl.encode l = (L, er)) ∧ OR 5 w.heap.size w' A c L ∧ Ab w w'
/-- Encode's variables behind some parts. -/
structure Ve (w : World) (lo eb : Nat) (vs : List V) (A : Option Addr) (c : Nat) (ys : List VM) (w' : World) : Prop where
  ab : Ab w w'
  zz : lo ≤ w'.heap.size
  v : Hid (ys.map VM.v = vs)
  o : OwnVp 2 lo (fun g => g < w.heap.size) w' A c ys
  e : VB w' eb [.int .u8 3, .int .i64 0, .slice none 0 0, .slice A ys.length c]
theorem Ve.keep {w w1 w2 : World} {lo eb : Nat} {vs : List V} {A : Option Addr} {c : Nat} {ys : List VM} (h : Ve w lo eb vs A c ys w1) (k : Ab w1 w2) : Ve w lo eb vs A c ys w2 :=
  ⟨h.ab.trans k, Nat.le_trans h.zz k.size, h.v, h.o.ab k, h.e.ab k⟩
theorem dl_pvs (xs : List PM) (k : Nat) (h : k < xs.length) : ((xs.map PM.d).map Dl.pv).take (k + 1) = ((xs.map PM.d).map Dl.pv).take k ++ [Dl.pv xs[k].d] := by
  rw [List.take_add_one]
  congr 1
  simp [List.getElem?_eq_getElem h]
set_option maxRecDepth 100000 in
set_option maxHeartbeats 4000000 in
theorem dencode_any (A : Option Addr) (c : Nat) (xs : List PM) (w : World) (h : Pts w A c xs) :
    Calls Try.prog 10 #[.slice A xs.length c] w (RetEd w (xs.map PM.d)) := by
  have TV := fun w' (k : Ab w w') => checkparts_any A c xs w' (h.ab k)
  by_cases hv : Dl.valid (xs.map PM.d) = 0
  · have hf := Lib.hid (Dl.valid_zero.1 hv).2
    have hl2 : xs.length ≤ 200 := by have := (Dl.valid_zero.1 hv).1; simpa using this
    have HE : Hid (Dl.encode (xs.map PM.d) = Codec.encode (Obj.L ((xs.map PM.d).map Dl.pv))) := by unfold Hid Dl.encode; rw [if_pos hv]; rfl
    have HF := Lib.hid (Dl.fits_dv hv)
    have HVS := Lib.hid (fun k (hk : k < xs.length) => dl_pvs xs k hk)
    have HVL : Hid (((xs.map PM.d).map Dl.pv).length = xs.length) := by unfold Hid; simp
    have H := Lib.hid h
    rw [hv] at TV
    unfold RetEd
    unfold Dl.dv at HF
    clear hv h
    generalize (xs.map PM.d).map Dl.pv = vs at *
    generalize Dl.encode _ = enc at *
    go_enter Try.func10, Try.ntmps10
    go_wp2_with fail
    refine (TV _ abA).mono ?_
    rintro e w1 ⟨rfl, hb1⟩
    have b1 : Ab w w1 := Ab.trans abA hb1
    clear hb1 TV
    have Y1 : VB (w1.alloc (.cells #[.int .u8 0, .int .i64 0, .slice none 0 0, .slice none 0 0] 58)) w1.heap.size VM.zero.cells := VB.box (xs := #[.int .u8 0, .int .i64 0, .slice none 0 0, .slice none 0 0]) (T := 58) (by (repeat (first | exact new_plain wnA | with_reducible refine old_alloc ?_ | with_reducible refine old_drew ?_ | with_reducible refine old_set ?_ wnA | with_reducible refine old_ab (by assumption) ?_)))
    go_upto_region 5 with (refine list_stV (o := ⟨none, _, _, _, _, _⟩) (us := [.int .u8 3, .int .i64 0, .slice none 0 0, .slice none 0 0]) _ infoVT rfl _ _ rfl rfl rfl Y1 rfl rfl rfl ?_; intro w4 h4)
    have hb4 : Ab w1 w4 := h4.ab w1 abA (Nat.le_refl _)
    have b4 := b1.trans hb4
    have E4 := h4.v
    have z1 := b1.size
    have z4 : w1.heap.size < w4.heap.size := by have := h4.sz; simp at this; omega
    clear hb4 h4 Y1 b1
    generalize w1.heap.size = eb at *
    go_wp2_with fail
    go_loopw [16] (fun i w' => ∃ (k : Nat) (B : Option Addr) (cb_ : Nat) (ys : List VM), k ≤ xs.length ∧ i = .int .i64 k ∧ ys.length = k ∧ Ve w w4.heap.size eb (vs.take k) B cb_ ys w') (fun i _ => xs.length - (intOf i).toNat)
    case atStart => exact ⟨0, none, 0, [], Nat.zero_le _, rfl, rfl, ⟨b4, Nat.le_refl _, Lib.hid rfl, OwnVp.nil, E4⟩⟩
    case round =>
      obtain ⟨k, B, cb_, ys, hk, rfl, hyl, hV⟩ := hrel
      have hyl' : k = ys.length := hyl.symm
      subst hyl'
      clear hyl
      rename World => w5
      by_cases hlt : ys.length < xs.length
      · have hT : (ys.length : Int) < xs.length := by omega
        obtain ⟨g, o, rfl, hR, hp⟩ := pts_at (H.out.ab hV.ab) hlt
        have hS : RS w (fun g => g < w.heap.size) xs[ys.length].A xs[ys.length].b := RS.mono' (fun g hg => hg.2) ((H.out.l _ (List.getElem_mem hlt)).b.rs (S := fun _ => True) (fun _ _ => trivial)).lt
        have HS := Lib.hid (HVS.out ys.length hlt)
        have hfx := hf.out xs[ys.length].d (List.mem_map.2 ⟨_, List.getElem_mem hlt, rfl⟩)
        have hxl : xs[ys.length].cells.length = 3 := rfl
        have Z6 : VB (w5.alloc (.cells PM.zero.cells.toArray 24)) w5.heap.size PM.zero.cells := VB.box (xs := PM.zero.cells.toArray) (T := 24) (by (repeat (first | exact new_plain wnA | with_reducible refine old_alloc ?_ | with_reducible refine old_drew ?_ | with_reducible refine old_set ?_ wnA | with_reducible refine old_ab (by assumption) ?_)))
        generalize xs[ys.length] = x at *
        go_upto_region 8 with (first
          | (refine list_ldP (o := ⟨some 19, _, _, _, _, _⟩) (o + ys.length * 3) x hR (by kernel_rfl) _ rfl rfl ?_)
          | (refine list_stV (o := ⟨none, _, _, _, _, _⟩) (us := x.cells) _ infoP rfl _ _ rfl rfl rfl Z6 rfl hxl (PM.one x) ?_
             intro w6 h6))
        have hb6 : Ab w5 w6 := h6.ab w5 abA (Nat.le_refl _)
        have hV6 := hV.keep hb6
        have X6 := h6.v
        have hp6 := hp.ab hb6
        have hS6 := (hS.ab hV.ab).ab hb6
        have z6 : w5.heap.size < w6.heap.size := by have := h6.sz; simp at this; omega
        have zB : ∀ g', B.map (·.block) = some g' → w4.heap.size ≤ g' ∧ g' < w5.heap.size := fun g' e => hV.o.at_ e
        have z5 := hV.zz
        clear hV hR hp hS Z6 h6 hb6
        generalize w5.heap.size = tb at *
        refine region_last 7 (by kernel_rfl) (by kernel_rfl) rfl (S := fun w' => VB w' eb [.int .u8 3, .int .i64 0, .slice none 0 0, .slice B ys.length cb_] ∧ VB w' tb x.cells) ?_ (fun hHeld => ?_)
        · exact ⟨VB.ab hV6.e abA, VB.ab X6 abA⟩
        (refine rtA 0 ?_ ?_
         (try simp only [Act.put, stA, st0, st1]))
        (refine rtA 1 (.slice B ys.length cb_) ?_ (hy := by intro w hSw; have z0 := hSw.1.at 3 rfl; go_simp; (try with_reducible rfl)); (try simp only [Act.put, stA, st0, st1]))
        (refine rtL 2 x.cells 0 (fun w hSw => VB.range hSw.2) Try.underlying24 ?_
         (try simp only [Act.put, stA, st0, st1]))
        refine r1A 3 (fun K hK => ?_)
        (go_simp
         (refine (dvalueof_any x (fun g => g < w.heap.size) _ (hp6.ab abA) (hS6.ab abA) hfx).mono ?_; rintro e w7 ⟨⟨yk, yn, yA, yb, yc, yL, yl, yd⟩, he, hy, hyl, hb7⟩; have he' : e = .returned (.agg #[.int .u8 (yk : Int), .int .i64 yn, .slice yA yb.length yc, .slice yL yl.length yd]) := he; subst he'; clear he)
         (try go_wp2_with fail)
         (refine hK.out _ _ ?_ (fun hHeld => ?_)
          · (try dsimp only); exact ⟨(VB.ab hV6.e abA).ab hb7, (VB.ab X6 abA).ab hb7⟩
          clear hK K
          (try simp only [Act.put, stA, st0, st1])))
        have b7 : Ab w6 w7 := Ab.trans (by exact abA) hb7
        have hV7 := hV6.keep b7
        have X7 := X6.ab b7
        have z7 := b7.size
        simp at hyl
        clear hb7 hV6 X6 hp6 hS6
        have b8 : Ab w7 (w7.alloc (.cells #[.int .u8 (yk : Int), .int .i64 yn, .slice yA yb.length yc, .slice yL yl.length yd] 58)) := abA
        refine r1A 4 (fun K hK => ?_)
        (go_simp
         (refine hK.out _ _ ?_ (fun hHeld => ?_)
          · (try dsimp only); exact (show VB (w7.alloc (.cells #[.int .u8 (yk : Int), .int .i64 yn, .slice yA yb.length yc, .slice yL yl.length yd] 58)) eb _ ∧ VB (w7.alloc (.cells #[.int .u8 (yk : Int), .int .i64 yn, .slice yA yb.length yc, .slice yL yl.length yd] 58)) tb _ from ⟨hV7.e.ab b8, X7.ab b8⟩)
          clear hK K
          (try simp only [Act.put, stA, st0, st1])))
        have XV : VL 2 (w7.alloc (.cells #[.int .u8 (yk : Int), .int .i64 yn, .slice yA yb.length yc, .slice yL yl.length yd] 58)) (fun g => (g < w.heap.size ∨ w4.heap.size ≤ g) ∧ B.map (·.block) ≠ some g) ⟨yk, yn, yA, yb, yc, yL, yl, yd⟩ := VL.mono (fun g' hg' => by
          refine ⟨?_, fun e => ?_⟩
          · rcases hg' with h | h
            · exact .inl h
            · exact .inr (by omega)
          · have := zB g' e
            rcases hg' with h | h <;> omega) (hyl.ab b8)
        have zsz : w4.heap.size ≤ (w7.alloc (.cells #[.int .u8 (yk : Int), .int .i64 yn, .slice yA yb.length yc, .slice yL yl.length yd] 58)).heap.size := (hV7.keep b8).zz
        have hnew : (w7.alloc (.cells #[.int .u8 (yk : Int), .int .i64 yn, .slice yA yb.length yc, .slice yL yl.length yd] 58)).heap[w7.heap.size]? = some (.cells #[.int .u8 (yk : Int), .int .i64 yn, .slice yA yb.length yc, .slice yL yl.length yd] 58 (0, 0)) := by (repeat (first | exact new_plain wnA | with_reducible refine old_alloc ?_ | with_reducible refine old_drew ?_ | with_reducible refine old_set ?_ wnA | with_reducible refine old_ab (by assumption) ?_))
        refine r1A 5 (fun K hK => ?_)
        (try simp only [Act.put, List.getElem_toArray, List.getElem_cons_succ, List.getElem_cons_zero, stA, st0, st1])
        refine if_go (by rfl) ?_
        refine wp_appVp (x := ⟨yk, yn, yA, yb, yc, yL, yl, yd⟩) _ _ rfl rfl rfl (hV7.o.ab b8) zsz hnew XV (by omega) ?_
        intro g' c' w13 zs ez O13 hg13 hk13
        have E13 := (hV7.e.ab b8).grw hg13 (fun e => by have := zB eb e; omega)
        have X13 := (X7.ab b8).grw hg13 (fun e => by have := zB tb e; omega)
        have b13 : Ab w w13 := grown_ab (hV7.ab.trans b8) hg13 (fun g e => by have := zB g e; omega)
        have z13 : w4.heap.size ≤ w13.heap.size := Nat.le_trans zsz hg13.size
        have v13 : Hid (zs.map VM.v = vs.take (ys.length + 1)) := by
          unfold Hid
          rw [ez.out, List.map_append, hV7.v.out, HS.out, ← hy.out]
          rfl
        have l13 : zs.length = ys.length + 1 := by rw [ez.out]; simp
        (refine hK.out _ _ ?_ (fun hHeld => ?_)
         · (try dsimp only); exact ⟨E13, X13⟩
         clear hK K
         (try simp only [Act.put, stA, st0, st1]))
        clear XV hV7 hnew hg13 b8 ez hk13 hyl X7
        (refine rtA 6 ?_ ?_
         (try simp only [Act.put, stA, st0, st1]))
        refine wpAnyH_done (by kernel_rfl) ?_ _
        refine last_then ?_
        refine wpOp_step rfl (fun K hK => ?_)
        have q13 := E13.q 3 (.slice B ys.length cb_) rfl
        have g13 := E13.g 3
        go_simp
        refine hK _ _ ?_
        clear hK K
        go_wp2
        go_roundw
        case rel => exact ⟨ys.length + 1, some ⟨g', 0, none⟩, c', zs, by omega, by go_num, l13, ⟨Ab.set b13 (by show w.heap.size ≤ eb; omega) _, by simpa using z13, v13, O13.keep (fun g hg _ => Below.heap_setCell _ _ _ g (by show g ≠ eb; omega)), by rw [l13]; exact E13.set 3 (by simp) _⟩⟩
        case measure => simp [intOf] <;> omega
      · have hke : ys.length = xs.length := by omega
        have hT : ¬ ((ys.length : Nat) : Int) < (xs.length : Int) := by omega
        have hvs : ys.map VM.v = vs := by rw [hV.v.out, List.take_of_length_le (by rw [HVL.out]; omega)]
        have hW := hV.o.list (by omega)
        rw [hvs] at hW
        have hw5 : VM.cells (vmL B vs cb_) = [.int .u8 3, .int .i64 0, .slice none 0 0, .slice B ys.length cb_] := by
          show [Value.int .u8 3, .int .i64 0, .slice none 0 0, .slice B vs.length cb_] = _
          rw [← hvs, List.length_map]
        have HCE := encode_any 3 (fun _ => True) (vmL B vs cb_) w5 hW HF.out
        unfold VM.val at HCE
        rw [hw5] at HCE
        have hE := hV.e
        have b5 := hV.ab
        have z5 := b5.size
        clear hke hvs hV hW hw5 HF
        go_wp2_with (refine list_ldV (o := ⟨some 28, _, _, _, _, _⟩) _ infoVT Try.underlying58 rfl rfl _ rfl rfl hE rfl ?_)
        refine HCE.mono ?_
        rintro e w6 ⟨A6, c6, L6, er, rfl, hL6, o6, hb6⟩
        go_wp2
        go_ret2
        exact ⟨A6, c6, L6, er, rfl, Lib.hid (by rw [HE.out]; exact hL6.out), o6.mono z5, b5.trans hb6⟩
  · have HE : Hid (Dl.encode (xs.map PM.d) = ([], Dl.valid (xs.map PM.d))) := by unfold Hid Dl.encode; rw [if_neg hv]
    have hc' : (Dl.valid (xs.map PM.d) != 0) = true := by rw [bne_iff_ne]; exact hv
    have hn' := h.n'
    unfold RetEd
    clear hv h
    generalize Dl.valid (xs.map PM.d) = q at *
    generalize Dl.encode _ = enc at *
    go_enter Try.func10, Try.ntmps10
    go_wp2_with fail
    refine (TV _ abA).mono ?_
    rintro e w1 ⟨rfl, hb1⟩
    have b1 : Ab w w1 := Ab.trans abA hb1
    go_wp2
    go_ret2
    exact ⟨none, 0, [], q, rfl, HE, OR.none_, b1⟩
end Go.Proofs.Ytjgijpfknhfnjaa
