/- The delta with some bytes, walked: the code's Decode. Own work. -/
import Derived.Test.YtjgijpfknhfnjaaDlDec
import Derived.Test.YtjgijpfknhfnjaaCvFunE
set_option linter.unusedVariables false
set_option linter.unusedSimpArgs false
namespace Go.Proofs.Ytjgijpfknhfnjaa
open Go.RowKit
open Codec (V)

theorem dec_len {b : List UInt8} (hb : b.length < 9223372036854775808) (h : (Codec.decode b).2 = 0) : (Codec.decode b).1.l.length ≤ 3000 := by
  obtain ⟨hc, hw, hbe⟩ := Dl.dec_ok hb h
  generalize (Codec.decode b).1 = v at *
  unfold Codec.check at hc
  split at hc
  · cases hc
  · rename_i h1
    split at hc
    · cases hc
    · rename_i h2
      have hk : Codec.kinds 6 v = true := by simpa using h1
      rcases Codec.kinds_cases hk with ⟨n, rfl⟩ | ⟨b, rfl⟩ | ⟨l, rfl, hx⟩
      · simp [V.l]
      · simp [V.l]
      · have h3 := Codec.flat_ge l hx
        have e : Codec.enc 6 (V.mk 3 0 [] l) = 3 :: (Codec.code l.length ++ (l.map (Codec.enc 5)).flatten) := rfl
        rw [e, List.length_cons, List.length_append] at h2
        show l.length ≤ 3000
        omega
/-- What Decode returns. -/
def RetDp (w : World) (b : List UInt8) (e : Ending) (w' : World) : Prop :=
  ∃ (P : Option Addr) (cp : Nat) (ps : List PM) (er : Int), e = .returned (.tuple #[.slice P ps.length cp, .int .i64 er]) ∧ Hid (Dl.decode b = (ps.map PM.d, er)) ∧ OwnPts w.heap.size w' P cp ps ∧ Ab w w'
/-- Decode's variables behind some elements. -/
structure Vq (w : World) (lo xb_ : Nat) (x : VM) (vs : List Dl.Part) (A : Option Addr) (c : Nat) (ps : List PM) (w' : World) : Prop where
  ab : Ab w w'
  zz : lo ≤ w'.heap.size
  v : Hid (ps.map PM.d = vs)
  o : OwnPp lo (fun g => w.heap.size ≤ g) w' A c ps
  e : VB w' xb_ x.cells
  x : VL 6 w' (fun g => w.heap.size ≤ g ∧ g < lo) x
theorem Vq.keep {w w1 w2 : World} {lo xb_ : Nat} {x : VM} {vs : List Dl.Part} {A : Option Addr} {c : Nat} {ps : List PM} (h : Vq w lo xb_ x vs A c ps w1) (k : Ab w1 w2) : Vq w lo xb_ x vs A c ps w2 :=
  ⟨h.ab.trans k, Nat.le_trans h.zz k.size, h.v, h.o.ab k, h.e.ab k, h.x.ab k⟩
theorem Vq.app {w w1 w2 : World} {lo xb_ : Nat} {x : VM} {vs vs' : List Dl.Part} {A A' : Option Addr} {c c' : Nat} {ps zs : List PM} (h : Vq w lo xb_ x vs A c ps w1) (hg : w1.grownBy w2 (A.map (·.block))) (hx : xb_ < lo) (hw : w.heap.size ≤ lo)
    (o : OwnPp lo (fun g => w.heap.size ≤ g) w2 A' c' zs) (hv : Hid (zs.map PM.d = vs')) : Vq w lo xb_ x vs' A' c' zs w2 := by
  have hB := fun g e => h.o.at_ (g := g) e
  exact ⟨grown_ab h.ab hg (fun g e => by have := (hB g e).1; omega), Nat.le_trans h.zz hg.size, hv, o, h.e.grw hg (fun e => by have := (hB _ e).1; omega), h.x.grown hg (fun g e => by have := (hB g e).1; omega)⟩
set_option maxRecDepth 100000 in
set_option maxHeartbeats 8000000 in
theorem ddecode_any (A : Option Addr) (b : List UInt8) (c : Nat) (w : World) (hb : RB w 0 A b) (hc : b.length ≤ c) (hl : b.length ≤ 9223372036854775807) :
    Calls Try.prog 15 #[.slice A b.length c] w (RetDp w b) := by
  have TD := fun w' (k : Ab w w') => decode_any A b c w' (hb.ab k) hc hl
  have HB := Lib.hid hb
  have HL := Lib.hid (fun h => dec_len (b := b) (by omega) h)
  have HD : Hid (Dl.decode b = if (Codec.decode b).2 ≠ 0 then ([], 12) else if (Dl.encode ((Codec.decode b).1.l.map Dl.pin)).2 ≠ 0 ∨ (Dl.encode ((Codec.decode b).1.l.map Dl.pin)).1 ≠ b then ([], 12) else ((Codec.decode b).1.l.map Dl.pin, 0)) := Lib.hid rfl
  unfold RetDp
  generalize Dl.decode b = db at *
  clear hb
  go_enter Try.func15, Try.ntmps15
  go_wp2_with fail
  refine (TD _ abA).mono ?_
  rintro e w1 ⟨⟨xk, xn, xA, xb, xc, xL, xl, xd⟩, er, he, hd, hv, hb1⟩
  have he' : e = .returned (.tuple #[.agg #[.int .u8 (xk : Int), .int .i64 xn, .slice xA xb.length xc, .slice xL xl.length xd], .int .i64 er]) := he
  subst he'
  clear he TD
  have b1 : Ab w w1 := Ab.trans (by exact abA) hb1
  have Y1 : VB (w1.alloc (.cells VM.zero.cells.toArray 58)) w1.heap.size VM.zero.cells := VB.box (xs := VM.zero.cells.toArray) (T := 58) (by (repeat (first | exact new_plain wnA | with_reducible refine old_alloc ?_ | with_reducible refine old_drew ?_ | with_reducible refine old_set ?_ wnA | with_reducible refine old_ab (by assumption) ?_)))
  have z1 := b1.size
  have hv1 := VL.mono (S' := fun g => w.heap.size ≤ g ∧ g < w1.heap.size) (fun g hg => ⟨by simpa using hg.1, hg.2⟩) hv.lt
  rw [hd.out] at HD HL
  clear hv hb1
  go_upto_region 2 with (refine list_stV (o := ⟨none, _, _, _, _, _⟩) (us := [.int .u8 (xk : Int), .int .i64 xn, .slice xA xb.length xc, .slice xL xl.length xd]) _ infoVT rfl _ _ rfl rfl rfl Y1 rfl rfl rfl ?_; intro w4 h4)
  have hb4 : Ab w1 w4 := h4.ab w1 abA (Nat.le_refl _)
  have b4 := b1.trans hb4
  have E4 := h4.v
  have z4 : w1.heap.size < w4.heap.size := by have := h4.sz; simp at this; omega
  have hv4 := VL.mono (S' := fun g => w.heap.size ≤ g ∧ g < w4.heap.size) (fun g hg => ⟨hg.1, by omega⟩) (hv1.ab hb4)
  clear hb4 h4 Y1 b1 hv1
  generalize w1.heap.size = xb_ at *
  by_cases h0 : er = 0
  · subst h0
    have hl3 : xl.length ≤ 3000 := HL.out rfl
    clear HL
    have q3 := E4.at 3 (show ([.int .u8 (xk : Int), .int .i64 xn, .slice xA xb.length xc, .slice xL xl.length xd] : List Value)[3]? = some (.slice xL xl.length xd) from rfl)
    go_wp2_with fail
    go_loopw [6, 20] (fun s6 i w' => ∃ (k : Nat) (B : Option Addr) (cb_ : Nat) (ps : List PM), k ≤ xl.length ∧ s6 = .slice B ps.length cb_ ∧ i = .int .i64 k ∧ ps.length = k ∧ Vq w w4.heap.size xb_ ⟨xk, xn, xA, xb, xc, xL, xl, xd⟩ ((xl.take k).map Dl.pin) B cb_ ps w') (fun _ i _ => xl.length - (intOf i).toNat)
    case atStart => exact ⟨0, none, 0, [], Nat.zero_le _, rfl, rfl, rfl, ⟨b4, Nat.le_refl _, Lib.hid rfl, OwnPp.nil, E4, hv4⟩⟩
    case round =>
      obtain ⟨k, B, cb_, ps, hk, rfl, rfl, hyl, hV⟩ := hrel
      have hyl' : k = ps.length := hyl.symm
      subst hyl'
      clear hyl
      rename World => w5
      by_cases hlt : ps.length < xl.length
      · have hT : (ps.length : Int) < xl.length := by omega
        obtain ⟨g, o, hL, hSg, y, hy, hR, hly⟩ := vl_elem hV.x hlt
        simp only at hL
        subst hL
        have HS : Hid ((xl.take (ps.length + 1)).map Dl.pin = (xl.take ps.length).map Dl.pin ++ [Dl.pin y.v]) := by
          unfold Hid
          rw [List.take_add_one, List.getElem?_eq_getElem hlt, hy]
          simp only [Option.toList_some, List.map_append, List.map_cons, List.map_nil]
        have Z6 : VB (w5.alloc (.cells VM.zero.cells.toArray 58)) w5.heap.size VM.zero.cells := VB.box (xs := VM.zero.cells.toArray) (T := 58) (by (repeat (first | exact new_plain wnA | with_reducible refine old_alloc ?_ | with_reducible refine old_drew ?_ | with_reducible refine old_set ?_ wnA | with_reducible refine old_ab (by assumption) ?_)))
        clear hy
        go_upto_region 8 with (first
          | (refine list_ldW (o := ⟨some 23, _, _, _, _, _⟩) _ (o + ps.length * 4) y.cells hR infoVT Try.underlying58 rfl (by kernel_rfl) _ rfl rfl (VM.len y) ?_)
          | (refine list_stV (o := ⟨none, _, _, _, _, _⟩) (us := y.cells) _ infoVT rfl _ _ rfl rfl rfl Z6 rfl (VM.len y) (VM.one y) ?_
             intro w6 h6))
        have hb6 : Ab w5 w6 := h6.ab w5 abA (Nat.le_refl _)
        have hV6 := hV.keep hb6
        have X6 := h6.v
        have hly6 := hly.ab hb6
        have z6 : w5.heap.size < w6.heap.size := by have := h6.sz; simp at this; omega
        have zB : ∀ g', B.map (·.block) = some g' → w4.heap.size ≤ g' ∧ g' < w5.heap.size := fun g' e => hV.o.at_ e
        have z5 := hV.zz
        clear hV hR hly Z6 h6 hb6
        generalize w5.heap.size = tb at *
        go_wp2_with (refine list_ldV (o := ⟨some 25, _, _, _, _, _⟩) _ infoVT Try.underlying58 rfl rfl _ rfl rfl X6 (VM.len y) ?_)
        refine (partin_any 3 y (fun g => w.heap.size ≤ g ∧ g < w4.heap.size) _ hly6).mono ?_
        rintro e w7 ⟨⟨pp, pn, pA, pb, pc⟩, he, hpd, hpo, hb7⟩
        have he' : e = .returned (.agg #[.int .i64 pp, .int .i64 pn, .slice pA pb.length pc]) := he
        subst he'
        clear he
        have hV7 := hV6.keep hb7
        have z7 := hb7.size
        have XP : ∀ w', Ab w7 w' → PO w' (fun g => (w.heap.size ≤ g ∨ w4.heap.size ≤ g) ∧ B.map (·.block) ≠ some g) ⟨pp, pn, pA, pb, pc⟩ := fun w' k => PO.mono (hpo.ab k) fun g' hg' => ⟨.inl hg'.1, fun e => by have := zB g' e; omega⟩
        have HV7 := Lib.hid hV7
        clear hV6 X6 hly6 hb7 hV7 hpo b4 E4 q3 hv4
        go_wp2_with (first
          | (at_builtin
             refine listAppPp (x := ⟨pp, pn, pA, pb, pc⟩) rfl _ _ rfl rfl rfl (HV7.out.o.ab (w' := _) abA) (by simp; omega) (by (repeat (first | exact new_plain wnA | with_reducible refine old_alloc ?_ | with_reducible refine old_drew ?_ | with_reducible refine old_set ?_ wnA | with_reducible refine old_ab (by assumption) ?_))) (XP _ abA) (by omega) ?_
             intro g' c' w13 zs ez O13 hg13 hf13))
        have v13 : Hid (zs.map PM.d = (xl.take (ps.length + 1)).map Dl.pin) := by
          unfold Hid
          rw [ez.out, List.map_append, HV7.out.v.out, HS.out, ← hpd.out]
          rfl
        have l13 : zs.length = ps.length + 1 := by rw [ez.out]; simp
        have hV13 := Vq.app (HV7.out.keep abA) hg13 z4 (by omega) O13 v13
        go_roundw
        case rel => exact ⟨ps.length + 1, some ⟨g', 0, none⟩, c', zs, by omega, by rw [l13], by go_num, l13, hV13⟩
        case measure => simp [intOf] <;> omega
      · have hke : ps.length = xl.length := by omega
        have hT : ¬ ((ps.length : Nat) : Int) < (xl.length : Int) := by omega
        have hvs : ps.map PM.d = xl.map Dl.pin := by rw [hV.v.out, List.take_of_length_le (by omega)]
        have HD2 : Hid (db = if (Dl.encode (ps.map PM.d)).2 ≠ 0 ∨ (Dl.encode (ps.map PM.d)).1 ≠ b then ([], 12) else (ps.map PM.d, 0)) := by
          unfold Hid
          rw [HD.out, if_neg (by simp), hvs]
          rfl
        have O5 := hV.o.own (lo' := w.heap.size) (by omega) (fun _ h => h)
        have b5 := hV.ab
        have z5 := b5.size
        have hn5 : ps.length ≤ 9223372036854775807 := by omega
        clear hke hvs hV HD hd hlt hk hl3 hv4 E4 b4 q3
        have HP := O5.pts hn5
        go_wp2_with fail
        refine (dencode_any B cb_ ps _ (HP.ab abA)).mono ?_
        rintro e w6 ⟨A6, c6, L6, er6, rfl, hE6, o6, hb6⟩
        have b6 : Ab w5 w6 := Ab.trans (by exact abA) hb6
        have O6 := O5.ab b6
        have b6' := b5.trans b6
        have r6 := o6.rb.zero
        rw [hE6.out] at HD2
        clear O5 HP hb6 b6 b5 hE6
        by_cases h6 : er6 = 0
        · subst h6
          have HQ := fun w' (k : Ab w6 w') => bequal_any A6 A c6 c L6 b w' (r6.ab k) (HB.out.ab (b6'.trans k))
          by_cases hq : L6 = b
          · have HE : Hid (db = (ps.map PM.d, 0)) := by unfold Hid; rw [HD2.out, if_neg]; simp [hq]
            have hq' : (L6 == b) = true := by rw [beq_iff_eq]; exact hq
            rw [hq'] at HQ
            clear HD2 hq hq'
            go_wp2_with fail
            refine (HQ _ abA).mono ?_
            rintro e w7 ⟨rfl, hb7⟩
            go_wp2
            go_ret2
            exact ⟨B, cb_, ps, 0, rfl, HE, O6.ab (Ab.trans abA hb7), b6'.trans (Ab.trans abA hb7)⟩
          · have HE : Hid (db = ([], 12)) := by unfold Hid; rw [HD2.out, if_pos]; simp [hq]
            have hq' : (L6 == b) = false := by rw [beq_eq_false_iff_ne]; exact hq
            rw [hq'] at HQ
            clear HD2 hq hq'
            go_wp2_with fail
            refine (HQ _ abA).mono ?_
            rintro e w7 ⟨rfl, hb7⟩
            go_wp2
            go_ret2
            exact ⟨none, 0, [], 12, rfl, HE, OwnPts.nil, b6'.trans (Ab.trans abA hb7)⟩
        · have HE : Hid (db = ([], 12)) := by unfold Hid; rw [HD2.out, if_pos (.inl h6)]
          have hc' : (er6 != 0) = true := by rw [bne_iff_ne]; exact h6
          clear HD2 h6
          go_wp2
          go_ret2
          exact ⟨none, 0, [], 12, rfl, HE, OwnPts.nil, b6'⟩
  · have HE : Hid (db = ([], 12)) := by unfold Hid; rw [HD.out, if_pos h0]
    have hc' : (er != 0) = true := by rw [bne_iff_ne]; exact h0
    clear HD HL h0
    go_wp2
    go_ret2
    exact ⟨none, 0, [], 12, rfl, HE, OwnPts.nil, b4⟩
end Go.Proofs.Ytjgijpfknhfnjaa
