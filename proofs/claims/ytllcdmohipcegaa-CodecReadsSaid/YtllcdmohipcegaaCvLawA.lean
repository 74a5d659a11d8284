/- CodecReads, walked. Own work. -/
import Derived.Test.YtllcdmohipcegaaCvRefC
set_option linter.unusedVariables false
set_option linter.unusedSimpArgs false
namespace Go.Proofs.Ytllcdmohipcegaa
open Go.RowKit
open Codec (V)

theorem xor_u8 (x : UInt8) : ∃ y : UInt8, Value.int .u8 (bits .xor .u8 (x.toNat : Int) 255) = cb y := by
  have : ∀ z : Int, ∃ y : UInt8, Value.int .u8 (IntKind.u8.wrap z) = cb y := by
    intro z
    refine ⟨UInt8.ofNat (z % 256).toNat, ?_⟩
    unfold cb
    rw [IntKind.wrap_u8, UInt8.toNat_ofNat']
    congr 1
    omega
  exact this _
/-- A guarded load of a whole variable that comes. -/
theorem cv_ldG {ops : Array Oper} {rest : List Oper} {o : Oper} {a : Act} {w : World} {b : Nat} {vs : List Value} {Q : Exit → Act → World → Prop} (T : TypeId) {n : Nat} {d : TypeDesc} (hT : (Try.prog.info? T).map (·.size) = some n) (hu : Try.prog.underlying T = some d) (hd : d.isRow = true) (hw : Region.wanted o (yielded ops a.tmps) = true) (x : Operand) (ho : o.op = .load T x) (hx : a.eval x = .pointer (some ⟨b, 0, none⟩)) (hv : VB w b vs) (hl : vs.length = n)
    (h : wpList Try.prog ops Q rest (a.put o.dst (.agg vs.toArray)) w) : wpList Try.prog ops Q (o :: rest) a w :=
  wpList_step fun K hK => by
    rw [if_pos hw]
    exact wp_load_mid _ x ho b 0 hx vs _ hv.range hu hd (by rw [hT, hl]) (hK _ _ h)
theorem reads_great (A : Option Addr) (l : List UInt8) (c : Nat) (w : World) (h : 5000 < l.length) :
    Calls Try.prog 5 #[.slice A l.length c] w fun e w' => e = .returned (.bool true) ∧ Ab w w' := by
  go_enter Try.func5, Try.ntmps5
  go_wp2
  go_ret
  exact ⟨rfl, Ab.refl w⟩
set_option maxRecDepth 100000 in
set_option maxHeartbeats 4000000 in
theorem reads_small (A : Option Addr) (l : List UInt8) (c : Nat) (w : World) (hb : RB w 0 A l) (hc : l.length ≤ c) (h5 : l.length ≤ 5000) :
    Calls Try.prog 5 #[.slice A l.length c] w fun e w' => e = .returned (.bool true) ∧ Ab w w' := by
  go_enter Try.func5, Try.ntmps5
  go_wp2_with ((at_builtin
                refine listLit rfl _ _ rfl rfl rfl (m := l) rfl (by (repeat (first | exact new_plain wnA | with_reducible refine old_alloc ?_ | with_reducible refine old_drew ?_ | with_reducible refine old_set ?_ wnA | with_reducible refine old_ab (by assumption) ?_))) (RB.ab hb (show Ab w _ from abA)) hc (by omega) ?_
                intro A1 c1 w1 L1 e1 b1 o1
                have oA := o1 w.heap.size (by simp) (by simp)
                have ab1 : Ab w w1 := Ab.trans abA b1
                have hz1 := b1.size
                clear o1 b1))
  obtain rfl : l = L1 := e1.out.symm
  have rA := oA.rng
  have rA2 := oA.rb.zero
  refine (decode_any A1 l c1 w1 oA.rb.zero oA.le (by omega)).mono ?_
  rintro e w2 ⟨x1, er1, rfl, n1, v1, hb1⟩
  have Z1 : VB (w2.alloc (.cells VM.zero.cells.toArray 26)) w2.heap.size VM.zero.cells := VB.box (xs := VM.zero.cells.toArray) (T := 26) (by (repeat (first | exact new_plain wnA | with_reducible refine old_alloc ?_ | with_reducible refine old_drew ?_ | with_reducible refine old_set ?_ wnA | with_reducible refine old_ab (by assumption) ?_)))
  go_upto_region 5 with (refine list_stV (o := ⟨none, _, _, _, _, _⟩) (us := x1.cells) _ infoV rfl _ _ rfl rfl rfl Z1 rfl rfl x1.one ?_; intro w3 h1)
  have b1 : Ab w2 w3 := h1.ab w2 ((Ab.refl _).alloc _) (Nat.le_refl _)
  have s1 := hb1.size
  have t1 := b1.size
  have ba1 : Ab w1 w3 := hb1.trans b1
  have V1 : VB w3 w2.heap.size x1.cells := h1.v
  have q1 : VL 6 w3 (fun g => w1.heap.size ≤ g) x1 := VL.mono (fun g hg => by omega) (v1.ab b1)
  replace oA := oA.keep ba1
  replace ab1 := ab1.trans ba1
  clear h1 Z1 v1 hb1 b1 ba1
  go_wp2_with fail
  refine (rdecode_any A l c w3 (hb.ab ab1) hc (by omega)).mono ?_
  rintro e w4 ⟨x2, er2, rfl, n2, v2, hb2⟩
  have Z2 : VB (w4.alloc (.cells VM.zero.cells.toArray 26)) w4.heap.size VM.zero.cells := VB.box (xs := VM.zero.cells.toArray) (T := 26) (by (repeat (first | exact new_plain wnA | with_reducible refine old_alloc ?_ | with_reducible refine old_drew ?_ | with_reducible refine old_set ?_ wnA | with_reducible refine old_ab (by assumption) ?_)))
  go_upto_region 6 with (refine list_stV (o := ⟨none, _, _, _, _, _⟩) (us := x2.cells) _ infoV rfl _ _ rfl rfl rfl Z2 rfl rfl x2.one ?_; intro w5 h2)
  have b2 : Ab w4 w5 := h2.ab w4 ((Ab.refl _).alloc _) (Nat.le_refl _)
  have s2 := hb2.size
  have t2 := b2.size
  have ba2 : Ab w3 w5 := hb2.trans b2
  have V2 : VB w5 w4.heap.size x2.cells := h2.v
  have q2 : VL 6 w5 (fun g => w1.heap.size ≤ g) x2 := VL.mono (fun g hg => by omega) (v2.ab b2)
  replace V1 := V1.ab ba2
  replace q1 := q1.ab ba2
  replace oA := oA.keep ba2
  replace ab1 := ab1.trans ba2
  clear h2 Z2 v2 hb2 b2 ba2
  go_wp2_with fail
  refine (next_any A1 l c1 w5 oA.rb.zero oA.le (by omega)).mono ?_
  rintro e w6 ⟨x3, u3, er3, rfl, n3, v3, hb3⟩
  have Z3 : VB (w6.alloc (.cells VM.zero.cells.toArray 26)) w6.heap.size VM.zero.cells := VB.box (xs := VM.zero.cells.toArray) (T := 26) (by (repeat (first | exact new_plain wnA | with_reducible refine old_alloc ?_ | with_reducible refine old_drew ?_ | with_reducible refine old_set ?_ wnA | with_reducible refine old_ab (by assumption) ?_)))
  go_upto_region 7 with (refine list_stV (o := ⟨none, _, _, _, _, _⟩) (us := x3.cells) _ infoV rfl _ _ rfl rfl rfl Z3 rfl rfl x3.one ?_; intro w7 h3)
  have b3 : Ab w6 w7 := h3.ab w6 ((Ab.refl _).alloc _) (Nat.le_refl _)
  have s3 := hb3.size
  have t3 := b3.size
  have ba3 : Ab w5 w7 := hb3.trans b3
  have V3 : VB w7 w6.heap.size x3.cells := h3.v
  have q3 : VL 6 w7 (fun g => w1.heap.size ≤ g) x3 := VL.mono (fun g hg => by omega) (v3.ab b3)
  replace V1 := V1.ab ba3
  replace q1 := q1.ab ba3
  replace V2 := V2.ab ba3
  replace q2 := q2.ab ba3
  replace oA := oA.keep ba3
  replace ab1 := ab1.trans ba3
  clear h3 Z3 v3 hb3 b3 ba3
  go_wp2_with fail
  refine (rnext_any A l c w7 (hb.ab ab1) hc (by omega)).mono ?_
  rintro e w8 ⟨x4, u4, er4, rfl, n4, v4, hb4⟩
  have Z4 : VB (w8.alloc (.cells VM.zero.cells.toArray 26)) w8.heap.size VM.zero.cells := VB.box (xs := VM.zero.cells.toArray) (T := 26) (by (repeat (first | exact new_plain wnA | with_reducible refine old_alloc ?_ | with_reducible refine old_drew ?_ | with_reducible refine old_set ?_ wnA | with_reducible refine old_ab (by assumption) ?_)))
  go_upto_region 8 with (refine list_stV (o := ⟨none, _, _, _, _, _⟩) (us := x4.cells) _ infoV rfl _ _ rfl rfl rfl Z4 rfl rfl x4.one ?_; intro w9 h4)
  have b4 : Ab w8 w9 := h4.ab w8 ((Ab.refl _).alloc _) (Nat.le_refl _)
  have s4 := hb4.size
  have t4 := b4.size
  have ba4 : Ab w7 w9 := hb4.trans b4
  have V4 : VB w9 w8.heap.size x4.cells := h4.v
  have q4 : VL 6 w9 (fun g => w1.heap.size ≤ g) x4 := VL.mono (fun g hg => by omega) (v4.ab b4)
  replace V1 := V1.ab ba4
  replace q1 := q1.ab ba4
  replace V2 := V2.ab ba4
  replace q2 := q2.ab ba4
  replace V3 := V3.ab ba4
  replace q3 := q3.ab ba4
  replace oA := oA.keep ba4
  replace ab1 := ab1.trans ba4
  clear h4 Z4 v4 hb4 b4 ba4
  have hA : ∀ g, A1.map (·.block) = some g → g < w1.heap.size := by
    intro g e
    cases hA1 : A1 with
    | none => rw [hA1] at e; cases e
    | some a => rw [hA1] at e; have := (rA a hA1).2; simp at e; omega
  have hAlo : ∀ g, A1.map (·.block) = some g → w.heap.size ≤ g := by
    intro g e
    cases hA1 : A1 with
    | none => rw [hA1] at e; cases e
    | some a => rw [hA1] at e; have := (rA a hA1).1; simp at e; omega
  obtain ⟨e1, e2⟩ := Prod.mk.inj (n1.out.symm.trans n2.out)
  obtain ⟨e3, e4⟩ := Prod.mk.inj (n3.out.symm.trans n4.out)
  obtain ⟨e4, e5⟩ := Prod.mk.inj e4
  subst e2 e4 e5
  have T1 : Hid (Codec.same 6 x1.v x2.v = true) := by unfold Hid; rw [← e1]; exact Codec.same_refl 6 _
  have T2 : Hid (Codec.same 6 x3.v x4.v = true) := by unfold Hid; rw [← e3]; exact Codec.same_refl 6 _
  clear n1 n2 n3 n4 e1 e3 rA rA2 hb
  go_wp2
  go_loopw [14] (fun i wr => InPlace 5 A1 c1 l.length w.heap.size w9 i wr) (fun i _ => l.length - (intOf i).toNat)
  case atStart => exact ⟨0, l, Nat.zero_le _, rfl, Lib.hid rfl, oA, World.grownBy.refl _ _⟩
  case round =>
    obtain ⟨k, l', hk, rfl, hl, oo, gg⟩ := hrel
    rename World => wr
    by_cases hlt : k < l.length
    · obtain ⟨g, rfl, hg1, hg2⟩ := oo.at_ (by rw [hl.out]; omega)
      have hkl : k < l'.length := by rw [hl.out]; exact hlt
      have hc := oo.cellAt hkl
      have hf := oo.unfrozen k
      obtain ⟨y, hy⟩ := xor_u8 l'[k]
      have HY := Lib.hid hy
      have hki : (k : Int) < (l.length : Int) := by omega
      clear hy
      go_wp2
      go_roundw
      case rel =>
        refine ⟨k + 1, l'.set k y, by omega, by go_num, Lib.hid (by rw [List.length_set]; exact hl.out), ?_, ?_⟩
        · rw [HY.out]; exact oo.store k _
        · exact grown_set gg _
      case measure => simp [intOf]; omega
    · have hki : ¬ (k : Int) < (l.length : Int) := by omega
      replace V1 := V1.grown gg (fun e => by have := hA _ e; omega)
      replace V2 := V2.grown gg (fun e => by have := hA _ e; omega)
      replace V3 := V3.grown gg (fun e => by have := hA _ e; omega)
      replace V4 := V4.grown gg (fun e => by have := hA _ e; omega)
      replace q1 := q1.grown gg (fun g e hS => by have := hA g e; omega)
      replace q2 := q2.grown gg (fun g e hS => by have := hA g e; omega)
      replace q3 := q3.grown gg (fun g e hS => by have := hA g e; omega)
      replace q4 := q4.grown gg (fun g e hS => by have := hA g e; omega)
      have abr : Ab w wr := grown_ab ab1 gg (fun g e => hAlo g e)
      clear gg oo oA hA hAlo ab1 hl
      go_wp2_with (first
        | (refine list_ldV (o := ⟨some 55, _, _, _, _, _⟩) _ infoV Try.underlying26 rfl rfl _ rfl rfl V1 rfl ?_)
        | (refine list_ldV (o := ⟨some 56, _, _, _, _, _⟩) _ infoV Try.underlying26 rfl rfl _ rfl rfl V2 rfl ?_))
      refine (same_any 6 _ _ x1 x2 _ q1 q2).mono ?_
      rintro e wS ⟨rfl, hbS⟩
      rw [T1.out]
      replace V3 := V3.ab hbS
      replace V4 := V4.ab hbS
      replace q3 := q3.ab hbS
      replace q4 := q4.ab hbS
      go_wp2_with (first
        | (refine cv_ldG (o := ⟨some 64, _, _, _, _, _⟩) _ infoV Try.underlying26 rfl (by kernel_rfl) _ rfl rfl V3 rfl ?_)
        | (refine cv_ldG (o := ⟨some 65, _, _, _, _, _⟩) _ infoV Try.underlying26 rfl (by kernel_rfl) _ rfl rfl V4 rfl ?_))
      refine (same_any 6 _ _ x3 x4 _ q3 q4).mono ?_
      rintro e wT ⟨rfl, hbT⟩
      rw [T2.out]
      go_wp2
      go_ret
      exact ⟨rfl, abr.trans (hbS.trans hbT)⟩
theorem reads_walk (A : Option Addr) (l : List UInt8) (c : Nat) (w : World) (hb : RB w 0 A l) (hc : l.length ≤ c) :
    Calls Try.prog 5 #[.slice A l.length c] w fun e w' => e = .returned (.bool true) ∧ Ab w w' := by
  by_cases h5 : 5000 < l.length
  · exact reads_great A l c w h5
  · exact reads_small A l c w hb hc (by omega)
end Go.Proofs.Ytllcdmohipcegaa
