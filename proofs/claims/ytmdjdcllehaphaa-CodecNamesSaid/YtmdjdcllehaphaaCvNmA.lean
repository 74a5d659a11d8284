/- What the examples of CodecNames call, walked. Own work. -/
import Derived.Test.YtmdjdcllehaphaaCvAliveB
import Derived.Test.YtmdjdcllehaphaaCodecN
set_option linter.unusedVariables false
set_option linter.unusedSimpArgs false
namespace Go.Proofs.Ytmdjdcllehaphaa
open Go.RowKit
open Codec (V)

set_option maxRecDepth 100000 in
set_option maxHeartbeats 1000000 in
theorem refused_any (A : Option Addr) (l : List UInt8) (c : Nat) (w : World) (hb : RB w 0 A l) (hc : l.length ≤ c) (ll : l.length ≤ 1000) (h : Codec.next l = (V.zero, 0, 12) ∧ Codec.decode l = (V.zero, 12)) :
    Calls Try.prog 6 #[.slice A l.length c] w (RetTrue w) := by
  have HD := decode_any A l c w hb hc (by omega)
  have HN := fun w' (hk : Ab w w') => next_any A l c w' (hb.ab hk) hc (by omega)
  have H := Lib.hid h
  clear hb h
  go_enter Try.func6, Try.ntmps6
  go_wp2_with fail
  refine HD.mono ?_
  rintro e w1 ⟨x1, er1, rfl, h1, v1, hb1⟩
  obtain ⟨e1, rfl⟩ := Prod.mk.inj (h1.out.symm.trans H.out.2)
  have Z1 : VB (w1.alloc (.cells VM.zero.cells.toArray 26)) w1.heap.size VM.zero.cells := VB.box (xs := VM.zero.cells.toArray) (T := 26) (by (repeat (first | exact new_plain wnA | with_reducible refine old_alloc ?_ | with_reducible refine old_drew ?_ | with_reducible refine old_set ?_ wnA | with_reducible refine old_ab (by assumption) ?_)))
  clear HD h1 v1 e1
  go_upto_region 2 with (refine list_stV (o := ⟨none, _, _, _, _, _⟩) (us := x1.cells) _ infoV rfl _ _ rfl rfl rfl Z1 rfl rfl x1.one ?_; intro w2 h2)
  have b12 : Ab w1 w2 := h2.ab w1 ((Ab.refl _).alloc _) (Nat.le_refl _)
  have ab2 := hb1.trans b12
  clear h2 Z1 b12 hb1
  go_wp2_with fail
  refine (HN _ ab2).mono ?_
  rintro e w3 ⟨x3, u3, er3, rfl, h3, v3, hb3⟩
  obtain ⟨e3, e4⟩ := Prod.mk.inj (h3.out.symm.trans H.out.1)
  obtain ⟨rfl, rfl⟩ := Prod.mk.inj e4
  have ab3 := ab2.trans hb3
  have Z3 : VB (w3.alloc (.cells VM.zero.cells.toArray 26)) w3.heap.size VM.zero.cells := VB.box (xs := VM.zero.cells.toArray) (T := 26) (by (repeat (first | exact new_plain wnA | with_reducible refine old_alloc ?_ | with_reducible refine old_drew ?_ | with_reducible refine old_set ?_ wnA | with_reducible refine old_ab (by assumption) ?_)))
  clear HN h3 v3 e3 e4 hb3 ab2
  go_upto_region 3 with (refine list_stV (o := ⟨none, _, _, _, _, _⟩) (us := x3.cells) _ infoV rfl _ _ rfl rfl rfl Z3 rfl rfl x3.one ?_; intro w4 h4)
  have b34 : Ab w3 w4 := h4.ab w3 ((Ab.refl _).alloc _) (Nat.le_refl _)
  have ab4 := ab3.trans b34
  clear h4 Z3 b34
  go_wp2_with fail
  go_ret
  exact ⟨rfl, ab4.trans abA⟩
theorem VM.cells_at (x : VM) {w : World} {g : Nat} (h : VB w g x.cells) : w.rangeAt g (0 + 0 * 4) x.cells := fun j v hj => h.q (0 + 0 * 4 + j) v (by simpa using hj)
/-- A list of one value. -/
theorem vl_one {d : Nat} {w : World} {S : Nat → Prop} {x : VM} {g : Nat} (h : VB w g x.cells) (hx : VL d w S x) (hg : S g) : VL (d + 1) w S ⟨3, 0, none, [], 0, some ⟨g, 0, none⟩, [x.v], 1⟩ := by
  refine ⟨⟨by simp, by simp, by simp, by simp, by simp, by simp, by simp⟩, RS.nil, fun _ => ⟨g, 0, rfl, hg, fun i hi => ?_⟩⟩
  have : i = 0 := by simp at hi; omega
  subst this
  exact ⟨x, rfl, x.cells_at h, hx⟩
/-- What deep returns. -/
def RetDeep (n : Nat) (w : World) (e : Ending) (w' : World) : Prop := ∃ x : VM, e = .returned x.val ∧ Hid (x.v = Codec.deepV n) ∧ VL (n + 1) w' (fun g => w.heap.size ≤ g) x ∧ Ab w w'
set_option maxRecDepth 100000 in
set_option maxHeartbeats 1000000 in
theorem deep_any (n : Nat) (hn : n ≤ 100) (w : World) : Calls Try.prog 10 #[.int .i64 ((n : Int) + 1)] w (RetDeep n w) := by
  go_enter Try.func10, Try.ntmps10
  have Y1 : VB ((w.alloc (.cells VM.zero.cells.toArray 26)).alloc (.cells VM.zero.cells.toArray 26)) (w.heap.size + 1) VM.zero.cells := VB.box (xs := VM.zero.cells.toArray) (T := 26) (by (repeat (first | exact new_plain wnA | with_reducible refine old_alloc ?_ | with_reducible refine old_drew ?_ | with_reducible refine old_set ?_ wnA | with_reducible refine old_ab (by assumption) ?_)))
  have R0 : VB ((w.alloc (.cells VM.zero.cells.toArray 26)).alloc (.cells VM.zero.cells.toArray 26)) w.heap.size VM.zero.cells := VB.box (xs := VM.zero.cells.toArray) (T := 26) (by (repeat (first | exact new_plain wnA | with_reducible refine old_alloc ?_ | with_reducible refine old_drew ?_ | with_reducible refine old_set ?_ wnA | with_reducible refine old_ab (by assumption) ?_)))
  go_wp2_with (refine list_stV (o := ⟨none, _, _, _, _, _⟩) (us := VM.cells ⟨3, 0, none, [], 0, none, [], 0⟩) _ infoV rfl _ _ rfl rfl rfl Y1 rfl rfl rfl ?_; intro w1 h1)
  have R1 := h1.vb R0 (by omega)
  have V1 : VB w1 (w.heap.size + 1) (VM.cells ⟨3, 0, none, [], 0, none, [], 0⟩) := h1.v
  have ab1 : Ab w w1 := h1.ab w abA (by omega)
  clear h1 Y1 R0
  have L1 : VL 1 w1 (fun g => w.heap.size + 1 < g) ⟨3, 0, none, [], 0, none, [], 0⟩ := ⟨⟨by simp, by simp, by simp, by simp, by simp, by simp, by simp⟩, RS.nil, fun h => absurd h (by simp)⟩
  rw [show ∀ (a : Act) (v : Value), a.put none v = a from fun _ _ => rfl]
  go_loopw [0] (fun i w' => ∃ (k : Nat) (x : VM), k ≤ n ∧ i = .int .i64 ((n : Int) + 1 - (k : Int)) ∧ VB w' (w.heap.size + 1) x.cells ∧ VB w' w.heap.size VM.zero.cells ∧ Hid (x.v = Codec.deepV k) ∧ VL (k + 1) w' (fun g => w.heap.size + 1 < g) x ∧ Ab w w') (fun i _ => (intOf i).toNat)
  case atStart => exact ⟨0, _, Nat.zero_le _, by simp, V1, R1, rfl, L1, ab1⟩
  case round =>
    obtain ⟨k, x, hk, rfl, V2, R2, hv, hx, ab2⟩ := hrel
    rename World => w2
    clear V1 R1 L1 ab1
    by_cases hlt : k < n
    · have hki : 1 < (n : Int) + 1 - (k : Int) := by omega
      have hkn : (n : Int) + 1 - (k : Int) ≤ 1000 := by omega
      have z2 := V2.lt
      obtain ⟨k3, n3, A3, s3, c3, L3, l3, d3⟩ := x
      unfold VM.cells at V2
      dsimp only at V2
      have B2 : VB (w2.alloc (.cells #[.int .u8 (k3 : Int), .int .i64 n3, .slice A3 s3.length c3, .slice L3 l3.length d3] 26)) w2.heap.size (VM.cells ⟨k3, n3, A3, s3, c3, L3, l3, d3⟩) := VB.box (xs := #[.int .u8 (k3 : Int), .int .i64 n3, .slice A3 s3.length c3, .slice L3 l3.length d3]) (T := 26) (by (repeat (first | exact new_plain wnA | with_reducible refine old_alloc ?_ | with_reducible refine old_drew ?_ | with_reducible refine old_set ?_ wnA | with_reducible refine old_ab (by assumption) ?_)))
      have B3 : Ab w2 (w2.alloc (.cells #[.int .u8 (k3 : Int), .int .i64 n3, .slice A3 s3.length c3, .slice L3 l3.length d3] 26)) := abA
      have V3 := V2.ab B3
      have R3 := R2.ab B3
      have N3 := vl_one B2 (hx.ab B3) (by omega)
      clear B2
      go_wp2_with (refine list_ldV (o := ⟨some 9, _, _, _, _, _⟩) _ infoV Try.underlying26 rfl rfl _ rfl rfl V2 rfl ?_)
      refine (list_any _ 1 1 _).mono ?_
      rintro e w4 ⟨rfl, hb4⟩
      have ab4 := ab2.trans (B3.trans hb4)
      have V4 := V3.ab hb4
      have R4 := R3.ab hb4
      have N4 := N3.ab hb4
      clear V2 R2 hx ab2 B3 V3 R3 N3 hb4
      go_wp2_with (refine list_stV (o := ⟨none, _, _, _, _, _⟩) (us := VM.cells ⟨3, 0, none, [], 0, some ⟨w2.heap.size, 0, none⟩, [VM.v ⟨k3, n3, A3, s3, c3, L3, l3, d3⟩], 1⟩) _ infoV rfl _ _ rfl rfl rfl V4 rfl rfl rfl ?_; intro w5 h5)
      have R5 := h5.vb R4 (by omega)
      have V5 : VB w5 (w.heap.size + 1) (VM.cells ⟨3, 0, none, [], 0, some ⟨w2.heap.size, 0, none⟩, [VM.v ⟨k3, n3, A3, s3, c3, L3, l3, d3⟩], 1⟩) := h5.v
      have N5 := N4.keep (w' := w5) (fun g hg hl => h5.blk g (by omega))
      have ab5 := h5.ab w ab4 (by omega)
      clear h5 V4 R4 N4 ab4
      (try rw [show ∀ (a : Act) (v : Value), a.put none v = a from fun _ _ => rfl])
      go_roundw
      case rel => exact ⟨k + 1, _, by omega, by go_num, V5, R5, Lib.hid (by show V.mk 3 0 [] [VM.v ⟨k3, n3, A3, s3, c3, L3, l3, d3⟩] = Codec.deepV (k + 1); rw [hv.out]; rfl), N5, ab5⟩
      case measure => simp [intOf]; omega
    · have hki : ¬ 1 < (n : Int) + 1 - (k : Int) := by omega
      obtain rfl : k = n := by omega
      go_wp2_with (first
        | (refine list_ldV (o := ⟨some 12, _, _, _, _, _⟩) _ infoV Try.underlying26 rfl rfl _ rfl rfl V2 rfl ?_)
        | (refine list_stV (o := ⟨none, _, _, _, _, _⟩) (us := x.cells) _ infoV rfl _ _ rfl rfl rfl R2 rfl rfl x.one ?_; intro w9 h9))
      refine bodyPost_ret (res_V1 _ infoV Try.underlying26 rfl Try.results10 _ rfl h9.v rfl) rfl ?_
      exact ⟨x, rfl, hv, VL.mono (fun g hg => by omega) (hx.keep (w' := w9) (fun g hg hl => h9.blk g (by omega))), h9.ab w ab2 (Nat.le_refl _)⟩
end Go.Proofs.Ytmdjdcllehaphaa
