/- The statements' own functions, walked: values made, examples, fit. Own work. -/
import Derived.Test.YtmdjdcllehaphaaCvRefC
import Derived.Test.YtmdjdcllehaphaaCvRefF
set_option linter.unusedVariables false
set_option linter.unusedSimpArgs false
namespace Go.Proofs.Ytmdjdcllehaphaa
open Go.RowKit
open Codec (V)

/-- A guarded load of a whole variable that comes. -/
theorem list_ldG7 {ops : Array Oper} {rest : List Oper} {o : Oper} {a : Act} {w : World} {b : Nat} {vs : List Value} {Q : Exit → Act → World → Prop} (T : TypeId) {n : Nat} {d : TypeDesc} (hT : (Try.prog.info? T).map (·.size) = some n) (hu : Try.prog.underlying T = some d) (hd : d.isRow = true) (hw : Region.wanted o (yielded ops a.tmps) = true) (x : Operand) (ho : o.op = .load T x) (hx : a.eval x = .pointer (some ⟨b, 0, none⟩)) (hv : VB w b vs) (hl : vs.length = n)
    (h : wpList Try.prog ops Q rest (a.put o.dst (.agg vs.toArray)) w) : wpList Try.prog ops Q (o :: rest) a w :=
  wpList_step fun K hK => by
    rw [if_pos hw]
    exact wp_load_mid _ x ho b 0 hx vs _ hv.range hu hd (by rw [hT, hl]) (hK _ _ h)
set_option maxRecDepth 100000 in
theorem number_any (n : Int) (w : World) : Calls Try.prog 5 #[.int .i64 n] w fun e w' => e = .returned (VM.val ⟨1, n, none, [], 0, none, [], 0⟩) ∧ Ab w w' := by
  go_enter Try.func5, Try.ntmps5
  have Y0 : VB (w.alloc (.cells VM.zero.cells.toArray 26)) w.heap.size VM.zero.cells := VB.box (xs := VM.zero.cells.toArray) (T := 26) (by (repeat (first | exact new_plain wnA | with_reducible refine old_alloc ?_ | with_reducible refine old_drew ?_ | with_reducible refine old_set ?_ wnA | with_reducible refine old_ab (by assumption) ?_)))
  go_wp2_with (refine list_stV (o := ⟨none, _, _, _, _, _⟩) (us := [.int .u8 1, .int .i64 n, .slice none 0 0, .slice none 0 0]) _ infoV rfl _ _ rfl rfl rfl Y0 rfl rfl rfl ?_; intro w9 h9)
  refine bodyPost_ret (res_V1 _ infoV Try.underlying26 rfl Try.results5 _ rfl h9.v rfl) rfl ?_
  exact ⟨rfl, h9.ab w abA (Nat.le_refl _)⟩
set_option maxRecDepth 100000 in
theorem list_any (L : Option Addr) (n c : Nat) (w : World) : Calls Try.prog 13 #[.slice L n c] w fun e w' => e = .returned (.agg #[.int .u8 3, .int .i64 0, .slice none 0 0, .slice L n c]) ∧ Ab w w' := by
  go_enter Try.func13, Try.ntmps13
  have Y0 : VB (w.alloc (.cells VM.zero.cells.toArray 26)) w.heap.size VM.zero.cells := VB.box (xs := VM.zero.cells.toArray) (T := 26) (by (repeat (first | exact new_plain wnA | with_reducible refine old_alloc ?_ | with_reducible refine old_drew ?_ | with_reducible refine old_set ?_ wnA | with_reducible refine old_ab (by assumption) ?_)))
  go_wp2_with (refine list_stV (o := ⟨none, _, _, _, _, _⟩) (us := [.int .u8 3, .int .i64 0, .slice none 0 0, .slice L n c]) _ infoV rfl _ _ rfl rfl rfl Y0 rfl rfl rfl ?_; intro w9 h9)
  refine bodyPost_ret (res_V1 _ infoV Try.underlying26 rfl Try.results13 _ rfl h9.v rfl) rfl ?_
  exact ⟨rfl, h9.ab w abA (Nat.le_refl _)⟩
set_option maxRecDepth 100000 in
theorem text_any (A : Option Addr) (l : List UInt8) (c : Nat) (w : World) (hb : RB w 0 A l) (hc : l.length ≤ c) (ll : l.length ≤ 1000000) :
    Calls Try.prog 12 #[.slice A l.length c] w fun e w' => ∃ (A' : Option Addr) (c' : Nat), e = .returned (VM.val ⟨2, 0, A', l, c', none, [], 0⟩) ∧ VL 1 w' (fun _ => True) ⟨2, 0, A', l, c', none, [], 0⟩ ∧ Ab w w' := by
  go_enter Try.func12, Try.ntmps12
  have Y0 : VB (w.alloc (.cells VM.zero.cells.toArray 26)) w.heap.size VM.zero.cells := VB.box (xs := VM.zero.cells.toArray) (T := 26) (by (repeat (first | exact new_plain wnA | with_reducible refine old_alloc ?_ | with_reducible refine old_drew ?_ | with_reducible refine old_set ?_ wnA | with_reducible refine old_ab (by assumption) ?_)))
  have Y1 := Y0.ab (show Ab _ ((w.alloc (.cells VM.zero.cells.toArray 26)).alloc (.cells #[] 5)) from abA)
  go_wp2_with (first
    | ((at_builtin
        refine listLit rfl _ _ rfl rfl rfl (m := l) rfl (by (repeat (first | exact new_plain wnA | with_reducible refine old_alloc ?_ | with_reducible refine old_drew ?_ | with_reducible refine old_set ?_ wnA | with_reducible refine old_ab (by assumption) ?_))) (RB.ab hb (show Ab w _ from abA)) hc (by omega) ?_
        intro A1 d1 w1 L1 e1 b1 o1
        have oA := o1 (w.heap.size + 1) (by simp) (by simp)
        have ab1 : Ab w w1 := Ab.trans (by exact abA) b1
        have YA := Y1.ab b1
        clear o1))
    | (refine list_stV (o := ⟨none, _, _, _, _, _⟩) (us := [.int .u8 2, .int .i64 0, .slice A1 L1.length d1, .slice none 0 0]) _ infoV rfl _ _ rfl rfl rfl YA rfl rfl rfl ?_; intro w9 h9))
  refine bodyPost_ret (res_V1 _ infoV Try.underlying26 rfl Try.results12 _ rfl h9.v rfl) rfl ?_
  have hl1 : L1 = l := e1.out
  subst hl1
  refine ⟨A1, d1, rfl, ⟨⟨by simp, by simp, by simp, oA.le, by show L1.length ≤ _; omega, by simp, by simp⟩, ?_, fun h => absurd h (by simp)⟩, h9.ab w ab1 (Nat.le_refl _)⟩
  exact RS.mono' (fun _ _ => trivial) ((oA.rb.rs (S := fun g => w.heap.size + 1 ≤ g) (fun g h => h)).keep (w' := w9) fun g hg hl => h9.blk g (by omega))
set_option maxRecDepth 100000 in
set_option maxHeartbeats 1000000 in
theorem is_any (D : Nat) (S : Nat → Prop) (x : VM) (A : Option Addr) (m : List UInt8) (c : Nat) (w : World) (hx : VL D w S x) (hb : RB w 0 A m) (hc : m.length ≤ c) (ll : m.length ≤ 1000) (hk : Codec.kinds 6 x.v = true) (he : Codec.enc 6 x.v = m) :
    Calls Try.prog 4 #[x.val, .slice A m.length c] w (RetTrue w) := by
  have hf : Fits x.v := fun _ => by rw [he]; omega
  have hcz : Codec.check x.v = 0 := by unfold Codec.check; rw [hk, he, if_neg (by simp), if_neg (by omega)]
  have hen : Codec.encode x.v = (m, 0) := by unfold Codec.encode; rw [hcz, he]; rfl
  have hde : Codec.decode m = (x.v, 0) := by rw [← he]; exact Codec.decode_enc hcz (wf_kinds 6 D _ hk hx.wf)
  have HE := Lib.hid hen
  have HD := Lib.hid hde
  have HX := Lib.hid hx
  have HI := fun w' (hk' : Ab w w') => encode_any D S x w' (hx.ab hk') hf
  have HN := fun w' (hk' : Ab w w') => decode_any A m c w' (hb.ab hk') hc (by omega)
  have HB := Lib.hid hb
  clear hen hde hcz hf hk he hx hb
  obtain ⟨k1, n1, A1, s1, c1, L1, l1, d1⟩ := x
  unfold VM.val VM.cells at HI ⊢
  have V0 : VB (w.alloc (.cells #[.int .u8 (k1 : Int), .int .i64 n1, .slice A1 s1.length c1, .slice L1 l1.length d1] 26)) w.heap.size [.int .u8 (k1 : Int), .int .i64 n1, .slice A1 s1.length c1, .slice L1 l1.length d1] := VB.box (xs := #[.int .u8 (k1 : Int), .int .i64 n1, .slice A1 s1.length c1, .slice L1 l1.length d1]) (T := 26) (by (repeat (first | exact new_plain wnA | with_reducible refine old_alloc ?_ | with_reducible refine old_drew ?_ | with_reducible refine old_set ?_ wnA | with_reducible refine old_ab (by assumption) ?_)))
  go_enter Try.func4, Try.ntmps4
  go_wp2_with fail
  refine (HI _ abA).mono ?_
  rintro e w2 ⟨A2, c2, L2, er2, rfl, h2, O2, hb2⟩
  obtain ⟨rfl, rfl⟩ := Prod.mk.inj (h2.out.symm.trans HE.out)
  have ab2 : Ab w w2 := Ab.trans abA hb2
  have V2 := V0.ab hb2
  clear V0 hb2 HI h2
  go_wp2_with fail
  refine (HN _ ab2).mono ?_
  rintro e w3 ⟨x3, er3, rfl, h3, v3, hb3⟩
  obtain ⟨e3, rfl⟩ := Prod.mk.inj (h3.out.symm.trans HD.out)
  have ab3 := ab2.trans hb3
  have V3 := V2.ab hb3
  have O3 := O2.keep hb3
  have hs3 := ab3.size
  have Z3 : VB (w3.alloc (.cells VM.zero.cells.toArray 26)) w3.heap.size VM.zero.cells := VB.box (xs := VM.zero.cells.toArray) (T := 26) (by (repeat (first | exact new_plain wnA | with_reducible refine old_alloc ?_ | with_reducible refine old_drew ?_ | with_reducible refine old_set ?_ wnA | with_reducible refine old_ab (by assumption) ?_)))
  clear V2 O2 hb3 HN h3
  go_upto_region 3 with (refine list_stV (o := ⟨none, _, _, _, _, _⟩) (us := x3.cells) _ infoV rfl _ _ rfl rfl rfl Z3 rfl rfl x3.one ?_; intro w4 h4)
  have b34 : Ab w3 w4 := h4.ab w3 ((Ab.refl _).alloc _) (Nat.le_refl _)
  have V4 : VB w4 w.heap.size _ := V3.ab b34
  have X4 : VB w4 w3.heap.size x3.cells := h4.v
  have q3 : VL 6 w4 (fun _ => True) x3 := VL.mono (fun _ _ => trivial) (v3.ab b34)
  have O4 := O3.keep b34
  have ab4 := ab3.trans b34
  clear h4 Z3 V3 v3 O3 b34
  have HS := sameBytes_all A2 A c2 c L2 L2 w4 O4.rb.zero (HB.out.ab ab4) (by omega) (by omega)
  rw [beq_self_eq_true] at HS
  go_wp2_with fail
  refine HS.mono ?_
  rintro e w5 ⟨rfl, n5, rfl⟩
  have V5 := V4.ab (show Ab w4 (w4.drewN n5) from abA)
  have X5 := X4.ab (show Ab w4 (w4.drewN n5) from abA)
  have q5 := q3.ab (show Ab w4 (w4.drewN n5) from abA)
  have ab5 : Ab w (w4.drewN n5) := ab4.drewN n5
  have HQ := same_any (max D 6) _ _ ⟨k1, n1, A1, s1, c1, L1, l1, d1⟩ x3 (w4.drewN n5) ((HX.out.ab ab5).le (Nat.le_max_left _ _)) (q5.le (Nat.le_max_right _ _))
  rw [e3, Codec.same_refl] at HQ
  unfold VM.val at HQ
  clear HS V4 X4 q3 O4 ab4
  go_wp2_with (first
    | (refine list_ldG7 (o := ⟨some 31, _, _, _, _, _⟩) _ infoV Try.underlying26 rfl (by kernel_rfl) _ rfl rfl V5 rfl ?_)
    | (refine list_ldG7 (o := ⟨some 32, _, _, _, _, _⟩) _ infoV Try.underlying26 rfl (by kernel_rfl) _ rfl rfl X5 rfl ?_))
  refine HQ.mono ?_
  rintro e w6 ⟨rfl, hb6⟩
  go_wp2
  go_ret
  exact ⟨rfl, ab5.trans hb6⟩
end Go.Proofs.Ytmdjdcllehaphaa
