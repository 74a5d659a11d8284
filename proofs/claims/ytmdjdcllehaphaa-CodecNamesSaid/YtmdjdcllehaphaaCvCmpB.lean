/- The codec's order of values, walked. Own work. -/
import Derived.Test.YtmdjdcllehaphaaCvCmpA
import Derived.Test.YtmdjdcllehaphaaCvFunF
import Derived.Test.YtmdjdcllehaphaaCvRefC
set_option linter.unusedVariables false
set_option linter.unusedSimpArgs false
namespace Go.Proofs.Ytmdjdcllehaphaa
open Go.RowKit
open Codec (V)

theorem lex_step {α : Type} (f : α → α → Int) (l m : List α) (k : Nat) (h : k < l.length) (h' : k < m.length) : Codec.lex f (l.drop k) (m.drop k) = if f l[k] m[k] ≠ 0 then f l[k] m[k] else Codec.lex f (l.drop (k + 1)) (m.drop (k + 1)) := by
  rw [List.drop_eq_getElem_cons h, List.drop_eq_getElem_cons h', Codec.lex]
theorem lex_gt {α : Type} (f : α → α → Int) (l m : List α) (k : Nat) (h : k < l.length) (h' : m.length ≤ k) : Codec.lex f (l.drop k) (m.drop k) = 1 := by
  rw [List.drop_eq_getElem_cons h, List.drop_eq_nil_of_le h', Codec.lex]
theorem lex_lt {α : Type} (f : α → α → Int) (l m : List α) (k : Nat) (h : l.length ≤ k) (h' : k < m.length) : Codec.lex f (l.drop k) (m.drop k) = -1 := by
  rw [List.drop_eq_getElem_cons h', List.drop_eq_nil_of_le h, Codec.lex]
theorem lex_eq {α : Type} (f : α → α → Int) (l m : List α) (k : Nat) (h : l.length ≤ k) (h' : m.length ≤ k) : Codec.lex f (l.drop k) (m.drop k) = 0 := by
  rw [List.drop_eq_nil_of_le h, List.drop_eq_nil_of_le h', Codec.lex]
theorem orL4 (a b c d : Int) : orL [a, b, c, d] = if a ≠ 0 then a else if b ≠ 0 then b else if c ≠ 0 then c else d := by
  unfold orL orL orL orL orL
  have : (if d ≠ 0 then d else 0) = d := by split <;> omega
  rw [this]
/-- What the order returns of values at most d deep. -/
def Vo (d : Nat) : Prop := ∀ (S S' : Nat → Prop) (x y : VM) (w : World), VL d w S x → VL d w S' y → Calls Try.prog 22 #[x.val, y.val] w fun e w' => e = .returned (.int .i64 (Codec.order d x.v y.v)) ∧ Ab w w'
theorem Vo.out {d : Nat} (h : Vo d) {S S' : Nat → Prop} {x y : VM} {w : World} (hx : VL d w S x) (hy : VL d w S' y) : Calls Try.prog 22 #[x.val, y.val] w fun e w' => e = .returned (.int .i64 (Codec.order d x.v y.v)) ∧ Ab w w' := h S S' x y w hx hy
set_option maxRecDepth 100000 in
set_option maxHeartbeats 4000000 in
theorem vcmpf_any (d : Nat) (hV : Vo d) (S S' : Nat → Prop) (A B : Option Addr) (l m : List V) (c e : Nat) (w : World) (hl : VLs d w S A l) (hm : VLs d w S' B m) (ll : l.length ≤ 9223372036854775807) (lm : m.length ≤ 9223372036854775807) :
    Calls Try.prog 37 #[.slice A l.length c, .slice B m.length e, .func (.func 22) #[] #[]] w fun r w' => r = .returned (.int .i64 (Codec.lex (Codec.order d) l m)) ∧ Ab w w' := by
  have HV := Lib.hid hV
  have HL := Lib.hid hl
  have HM := Lib.hid hm
  clear hV hl hm
  go_enter Try.func37, Try.ntmps37
  go_wp2
  go_loopw [13] (fun i w' => ∃ k : Nat, k ≤ l.length ∧ k ≤ m.length ∧ i = .int .i64 (k : Int) ∧ Ab w w' ∧ Hid (Codec.lex (Codec.order d) l m = Codec.lex (Codec.order d) (l.drop k) (m.drop k))) (fun i _ => l.length - (intOf i).toNat)
  case atStart => exact ⟨0, Nat.zero_le _, Nat.zero_le _, rfl, Ab.refl _, rfl⟩
  case round =>
    obtain ⟨k, hk, hk2, rfl, hb, hq⟩ := hrel
    rename World => w1
    by_cases hlt : k < l.length
    · obtain ⟨p, ⟨k3, n3, A3, s3, c3, L3, l3, d3⟩, rfl, yv, yl, p0, p1, p2, p3⟩ := HL.out.at4 hlt
      replace p0 := hb.at p0
      replace p1 := hb.at p1
      replace p2 := hb.at p2
      replace p3 := hb.at p3
      have hki : (k : Int) < (l.length : Int) := by omega
      have HY := Lib.hid yv
      have YL := Lib.hid yl
      have Z1 : VB (w1.alloc (.cells VM.zero.cells.toArray 26)) w1.heap.size VM.zero.cells := VB.box (xs := VM.zero.cells.toArray) (T := 26) (by (repeat (first | exact new_plain wnA | with_reducible refine old_alloc ?_ | with_reducible refine old_drew ?_ | with_reducible refine old_set ?_ wnA | with_reducible refine old_ab (by assumption) ?_)))
      clear yv yl
      dsimp only at p0 p1 p2 p3
      go_upto_region 4 with (refine list_stV (o := ⟨none, _, _, _, _, _⟩) (us := VM.cells ⟨k3, n3, A3, s3, c3, L3, l3, d3⟩) _ infoV rfl _ _ rfl rfl rfl Z1 rfl rfl rfl ?_; intro w2 h2)
      have b2 : Ab w1 w2 := h2.ab w1 ((Ab.refl _).alloc _) (Nat.le_refl _)
      have V2 : VB w2 w1.heap.size (VM.cells ⟨k3, n3, A3, s3, c3, L3, l3, d3⟩) := h2.v
      have ab2 := hb.trans b2
      clear h2 Z1 p0 p1 p2 p3 b2
      by_cases hlm : k < m.length
      · obtain ⟨r, ⟨k4, n4, A4, s4, c4, L4, l4, d4⟩, rfl, yv, yl, p0, p1, p2, p3⟩ := HM.out.at4 hlm
        replace p0 := ab2.at p0
        replace p1 := ab2.at p1
        replace p2 := ab2.at p2
        replace p3 := ab2.at p3
        have hkm : ¬ (m.length : Int) ≤ (k : Int) := by omega
        have HY2 := Lib.hid yv
        have YL2 := Lib.hid yl
        have Z2 : VB (w2.alloc (.cells VM.zero.cells.toArray 26)) w2.heap.size VM.zero.cells := VB.box (xs := VM.zero.cells.toArray) (T := 26) (by (repeat (first | exact new_plain wnA | with_reducible refine old_alloc ?_ | with_reducible refine old_drew ?_ | with_reducible refine old_set ?_ wnA | with_reducible refine old_ab (by assumption) ?_)))
        have HS : Hid (Codec.lex (Codec.order d) l m = if Codec.order d (VM.v ⟨k3, n3, A3, s3, c3, L3, l3, d3⟩) (VM.v ⟨k4, n4, A4, s4, c4, L4, l4, d4⟩) ≠ 0 then Codec.order d (VM.v ⟨k3, n3, A3, s3, c3, L3, l3, d3⟩) (VM.v ⟨k4, n4, A4, s4, c4, L4, l4, d4⟩) else Codec.lex (Codec.order d) (l.drop (k + 1)) (m.drop (k + 1))) := by
          unfold Hid
          rw [hq.out, lex_step _ _ _ _ hlt hlm, HY.out, HY2.out]
        clear yv yl
        dsimp only at p0 p1 p2 p3
        go_upto_region 7 with (refine list_stV (o := ⟨none, _, _, _, _, _⟩) (us := VM.cells ⟨k4, n4, A4, s4, c4, L4, l4, d4⟩) _ infoV rfl _ _ rfl rfl rfl Z2 rfl rfl rfl ?_; intro w3 h3)
        have b3 : Ab w2 w3 := h3.ab w2 ((Ab.refl _).alloc _) (Nat.le_refl _)
        have V3 : VB w3 w2.heap.size (VM.cells ⟨k4, n4, A4, s4, c4, L4, l4, d4⟩) := h3.v
        have ab3 := ab2.trans b3
        have U3 := V2.ab b3
        have HC := HV.out.out (YL.out.ab ab3) (YL2.out.ab ab3)
        unfold VM.val at HC
        clear h3 Z2 p0 p1 p2 p3 b3 V2
        go_wp2_with (first
          | (refine list_ldV (o := ⟨some 27, _, _, _, _, _⟩) _ infoV Try.underlying26 rfl rfl _ rfl rfl U3 rfl ?_)
          | (refine list_ldV (o := ⟨some 28, _, _, _, _, _⟩) _ infoV Try.underlying26 rfl rfl _ rfl rfl V3 rfl ?_))
        refine HC.mono ?_
        rintro e w4 ⟨rfl, hb4⟩
        have ab4 := ab3.trans hb4
        obtain ⟨z, hz⟩ : ∃ z, z = Codec.order d (VM.v ⟨k3, n3, A3, s3, c3, L3, l3, d3⟩) (VM.v ⟨k4, n4, A4, s4, c4, L4, l4, d4⟩) := ⟨_, rfl⟩
        rw [← hz] at HS ⊢
        clear hz HC
        by_cases h0 : z = 0
        · have h0' : (z != 0) = false := by rw [bne_eq_false_iff_eq]; exact h0
          have HR : Hid (Codec.lex (Codec.order d) l m = Codec.lex (Codec.order d) (l.drop (k + 1)) (m.drop (k + 1))) := by unfold Hid; rw [HS.out, if_neg (fun h => h h0)]
          clear h0 HS
          go_wp2
          go_roundw
          case rel => exact ⟨k + 1, by omega, by omega, by go_num, ab4, HR⟩
          case measure => simp [intOf]; omega
        · have h0' : (z != 0) = true := by rw [bne_iff_ne]; exact h0
          have HR : Hid (Codec.lex (Codec.order d) l m = z) := by unfold Hid; rw [HS.out, if_pos h0]
          clear h0 HS
          go_wp2
          go_ret
          exact ⟨by rw [HR.out]; (try rfl), ab4⟩
      · have hkm : (m.length : Int) ≤ (k : Int) := by omega
        have HR : Hid (Codec.lex (Codec.order d) l m = 1) := by unfold Hid; rw [hq.out, lex_gt _ _ _ _ hlt (by omega)]
        go_wp2
        go_ret
        exact ⟨by rw [HR.out]; (try rfl), ab2⟩
    · have hki : ¬ (k : Int) < (l.length : Int) := by omega
      by_cases hlm : l.length < m.length
      · have hlm' : (l.length : Int) < (m.length : Int) := by omega
        have HR : Hid (Codec.lex (Codec.order d) l m = -1) := by unfold Hid; rw [hq.out, lex_lt _ _ _ _ (by omega) (by omega)]
        go_wp2
        go_ret
        exact ⟨by rw [HR.out]; (try rfl), hb⟩
      · have hlm' : ¬ (l.length : Int) < (m.length : Int) := by omega
        have HR : Hid (Codec.lex (Codec.order d) l m = 0) := by unfold Hid; rw [hq.out, lex_eq _ _ _ _ (by omega) (by omega)]
        go_wp2
        go_ret
        exact ⟨by rw [HR.out]; (try rfl), hb⟩
set_option maxRecDepth 100000 in
set_option maxHeartbeats 4000000 in
theorem vorder_of (d : Nat) (hV : Vo d) : Vo (d + 1) := by
  intro S S' x y w hx hy
  obtain ⟨k1, n1, A1, s1, c1, L1, l1, d1⟩ := x
  obtain ⟨k2, n2, A2, s2, c2, L2, l2, d2⟩ := y
  have hsx := hx.bytes.rb
  have hsy := hy.bytes.rb
  have ml1 : l1.length ≤ 9223372036854775807 := hx.1.2.2.2.2.2.2
  have ml2 : l2.length ≤ 9223372036854775807 := hy.1.2.2.2.2.2.2
  have ex := hx.els
  have ey := hy.els
  have HS : Hid (Codec.order (d + 1) (VM.v ⟨k1, n1, A1, s1, c1, L1, l1, d1⟩) (VM.v ⟨k2, n2, A2, s2, c2, L2, l2, d2⟩) = orL [Codec.three (k1 : Int) (k2 : Int), Codec.three n1 n2, Codec.lex Codec.threeB s1 s2, Codec.lex (Codec.order d) l1 l2]) := by
    unfold Hid; rw [orL4]; rfl
  clear hx hy
  have hab : Ab w ((w.alloc (.cells #[.int .u8 (k1 : Int), .int .i64 n1, .slice A1 s1.length c1, .slice L1 l1.length d1] 26)).alloc (.cells #[.int .u8 (k2 : Int), .int .i64 n2, .slice A2 s2.length c2, .slice L2 l2.length d2] 26)) := abA
  have V1 : VB ((w.alloc (.cells #[.int .u8 (k1 : Int), .int .i64 n1, .slice A1 s1.length c1, .slice L1 l1.length d1] 26)).alloc (.cells #[.int .u8 (k2 : Int), .int .i64 n2, .slice A2 s2.length c2, .slice L2 l2.length d2] 26)) w.heap.size [.int .u8 (k1 : Int), .int .i64 n1, .slice A1 s1.length c1, .slice L1 l1.length d1] := VB.box (xs := #[.int .u8 (k1 : Int), .int .i64 n1, .slice A1 s1.length c1, .slice L1 l1.length d1]) (T := 26) (by (repeat (first | exact new_plain wnA | with_reducible refine old_alloc ?_ | with_reducible refine old_drew ?_ | with_reducible refine old_set ?_ wnA | with_reducible refine old_ab (by assumption) ?_)))
  have V2 : VB ((w.alloc (.cells #[.int .u8 (k1 : Int), .int .i64 n1, .slice A1 s1.length c1, .slice L1 l1.length d1] 26)).alloc (.cells #[.int .u8 (k2 : Int), .int .i64 n2, .slice A2 s2.length c2, .slice L2 l2.length d2] 26)) (w.heap.size + 1) [.int .u8 (k2 : Int), .int .i64 n2, .slice A2 s2.length c2, .slice L2 l2.length d2] := VB.box (xs := #[.int .u8 (k2 : Int), .int .i64 n2, .slice A2 s2.length c2, .slice L2 l2.length d2]) (T := 26) (by (repeat (first | exact new_plain wnA | with_reducible refine old_alloc ?_ | with_reducible refine old_drew ?_ | with_reducible refine old_set ?_ wnA | with_reducible refine old_ab (by assumption) ?_)))
  unfold VM.val VM.cells
  go_enter Try.func22, Try.ntmps22
  go_upto_region 1 with fail
  generalize ((w.alloc (.cells #[.int .u8 (k1 : Int), .int .i64 n1, .slice A1 s1.length c1, .slice L1 l1.length d1] 26)).alloc (.cells #[.int .u8 (k2 : Int), .int .i64 n2, .slice A2 s2.length c2, .slice L2 l2.length d2] 26)) = w0 at *
  generalize w.heap.size = b1 at *
  generalize b1 + 1 = b2 at *
  have a0 := V1.at 0 rfl
  have a1 := V1.at 1 rfl
  have a2 := V1.at 2 rfl
  have a3 := V1.at 3 rfl
  have e0 := V2.at 0 rfl
  have e1 := V2.at 1 rfl
  have e2 := V2.at 2 rfl
  have e3 := V2.at 3 rfl
  have BX := Lib.hid (fun w' (hk : Ab w0 w') => bcmp_any A1 A2 s1 s2 c1 c2 w' (RB.ab (RB.ab hsx hab) hk) (RB.ab (RB.ab hsy hab) hk))
  have CX := Lib.hid (fun w' (hk : Ab w0 w') => vcmpf_any d hV S S' L1 L2 l1 l2 d1 d2 w' (ex.keep (fun g _ hg => (hab.trans hk).out.block g hg)) (ey.keep (fun g _ hg => (hab.trans hk).out.block g hg)) ml1 ml2)
  clear ex ey hsx hsy V1 V2 hV
  refine wp_region_held_drew (by kernel_rfl) (S := fun w' => Ab w0 w') ?_ (fun hHeld => ?_)
  · exact (Ab.refl w0).drew
  (refine rtA 0 ?_ ?_
   (try simp only [Act.put, stA, st0, st1]))
  (refine rtA 1 ?_ ?_ (hy := by intro w hSw; have hS1 : Ab w0 w := hSw; have z0 := hS1.at a0; go_simp; (try with_reducible rfl)); (try simp only [Act.put, stA, st0, st1]))
  (refine rtA 2 ?_ ?_
   (try simp only [Act.put, stA, st0, st1]))
  (refine rtA 3 ?_ ?_ (hy := by intro w hSw; have hS1 : Ab w0 w := hSw; have z0 := hS1.at e0; go_simp; (try with_reducible rfl)); (try simp only [Act.put, stA, st0, st1]))
  (refine rtA 5 ?_ ?_
   (try simp only [Act.put, stA, st0, st1]))
  (refine rtA 6 ?_ ?_ (hy := by intro w hSw; have hS1 : Ab w0 w := hSw; have z0 := hS1.at a1; go_simp; (try with_reducible rfl)); (try simp only [Act.put, stA, st0, st1]))
  (refine rtA 7 ?_ ?_
   (try simp only [Act.put, stA, st0, st1]))
  (refine rtA 8 ?_ ?_ (hy := by intro w hSw; have hS1 : Ab w0 w := hSw; have z0 := hS1.at e1; go_simp; (try with_reducible rfl)); (try simp only [Act.put, stA, st0, st1]))
  (refine rtA 10 ?_ ?_
   (try simp only [Act.put, stA, st0, st1]))
  (refine rtA 11 ?_ ?_ (hy := by intro w hSw; have hS1 : Ab w0 w := hSw; have z0 := hS1.at a2; go_simp; (try with_reducible rfl)); (try simp only [Act.put, stA, st0, st1]))
  (refine rtA 12 ?_ ?_
   (try simp only [Act.put, stA, st0, st1]))
  (refine rtA 13 ?_ ?_ (hy := by intro w hSw; have hS1 : Ab w0 w := hSw; have z0 := hS1.at e2; go_simp; (try with_reducible rfl)); (try simp only [Act.put, stA, st0, st1]))
  (refine rtA 15 ?_ ?_
   (try simp only [Act.put, stA, st0, st1]))
  (refine rtA 16 ?_ ?_ (hy := by intro w hSw; have hS1 : Ab w0 w := hSw; have z0 := hS1.at a3; go_simp; (try with_reducible rfl)); (try simp only [Act.put, stA, st0, st1]))
  (refine rtA 17 ?_ ?_
   (try simp only [Act.put, stA, st0, st1]))
  (refine rtA 18 ?_ ?_ (hy := by intro w hSw; have hS1 : Ab w0 w := hSw; have z0 := hS1.at e3; go_simp; (try with_reducible rfl)); (try simp only [Act.put, stA, st0, st1]))
  refine r1A 4 (fun K hK => ?_)
  (go_simp
   (refine (cmp8 _ _ _).mono ?_; rintro e w4 ⟨rfl, rfl⟩)
   (try go_wp2_with fail)
   (refine hK.out _ _ ?_ (fun hHeld => ?_)
    · (try dsimp only); (exact abA)
    clear hK K
    (try simp only [Act.put, stA, st0, st1])))
  refine r1A 9 (fun K hK => ?_)
  (go_simp
   (refine (cmp64 _ _ _).mono ?_; rintro e w5 ⟨rfl, rfl⟩)
   (try go_wp2_with fail)
   (refine hK.out _ _ ?_ (fun hHeld => ?_)
    · (try dsimp only); (exact abA)
    clear hK K
    (try simp only [Act.put, stA, st0, st1])))
  refine r1A 14 (fun K hK => ?_)
  (go_simp
   (refine (BX.out _ abA).mono ?_; rintro e w6 ⟨rfl, rfl⟩)
   (try go_wp2_with fail)
   (refine hK.out _ _ ?_ (fun hHeld => ?_)
    · (try dsimp only); (exact abA)
    clear hK K
    (try simp only [Act.put, stA, st0, st1])))
  refine r1A 19 (fun K hK => ?_)
  (go_simp
   (refine (CX.out _ abA).mono ?_; rintro e w7 ⟨rfl, hb7⟩)
   (try go_wp2_with fail)
   (refine hK.out _ _ ?_ (fun hHeld => ?_)
    · (try dsimp only); (exact Ab.trans abA hb7)
    clear hK K
    (try simp only [Act.put, stA, st0, st1])))
  (try dsimp only)
  refine r1A 20 (fun K hK => ?_)
  (go_simp
   (refine hK.out _ _ ?_ (fun hHeld => ?_)
    · (try dsimp only); (exact Ab.trans abA (Ab.alloc hb7 _))
    clear hK K
    (try simp only [Act.put, stA, st0, st1])))
  generalize hW : w7.alloc (.cells #[.int .i64 (Codec.three (k1 : Int) (k2 : Int)), .int .i64 (Codec.three n1 n2), .int .i64 (Codec.lex Codec.threeB s1 s2), .int .i64 (Codec.lex (Codec.order d) l1 l2)] 3) = w8 at *
  have Y8 : VB w8 w7.heap.size [.int .i64 (Codec.three (k1 : Int) (k2 : Int)), .int .i64 (Codec.three n1 n2), .int .i64 (Codec.lex Codec.threeB s1 s2), .int .i64 (Codec.lex (Codec.order d) l1 l2)] := by
    rw [← hW]
    exact VB.box (xs := #[.int .i64 (Codec.three (k1 : Int) (k2 : Int)), .int .i64 (Codec.three n1 n2), .int .i64 (Codec.lex Codec.threeB s1 s2), .int .i64 (Codec.lex (Codec.order d) l1 l2)]) (T := 3) (by (repeat (first | exact new_plain wnA | with_reducible refine old_alloc ?_ | with_reducible refine old_drew ?_ | with_reducible refine old_set ?_ wnA | with_reducible refine old_ab (by assumption) ?_)))
  have OX := cmpOr_any ⟨w7.heap.size, 0, none⟩ [Codec.three (k1 : Int) (k2 : Int), Codec.three n1 n2, Codec.lex Codec.threeB s1 s2, Codec.lex (Codec.order d) l1 l2] 4 w8 (by simp) (fun k hk => by
    have h4 : k < 4 := hk
    match k, h4 with
    | 0, _ => exact Y8.at 0 rfl
    | 1, _ => exact Y8.at 1 rfl
    | 2, _ => exact Y8.at 2 rfl
    | 3, _ => exact Y8.at 3 rfl)
  rw [← HS.out] at OX
  clear Y8 hW BX CX
  refine r1A 21 (fun K hK => ?_)
  (go_simp
   (refine OX.mono ?_; rintro e w9 ⟨rfl, hb9⟩)
   (try go_wp2_with fail)
   (refine hK.out _ _ ?_ (fun hHeld => ?_)
    · (try dsimp only); (exact Ab.trans (by assumption) hb9)
    clear hK K
    (try simp only [Act.put, stA, st0, st1])))
  refine r1A 22 (fun K hK => ?_)
  (go_simp
   (refine hK.out _ _ ?_ (fun hHeld => ?_)
    · (try dsimp only); (assumption)
    clear hK K
    (try simp only [Act.put, stA, st0, st1])))
  refine wpAnyH_done (by kernel_rfl) ?_ _
  go_wp2_with fail
  go_ret
  exact ⟨rfl, hab.trans abA⟩
theorem vorder_any : ∀ d, Vo d := by
  intro d
  induction d with
  | zero => intro S S' x y w hx; exact hx.elim
  | succ d ih => exact vorder_of d ih
end Go.Proofs.Ytmdjdcllehaphaa
