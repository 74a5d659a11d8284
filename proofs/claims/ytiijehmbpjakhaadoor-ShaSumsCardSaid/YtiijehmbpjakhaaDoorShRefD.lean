/- The reference of layer 8: all whole blocks, the digest of bytes. Own work. -/
import Derived.Test.YtiijehmbpjakhaaDoorShRefC
set_option linter.unusedVariables false
set_option linter.unusedSimpArgs false
namespace Go.Proofs.YtiijehmbpjakhaaDoor
open Go.RowKit

set_option maxRecDepth 100000 in
set_option maxHeartbeats 1000000 in
theorem rafter_any (h : Sha.W8) (A : Option Addr) (l : List UInt8) (c : Nat) (w : World) (hb : RB w 0 A l) (hc : l.length ≤ c) (hl : l.length ≤ 2000000) :
    Calls Tryd.prog 23 #[.agg (w8 h).toArray, .slice A l.length c] w fun e w' => e = .returned (.agg (w8 (Sha.after h l)).toArray) ∧ Ab w w' := by
  have HA : Hid (Sha.after h l = Sha.afterN h l (l.length / 64)) := Lib.hid rfl
  go_enter Tryd.func23, Tryd.ntmps23
  go_upto_region 1 with fail
  have V0 : VB ((w.alloc (.cells (w8 h).toArray 24)).alloc (.cells #[.int .u32 0, .int .u32 0, .int .u32 0, .int .u32 0, .int .u32 0, .int .u32 0, .int .u32 0, .int .u32 0] 24)) w.heap.size (w8 h) := VB.box (xs := (w8 h).toArray) (T := 24) (by (repeat (first | exact new_plain wnA | with_reducible refine old_alloc ?_ | with_reducible refine old_drew ?_ | with_reducible refine old_set ?_ wnA | with_reducible refine old_ab (by assumption) ?_)))
  have Z0 : VB ((w.alloc (.cells (w8 h).toArray 24)).alloc (.cells #[.int .u32 0, .int .u32 0, .int .u32 0, .int .u32 0, .int .u32 0, .int .u32 0, .int .u32 0, .int .u32 0] 24)) (w.heap.size + 1) [.int .u32 0, .int .u32 0, .int .u32 0, .int .u32 0, .int .u32 0, .int .u32 0, .int .u32 0, .int .u32 0] := VB.box (xs := #[.int .u32 0, .int .u32 0, .int .u32 0, .int .u32 0, .int .u32 0, .int .u32 0, .int .u32 0, .int .u32 0]) (T := 24) (by (repeat (first | exact new_plain wnA | with_reducible refine old_alloc ?_ | with_reducible refine old_drew ?_ | with_reducible refine old_set ?_ wnA | with_reducible refine old_ab (by assumption) ?_)))
  have hab0 : Ab w ((w.alloc (.cells (w8 h).toArray 24)).alloc (.cells #[.int .u32 0, .int .u32 0, .int .u32 0, .int .u32 0, .int .u32 0, .int .u32 0, .int .u32 0, .int .u32 0] 24)) := abA
  generalize ((w.alloc (.cells (w8 h).toArray 24)).alloc (.cells #[.int .u32 0, .int .u32 0, .int .u32 0, .int .u32 0, .int .u32 0, .int .u32 0, .int .u32 0, .int .u32 0] 24)) = w0 at *
  go_wp2
  go_loopw [5] (fun i w' => ∃ k : Nat, 64 * k ≤ l.length ∧ i = .int .i64 (64 * (k : Int)) ∧ Ab w w' ∧ VB w' w.heap.size (w8 (Sha.afterN h l k)) ∧ VB w' (w.heap.size + 1) [.int .u32 0, .int .u32 0, .int .u32 0, .int .u32 0, .int .u32 0, .int .u32 0, .int .u32 0, .int .u32 0]) (fun i _ => l.length + 64 - (intOf i).toNat)
  case atStart => exact ⟨0, by omega, rfl, hab0, V0, Z0⟩
  case round =>
    obtain ⟨k, hk, rfl, ha, hx, hz⟩ := hrel
    rename World => w1
    by_cases hlt : 64 * k + 64 ≤ l.length
    · have hT : 64 * (k : Int) + 64 ≤ (l.length : Int) := by omega
      have M : ∀ w0, (Instr.slice 22 (.slice A l.length c) (some (.int .i64 (64 * (k : Int)))) (some (.int .i64 (IntKind.i64.wrap (64 * (k : Int) + 64)))) none).run Tryd.prog w0 = .ok (.slice (cutA A c (64 * k)) 64 (c - 64 * k)) w0 := fun w0 => by
        have := run_cuts (64 * k) (64 * k + 64) .i64 .i64 A l.length c w0 (by omega) (by omega)
        rw [show 64 * k + 64 - 64 * k = 64 by omega] at this
        rw [show IntKind.i64.wrap (64 * (k : Int) + 64) = 64 * (k : Int) + 64 from IntWalk.i64_in _ (by omega)]
        exact_mod_cast this
      have HB : ∀ w', Ab w w' → RB w' 0 (cutA A c (64 * k)) (Sha.blk l k) := fun w' hk' => ((hb.ab hk').cut _ _ hc).take 64
      have hbl := Sha.blk_length l k (by omega)
      have HS : Hid (Sha.afterN h l (k + 1) = Sha.taken (Sha.afterN h l k) (Sha.blk l k)) := Lib.hid rfl
      generalize Sha.afterN h l k = s at *
      generalize Sha.blk l k = m at *
      have TK := fun w' (hk' : Ab w w') => taken_any s (cutA A c (64 * k)) m (c - 64 * k) w' (HB w' hk') (by omega) hbl
      rw [hbl] at TK
      go_upto_region 4 with fail
      refine wp_region_held_drew (by kernel_rfl) (S := fun _ => True) ?_ (fun hHeld => ?_)
      · trivial
      (refine rtA 1 ?_ ?_
       (try simp only [Act.put, stA, st0, st1]))
      (refine rtA 2 ?_ ?_
       (try simp only [Act.put, stA, st0, st1]))
      (refine rtA 3 ?_ ?_
       (try simp only [Act.put, stA, st0, st1]))
      (refine rtA 4 ?_ ?_
       (try simp only [Act.put, stA, st0, st1]))
      (refine rtA 5 ?_ ?_
       (try simp only [Act.put, stA, st0, st1]))
      refine r1A 0 (fun K hK => ?_)
      (try simp only [Act.put, List.getElem_toArray, List.getElem_cons_succ, List.getElem_cons_zero, stA, st0, st1])
      refine if_go (by rfl) ?_
      refine wp_load_mid _ _ rfl w.heap.size 0 rfl (w8 s) _ (VB.range (hx.ab abA)) Tryd.underlying24 rfl (by kernel_rfl) ?_
      (refine hK.out _ _ ?_ (fun hHeld => ?_)
       · (try dsimp only); all_goals trivial
       clear hK K
       (try simp only [Act.put, stA, st0, st1]))
      refine r1A 6 (fun K hK => ?_)
      (go_simp
       (refine (TK _ (ha.trans abA)).mono ?_; rintro e w2 ⟨rfl, hb2⟩)
       (try go_wp2_with fail)
       (refine hK.out _ _ ?_ (fun hHeld => ?_)
        · (try dsimp only); all_goals trivial
        clear hK K
        (try simp only [Act.put, stA, st0, st1])))
      have hb3 : Ab w1 w2 := Ab.trans (by exact abA) hb2
      refine r1A 7 (fun K hK => ?_)
      (try simp only [Act.put, List.getElem_toArray, List.getElem_cons_succ, List.getElem_cons_zero, stA, st0, st1])
      refine if_go (by rfl) ?_
      refine wp_stV (us := w8 (Sha.taken s m)) _ info8 _ _ rfl rfl rfl (hx.ab hb3) (w8_len _).symm (w8_len _) (w8_one _) ?_
      intro w9 h9
      (refine hK.out _ _ ?_ (fun hHeld => ?_)
       · (try dsimp only); all_goals trivial
       clear hK K
       (try simp only [Act.put, stA, st0, st1]))
      refine wpAnyH_done (by kernel_rfl) ?_ _
      go_wp2
      go_roundw
      case rel => exact ⟨k + 1, by omega, by go_num, h9.ab _ (ha.trans hb3) (Nat.le_refl _), by rw [HS.out]; exact h9.v, h9.vb (hz.ab hb3) (by omega)⟩
      case measure => simp [intOf] <;> omega
    · have e : k = l.length / 64 := by omega
      have hT : ¬ 64 * (k : Int) + 64 ≤ (l.length : Int) := by omega
      have HE := Lib.hid e
      clear e
      go_wp2_with (first
        | (refine list_ldV _ info8 Tryd.underlying24 rfl rfl _ rfl rfl hx (w8_len _) ?_)
        | (refine list_stV _ info8 rfl _ _ rfl rfl rfl hz rfl (w8_len _) (w8_one _) ?_
           intro w9 h9))
      refine bodyPost_ret (res_V1 _ info8 Tryd.underlying24 rfl Tryd.results23 _ rfl h9.v (w8_len _)) rfl ?_
      exact ⟨by rw [HA.out, ← HE.out], h9.ab _ ha (by omega)⟩
/-- What Of returns. -/
theorem rof_any (A : Option Addr) (l : List UInt8) (c : Nat) (w : World) (hb : RB w 0 A l) (hc : l.length ≤ c) (hl : l.length ≤ 1000000) :
    Calls Tryd.prog 14 #[.slice A l.length c] w fun e w' => e = .returned (.agg ((Sha.of l).map cb).toArray) ∧ Ab w w' := by
  have HO : Hid (Sha.of l = Sha.dig (Sha.after Sha.first (l ++ Sha.pad l.length))) := Lib.hid rfl
  have hpl := Sha.pad_length l.length
  have hzl := Sha.zeros_le l.length
  have PD := fun w' => rpadding_any l.length w' hl
  have DG := Lib.hid (fun h w' => rdigest_any h w')
  have AF := Lib.hid (fun (B : Option Addr) (m : List UInt8) (d : Nat) (w' : World) => rafter_any Sha.first B m d w')
  go_enter Tryd.func14, Tryd.ntmps14
  go_wp2_with fail
  have b0 : Ab w (w.alloc (.cells (List.replicate 32 (Value.int .u8 0)).toArray 26)) := abA
  have Z0 : VB (w.alloc (.cells (List.replicate 32 (Value.int .u8 0)).toArray 26)) w.heap.size (List.replicate 32 (.int .u8 0)) := VB.box (xs := (List.replicate 32 (Value.int .u8 0)).toArray) (T := 26) (by (repeat (first | exact new_plain wnA | with_reducible refine old_alloc ?_ | with_reducible refine old_drew ?_ | with_reducible refine old_set ?_ wnA | with_reducible refine old_ab (by assumption) ?_)))
  refine (first_any _).mono ?_
  rintro e w1 ⟨rfl, hb1⟩
  have b1 : Ab w w1 := b0.trans hb1
  have Z1 := Z0.ab hb1
  have s1 : w.heap.size + 1 ≤ w1.heap.size := by have := hb1.size; simpa using this
  clear hb1 Z0 b0
  go_wp2_with (first
    | ((at_builtin
        refine listLit (o := ⟨some 6, _, _, _, _, _⟩) rfl _ _ rfl rfl rfl (m := l) rfl (by (repeat (first | exact new_plain wnA | with_reducible refine old_alloc ?_ | with_reducible refine old_drew ?_ | with_reducible refine old_set ?_ wnA | with_reducible refine old_ab (by assumption) ?_))) (RB.ab hb (show Ab w (w1.alloc (.cells #[] 5)) from b1.trans abA)) hc (by omega) ?_
        intro A1 c1 w2 L1 e1 q1 p1)))
  have b2 : Ab w1 w2 := Ab.trans (by exact abA) q1
  have o1 := p1 w1.heap.size (Nat.le_refl _) (by simp)
  have hL1 : L1 = l := e1.out
  subst hL1
  clear p1 q1 e1
  refine (PD _).mono ?_
  rintro e w3 ⟨A2, c2, rfl, o2, hb3⟩
  have o3 := o1.keep hb3
  have z3 : w1.heap.size ≤ w3.heap.size := (b2.trans hb3).size
  have R2 := o2.rb.zero
  have l2 := o2.le
  rw [hpl] at l2
  go_wp2_with (first
    | ((at_builtin
        refine listApp (o := ⟨some 10, _, _, _, _, _⟩) rfl _ _ rfl rfl rfl (m := Sha.pad L1.length) hpl o3 z3 R2 (by rw [hpl]; exact l2) (by rw [hpl]; omega) ?_
        intro A4 c4 w4 L4 e4 o4 _ g4)))
  have b4 : Ab w1 w4 := g4 w1 (b2.trans hb3) (Nat.le_refl _)
  have hl4 : L4.length ≤ 2000000 := by rw [e4.out, List.length_append, hpl]; omega
  refine (AF.out A4 L4 c4 w4 o4.rb.zero o4.le hl4).mono ?_
  rintro e w5 ⟨rfl, hb5⟩
  have HF : Hid (Sha.dig (Sha.after Sha.first L4) = Sha.of L1) := by rw [e4.out]; exact HO.out.symm
  generalize Sha.after Sha.first L4 = H at *
  have b5 : Ab w1 w5 := b4.trans hb5
  clear hb5 b4 hl4 e4 o4 g4
  go_wp2_with fail
  refine (DG.out H w5).mono ?_
  rintro e w6 ⟨rfl, hb6⟩
  have Z6 := (Z1.ab b5).ab hb6
  have b6 := b1.trans (b5.trans hb6)
  have hdl := Sha.dig_length H
  go_wp2_with (refine list_stV (o := ⟨none, _, _, _, _, _⟩) (us := (Sha.dig H).map cb) _ infoId rfl _ _ rfl rfl rfl Z6 (by simp [hdl]) (by simp [hdl]) (by rw [List.all_map]; exact List.all_eq_true.2 fun x _ => rfl) ?_
               intro w9 h9)
  refine bodyPost_ret (res_V1 _ infoId Tryd.underlying26 rfl Tryd.results14 _ rfl h9.v (by simp [hdl])) rfl ?_
  exact ⟨by rw [← HF.out], h9.ab _ b6 (Nat.le_refl _)⟩
theorem rsum_any (A : Option Addr) (l : List UInt8) (c : Nat) (w : World) (hb : RB w 0 A l) (hc : l.length ≤ c) (hl : l.length ≤ 1000000) :
    Calls Tryd.prog 5 #[.slice A l.length c] w fun e w' => e = .returned (.tuple #[.agg ((Sha.of l).map cb).toArray, .int .i64 0]) ∧ Ab w w' := by
  have OF := fun w' (hk : Ab w w') => rof_any A l c w' (hb.ab hk) hc hl
  have h1 : ¬ (1000000 : Int) < (l.length : Int) := by omega
  have hol : (Sha.of l).length = 32 := rfl
  go_enter Tryd.func5, Tryd.ntmps5
  have b0 : Ab w (w.alloc (.cells (List.replicate 32 (Value.int .u8 0)).toArray 26)) := abA
  have Z0 : VB (w.alloc (.cells (List.replicate 32 (Value.int .u8 0)).toArray 26)) w.heap.size (List.replicate 32 (.int .u8 0)) := VB.box (xs := (List.replicate 32 (Value.int .u8 0)).toArray) (T := 26) (by (repeat (first | exact new_plain wnA | with_reducible refine old_alloc ?_ | with_reducible refine old_drew ?_ | with_reducible refine old_set ?_ wnA | with_reducible refine old_ab (by assumption) ?_)))
  have HOL := Lib.hid hol
  clear hol
  generalize Sha.of l = d at *
  go_wp2_with fail
  refine (OF _ b0).mono ?_
  rintro e w1 ⟨rfl, hb1⟩
  go_wp2_with (refine list_stV (o := ⟨none, _, _, _, _, _⟩) (us := d.map cb) _ infoId rfl _ _ rfl rfl rfl (Z0.ab hb1) (by simp [HOL.out]) (by simp [HOL.out]) (by rw [List.all_map]; exact List.all_eq_true.2 fun x _ => rfl) ?_
               intro w9 h9)
  refine bodyPost_ret (res_V2 _ infoId Tryd.underlying26 rfl Tryd.results5 _ rfl (h9.v.ab abA) (by simp [HOL.out])) rfl ?_
  exact ⟨rfl, Ab.trans (h9.ab _ (b0.trans hb1) (Nat.le_refl _)) abA⟩
end Go.Proofs.YtiijehmbpjakhaaDoor
