/- ShaBlocks, walked (a region written by a program). Own work. -/
import Derived.Test.YtmechdddhfcckaaDoorShLawC
import Derived.Deep.DeepCutAuto
set_option linter.unusedVariables false
set_option linter.unusedSimpArgs false
namespace Go.Proofs.YtmechdddhfcckaaDoor
open Go.RowKit

theorem dig_cell (H : Sha.W8) (D : List UInt8) (hD : D = Sha.dig H) (q r : Nat) (hq : q < 8) (hr : r < 4) : D[4 * q + r]? = some (UInt8.ofNat ((H.list.getD q 0#32).toNat / 2 ^ (24 - 8 * r))) := by
  subst hD; exact dig_at H q r hq hr
theorem w8_at (H : Sha.W8) (q : Nat) (hq : q < 8) : (w8 H)[q]? = some (.int .u32 ((H.list.getD q 0#32).toNat : Int)) := by
  have : q = 0 ∨ q = 1 ∨ q = 2 ∨ q = 3 ∨ q = 4 ∨ q = 5 ∨ q = 6 ∨ q = 7 := by omega
  rcases this with rfl | rfl | rfl | rfl | rfl | rfl | rfl | rfl <;> rfl
theorem u8_ne (x : UInt8) (y : Int) (h : y = (x.toNat : Int)) : (((x.toNat : Nat) : Int) != y) = false := by
  subst h; simp
/-- What the statement needs of Block: N k are the words after k blocks of L. -/
def BlkOk (w : World) (N : Nat → Sha.W8) (L : List UInt8) : Prop := ∀ k, 64 * (k + 1) ≤ L.length → ∀ w', Ab w w' → ∀ (A : Option Addr) (c : Nat), RB w' 0 A (Sha.blk L k) → 64 ≤ c →
  Calls Tryd.prog 11 #[.agg (w8 (N k)).toArray, .slice A 64 c] w' fun e w2 => e = .returned (.tuple #[.agg (w8 (N (k + 1))).toArray, .int .i64 0]) ∧ Ab w' w2
theorem blk_ok (w : World) (hG : Glob w) (h : Sha.W8) (L : List UInt8) : BlkOk w (Sha.afterN h L) L := by
  intro k hk w' hw A c hr hc
  have hl := Sha.blk_length L k hk
  have := block_any (Sha.afterN h L k) A (Sha.blk L k) c w' (hG.ab hw) hr (by omega) (by omega)
  have e : blkE (Sha.afterN h L k) (Sha.blk L k) = (Sha.afterN h L (k + 1), 0) := by
    unfold blkE
    rw [if_pos hl]
    rfl
  rw [e, hl] at this
  exact this
theorem low_at (n k i : Nat) (h : i < k) : (Sha.low n k)[i]? = some (UInt8.ofNat (n / 2 ^ (8 * (k - 1 - i)))) := by
  induction k generalizing i with
  | zero => omega
  | succ k ih =>
    unfold Sha.low
    cases i with
    | zero => simp
    | succ i =>
      rw [List.getElem?_cons_succ, ih i (by omega)]
      have e : k - 1 - i = k + 1 - 1 - (i + 1) := by omega
      rw [e]
theorem pad_at (n i : Nat) (h : i < 8) : (Sha.pad n)[Sha.zeros n + 1 + i]? = some (UInt8.ofNat (8 * n / 2 ^ (8 * (7 - i)))) := by
  unfold Sha.pad
  have e : Sha.zeros n + 1 + i = (Sha.zeros n + i) + 1 := by omega
  rw [e, List.getElem?_cons_succ, List.getElem?_append_right (by simp), low_at _ _ _ (by simp; omega)]
  congr 4
  simp
theorem bits_step (n i : Nat) (h : i < 8) : 256 * (n / 2 ^ (8 * (8 - i))) + (UInt8.ofNat (n / 2 ^ (8 * (7 - i)))).toNat = n / 2 ^ (8 * (8 - (i + 1))) := by
  have e1 : 8 * (8 - i) = 8 * (7 - i) + 8 := by omega
  have e2 : 8 - (i + 1) = 7 - i := by omega
  rw [e1, e2, Nat.pow_add, ← Nat.div_div_eq_div_mul, UInt8.toNat_ofNat']
  generalize n / 2 ^ (8 * (7 - i)) = m
  omega
theorem blocks_great (w : World) (hG : Glob w) (A : Option Addr) (b : List UInt8) (c : Nat) (h : 1000 < b.length) :
    Calls Tryd.prog 6 #[.slice A b.length c] w (RetTrue w) := by
  go_enter Tryd.func6, Tryd.ntmps6
  go_wp2_with fail
  refine (alive_true _ hG).mono ?_
  rintro e w1 ⟨rfl, hb1⟩
  go_wp2
  go_ret
  exact ⟨rfl, hb1⟩
set_option maxRecDepth 100000 in
set_option maxHeartbeats 8000000 in
theorem blocks_small (w : World) (hG : Glob w) (F : List UInt8 → Sha.W8) (T O : List UInt8 → List UInt8) (hP : Pkg w F T O) (N : Nat → Sha.W8) (n : Nat) (L : List UInt8) (hN : BlkOk w N L) (A : Option Addr) (b : List UInt8) (c : Nat) (hb : RB w 0 A b) (hc : b.length ≤ c) (hn : Hid (b.length = n)) (kb : n ≤ 1000)
    (hL : Hid (L = b ++ Sha.pad n)) (hN0 : Hid (N 0 = F [])) (hO : Hid (O b = Sha.dig (N (L.length / 64)))) :
    Calls Tryd.prog 6 #[.slice A b.length c] w (RetTrue w) := by
  have hz := Sha.zeros_le n
  have hPl := Lib.hid (Sha.pad_length n)
  have hLl : Hid (L.length = n + (Sha.zeros n + 9)) := by unfold Hid; rw [hL.out, List.length_append, hn.out, hPl.out]
  have hW := Lib.hid (Sha.pad_whole n)
  have kb' : b.length ≤ 1000 := by rw [hn.out]; exact kb
  have hP0 : Hid ((Sha.pad n)[0]? = some 128) := Lib.hid rfl
  have O32 := Lib.hid (hP.len b)
  have hPA := Lib.hid (fun i h => pad_at n i h)
  have pk := fun w' (m : Int) (hm : m = (n : Int)) => pad_ok m n hm (by omega) w'
  have hmod : Hid ((n + (Sha.zeros n + 9)) % 64 = 0) := by have := hW.out; rw [hPl.out] at this; exact this
  have hle9 : 9 ≤ (Sha.pad n).length := by rw [hPl.out]; omega
  generalize hp : Sha.pad n = P at *
  clear hp
  generalize Sha.zeros n = z at *
  obtain ⟨m64, hm64⟩ : ∃ m, L.length = 64 * m := ⟨L.length / 64, by have := hmod.out; rw [hLl.out]; omega⟩
  have hO2 : Hid (O b = Sha.dig (N m64)) := by unfold Hid; rw [hO.out, hm64, Nat.mul_div_cancel_left _ (by omega : 0 < 64)]
  have HM64 := Lib.hid hm64
  clear hm64 hO
  have hmle : 64 * m64 ≤ 1072 := by rw [← HM64.out, hLl.out]; omega
  go_enter Tryd.func6, Tryd.ntmps6
  go_wp2_with fail
  refine (pk _ _ (by rw [hn.out])).mono ?_
  rintro e w1 ⟨g, hg, rfl, ho, hb1⟩
  have rp := ho.rb.zero
  have p0 := ho.at' hP0.out
  have HPA := Lib.hid (fun i (h : i < 8) => ho.at' (hPA.out i h))
  have hoA := ho.le
  have zn : Hid (P.length = z + 9) := hPl
  have rw1 : Ab w w1 := hb1
  have hz1 := hb1.size
  clear ho pk
  go_wp2_with (first
    | ((at_builtin
        refine listLit rfl _ _ rfl rfl rfl (m := b) rfl (by (repeat (first | exact new_plain wnA | with_reducible refine old_alloc ?_ | with_reducible refine old_drew ?_ | with_reducible refine old_set ?_ wnA | with_reducible refine old_ab (by assumption) ?_))) (RB.ab hb (show Ab w _ from abA)) hc (by omega) ?_
        intro A1 d1 wA L1 e1 bA oA
        have abA1 : Ab w1 wA := Ab.trans abA bA
        have oA1 := oA w1.heap.size (Nat.le_refl _) wnA
        have zA := abA1.size
        have p1 := abA1.at p0
        have l1 : L1.length ≤ 1000 := by rw [e1.out]; exact kb'))
    | ((at_builtin
        refine listApp (o := ⟨some 29, _, _, _, _, _⟩) rfl _ _ rfl rfl rfl (m := P) zn.out oA1 zA (RB.ab rp abA1) (Nat.le_of_eq zn.out) (by rw [zn.out]; omega) ?_
        intro A2 d2 wB L2 e2 oB _ gB
        have abB := gB w1 abA1 (Nat.le_refl _)
        have zB := abB.size
        have p2 := abB.at p0
        have eL : Hid (L2 = L) := by rw [e2.out, e1.out, hL.out]; rfl
        have eLL : Hid (L2.length = 64 * m64) := by rw [eL.out, HM64.out]; rfl
        have rB := oB.rb.zero
        have dB := oB.le
        clear e2 gB oB
        have eL' := eL.out
        subst eL'
        rw [eLL.out] at dB ⊢)))
  refine (hP.start _ (rw1.trans abB)).mono ?_
  rintro e w3 ⟨rfl, hb3⟩
  rw [show F [] = N 0 from hN0.out.symm]
  have ab3 : Ab w w3 := rw1.trans (abB.trans hb3)
  have rB3 := rB.ab hb3
  have p3 := hb3.at p2
  have HP3 := Lib.hid (fun i (h : i < 8) => hb3.at (abB.at (HPA.out i h)))
  have Y3 : VB (w3.alloc (.cells #[.int .u32 0, .int .u32 0, .int .u32 0, .int .u32 0, .int .u32 0, .int .u32 0, .int .u32 0, .int .u32 0] 32)) w3.heap.size [.int .u32 0, .int .u32 0, .int .u32 0, .int .u32 0, .int .u32 0, .int .u32 0, .int .u32 0, .int .u32 0] := VB.box (xs := #[.int .u32 0, .int .u32 0, .int .u32 0, .int .u32 0, .int .u32 0, .int .u32 0, .int .u32 0, .int .u32 0]) (T := 32) (by (repeat (first | exact new_plain wnA | with_reducible refine old_alloc ?_ | with_reducible refine old_drew ?_ | with_reducible refine old_set ?_ wnA | with_reducible refine old_ab (by assumption) ?_)))
  clear p0 p1 p2 HPA zA zB abA1 bA oA1 oA rp
  go_wp2_with (first
    | (refine list_val (o := ⟨some 55, _, _, _, _, _⟩) (.agg (w8 (N 0)).toArray) rfl (by kernel_rfl) ?_)
    | (refine list_stV (o := ⟨none, _, _, _, _, _⟩) (us := w8 (N 0)) _ info8 rfl _ _ rfl rfl rfl Y3 (w8_len _).symm (w8_len _) (w8_one _) ?_
       intro w4 h4
       have ab34 : Ab w3 w4 := h4.ab _ ((Ab.refl _).alloc _) (Nat.le_refl _)
       have ab4 := ab3.trans ab34
       have v4 := h4.v
       have rB4 := rB3.ab ab34
       have HP4 := Lib.hid (fun i (h : i < 8) => ab34.at (HP3.out i h))
       clear h4 p3))
  generalize hb6 : w3.heap.size = b6 at *
  have zb6 : w3.heap.size ≤ b6 := Nat.le_of_eq hb6
  have zw3 : w.heap.size ≤ b6 := by rw [← hb6]; exact ab3.size
  clear hb6 Y3 hb3 rB rB4
  go_loopw [2, 7] (fun r i w' => ∃ k : Nat, k ≤ m64 ∧ r = .bool false ∧ i = .int .i64 (64 * (k : Int)) ∧ Ab w3 w' ∧ VB w' b6 (w8 (N k))) (fun _ i _ => 64 * m64 - (intOf i).toNat)
  case atStart => exact ⟨0, by omega, rfl, rfl, ab34, v4⟩
  case round =>
    obtain ⟨k, hk, rfl, rfl, hab3, hv⟩ := hrel
    rename World => w1
    by_cases hlt : k < m64
    · have HBk := hN k (by rw [eLL.out]; omega)
      have hab : Ab w w1 := ab3.trans hab3
      have hcut : RB w1 0 (cutA A2 d2 (64 * k)) (Sha.blk L2 k) := ((rB3.ab hab3).cut (64 * k) d2 (by rw [eLL.out]; exact dB)).take 64
      have hcap : 64 ≤ d2 - 64 * k := by omega
      have M : ∀ w0, (Instr.slice 28 (.slice A2 (64 * m64) d2) (some (.int .i64 (64 * (k : Int)))) (some (.int .i64 (64 * (k : Int) + 64))) none).run Tryd.prog w0 = .ok (.slice (cutA A2 d2 (64 * k)) 64 (d2 - 64 * k)) w0 := fun w0 => by
        have := run_cuts (64 * k) (64 * k + 64) .i64 .i64 A2 (64 * m64) d2 w0 (by omega) (by omega)
        have e1 : ((64 * k : Nat) : Int) = 64 * (k : Int) := by omega
        have e2 : ((64 * k + 64 : Nat) : Int) = 64 * (k : Int) + 64 := by omega
        have e3 : 64 * k + 64 - 64 * k = 64 := by omega
        rw [e1, e2, e3] at this
        exact this
      have j1 : IntKind.i64.wrap (64 * (k : Int) + 64) = 64 * (k : Int) + 64 := IntWalk.i64_in _ (by omega)
      have hT : 64 * (k : Int) < 64 * (m64 : Int) := by omega
      generalize hH2 : N (k + 1) = H2 at *
      have HH2 := Lib.hid hH2
      clear hH2
      have zv := hv.lt
      generalize hH : N k = H at *
      have HH := Lib.hid hH
      clear hH
      go_upto_region 11 with fail
      go_cut [8, 9] (fun s8 s9 wx => ∃ v, s8 = .pointer (some ⟨v, 0, none⟩) ∧ s9 = .int .i64 0 ∧ VB wx v (w8 H2) ∧ w1.heap.size ≤ v ∧ Ab w1 wx)
      case first =>
        refine wp_region_held_drew (by kernel_rfl) (S := fun w' => VB w' b6 (w8 H)) ?_ (fun hHeld => ?_)
        · (exact VB.ab hv abA)
        (refine rtL 0 (w8 H) 0 (fun w hSw => VB.range hSw) Tryd.underlying32 ?_
         (try simp only [Act.put, stA, st0, st1]))
        (refine rtA 1 ?_ ?_
         (try simp only [Act.put, stA, st0, st1]))
        (refine rtA 2 ?_ ?_
         (try simp only [Act.put, stA, st0, st1]))
        (refine rtA 3 ?_ ?_
         (try simp only [Act.put, stA, st0, st1]))
        (refine rtA 4 ?_ ?_
         (try simp only [Act.put, stA, st0, st1]))
        (refine rtA 5 ?_ ?_
         (try simp only [Act.put, stA, st0, st1]))
        (refine wpAnyH_ready (rs := [6, 10]) (by kernel_rfl) (by simp) ?_)
        refine AllReadyH.cons rfl (fun K hK => ?_) (AllReadyH.cons rfl (fun K hK => ?_) AllReadyH.nil)
        · (go_simp
           (refine (HBk _ (show Ab w _ from Ab.trans hab abA) _ _ (RB.ab hcut abA) hcap).mono ?_; rintro e wb ⟨rfl, hbb⟩; have zb := hbb.size; (try simp at zb))
           (try go_wp2_with fail)
           (refine hK.out _ _ ?_ (fun hHeld => ?_)
            · (try dsimp only); (exact VB.ab hv abA)
            clear hK K
            (try simp only [Act.put, stA, st0, st1])))
          (refine rtA 7 ?_ ?_
           (try simp only [Act.put, stA, st0, st1]))
          (refine rtA 8 ?_ ?_
           (try simp only [Act.put, stA, st0, st1]))
          (refine rtA 9 ?_ ?_
           (try simp only [Act.put, stA, st0, st1]))
          refine r1A 10 (fun K hK => ?_)
          (go_simp
           (refine hK.out _ _ ?_ (fun hHeld => ?_)
            · (try dsimp only); (exact VB.ab hv abA)
            clear hK K
            (try simp only [Act.put, stA, st0, st1])))
          refine r1A 11 (fun K hK => ?_)
          (try simp only [Act.put, List.getElem_toArray, List.getElem_cons_succ, List.getElem_cons_zero, stA, st0, st1])
          refine if_go (by rfl) ?_
          refine wp_stV (us := w8 H2) _ info8 _ _ rfl rfl rfl (VB.box (xs := #[.int .u32 0, .int .u32 0, .int .u32 0, .int .u32 0, .int .u32 0, .int .u32 0, .int .u32 0, .int .u32 0]) (T := 32) (by (repeat (first | exact new_plain wnA | with_reducible refine old_alloc ?_ | with_reducible refine old_drew ?_ | with_reducible refine old_set ?_ wnA | with_reducible refine old_ab (by assumption) ?_)))) (w8_len H2).symm (w8_len H2) (w8_one H2) ?_
          intro w9 h9
          (refine hK.out _ _ ?_ (fun hHeld => ?_)
           · (try dsimp only); exact h9.vb (VB.ab hv abA) (by omega)
           clear hK K
           (try simp only [Act.put, stA, st0, st1]))
          refine r1A 12 (fun K hK => ?_)
          (go_simp
           (refine hK.out _ _ ?_ (fun hHeld => ?_)
            · (try dsimp only); exact h9.vb (VB.ab hv abA) (by omega)
            clear hK K
            (try simp only [Act.put, stA, st0, st1])))
          refine wpAnyH_done (by kernel_rfl) ?_ _
          go_wp2_with fail
          go_meet
          exact ⟨_, rfl, rfl, VB.ab h9.v abA, by omega, Ab.trans (h9.ab w1 abA (by omega)) abA⟩
        · (go_simp
           (refine hK.out _ _ ?_ (fun hHeld => ?_)
            · (try dsimp only); (exact VB.ab hv abA)
            clear hK K
            (try simp only [Act.put, stA, st0, st1])))
          refine r1A 6 (fun K hK => ?_)
          (go_simp
           (refine (HBk _ (show Ab w _ from Ab.trans hab abA) _ _ (RB.ab hcut abA) hcap).mono ?_; rintro e wb ⟨rfl, hbb⟩; have zb := hbb.size; (try simp at zb))
           (try go_wp2_with fail)
           (refine hK.out _ _ ?_ (fun hHeld => ?_)
            · (try dsimp only); (exact VB.ab hv abA)
            clear hK K
            (try simp only [Act.put, stA, st0, st1])))
          (refine rtA 7 ?_ ?_
           (try simp only [Act.put, stA, st0, st1]))
          (refine rtA 8 ?_ ?_
           (try simp only [Act.put, stA, st0, st1]))
          (refine rtA 9 ?_ ?_
           (try simp only [Act.put, stA, st0, st1]))
          refine r1A 11 (fun K hK => ?_)
          (try simp only [Act.put, List.getElem_toArray, List.getElem_cons_succ, List.getElem_cons_zero, stA, st0, st1])
          refine if_go (by rfl) ?_
          refine wp_stV (us := w8 H2) _ info8 _ _ rfl rfl rfl (VB.box (xs := #[.int .u32 0, .int .u32 0, .int .u32 0, .int .u32 0, .int .u32 0, .int .u32 0, .int .u32 0, .int .u32 0]) (T := 32) (by (repeat (first | exact new_plain wnA | with_reducible refine old_alloc ?_ | with_reducible refine old_drew ?_ | with_reducible refine old_set ?_ wnA | with_reducible refine old_ab (by assumption) ?_)))) (w8_len H2).symm (w8_len H2) (w8_one H2) ?_
          intro w9 h9
          (refine hK.out _ _ ?_ (fun hHeld => ?_)
           · (try dsimp only); exact h9.vb (VB.ab hv abA) (by omega)
           clear hK K
           (try simp only [Act.put, stA, st0, st1]))
          refine r1A 12 (fun K hK => ?_)
          (go_simp
           (refine hK.out _ _ ?_ (fun hHeld => ?_)
            · (try dsimp only); exact h9.vb (VB.ab hv abA) (by omega)
            clear hK K
            (try simp only [Act.put, stA, st0, st1])))
          refine wpAnyH_done (by kernel_rfl) ?_ _
          go_wp2_with fail
          go_meet
          exact ⟨_, rfl, rfl, VB.ab h9.v abA, by omega, Ab.trans (h9.ab w1 abA (by omega)) abA⟩
      trace_state
      obtain ⟨v8, rfl, rfl, hv8, zv8, hbx⟩ := hcut
      have hvx := hv.ab hbx
      have habx := hab3.trans hbx
      go_wp2_with (first
        | (refine list_ldV (o := ⟨some 74, _, _, _, _, _⟩) _ info8 Tryd.underlying32 rfl rfl _ rfl rfl hv8 (w8_len _) ?_)
        | (refine list_stV (o := ⟨none, _, _, _, _, _⟩) (us := w8 H2) _ info8 rfl _ _ rfl rfl rfl hvx (w8_len2 _ _) (w8_len _) (w8_one _) ?_
           intro w9 h9))
      go_roundw
      case rel => exact ⟨k + 1, by omega, rfl, congrArg (Value.int .i64) (by omega), h9.ab _ habx zb6, by rw [HH2.out]; exact h9.v⟩
      case measure => simp [intOf]; omega
    · obtain rfl : k = m64 := by omega
      have hab : Ab w w1 := ab3.trans hab3
      have kb1 : b.length ≤ 1000000 := by omega
      have hst := hP.sum b A c w1 hab (hb.ab hab) hc kb1
      have HD := hO2
      generalize N k = Hm at *
      have lD := O32
      generalize O b = D at *
      have HP5 := Lib.hid (fun i (h : i < 8) => hab3.at (HP3.out i h))
      have al := fun w' (hk : Ab w w') => alive_true w' (hG.ab hk)
      have E8 : Hid (8 * n / 2 ^ (8 * (8 - 0)) = 0) := by
        unfold Hid
        rw [Nat.div_eq_of_lt (by simp; omega)]
      have HE : Hid (8 * n / 2 ^ (8 * (8 - 8)) = 8 * n) := by unfold Hid; simp
      have HBS := Lib.hid (fun i (h : i < 8) => bits_step (8 * n) i h)
      have HBL := Lib.hid (fun i => Nat.div_le_self (8 * n) (2 ^ (8 * (8 - i))))
      clear hP hN hN0 HP3 rB3 O32 hO2 hL hLl hW hPA hPl HM64 hmod eLL
      clear hle9
      go_wp2_with fail
      with_reducible refine hst.mono ?_
      rintro e w5 ⟨rfl, hb5⟩
      have hv5 := hv.ab hb5
      have HP6 := Lib.hid (fun i (h : i < 8) => hb5.at (HP5.out i h))
      have ab5 := hab.trans hb5
      have Y5 : VB (w5.alloc (.cells (idv (List.replicate 32 0)).toArray 24)) w5.heap.size (idv (List.replicate 32 0)) := VB.box (xs := (idv (List.replicate 32 0)).toArray) (T := 24) (by (repeat (first | exact new_plain wnA | with_reducible refine old_alloc ?_ | with_reducible refine old_drew ?_ | with_reducible refine old_set ?_ wnA | with_reducible refine old_ab (by assumption) ?_)))
      clear hv hb5 HP5 hst hab3
      go_wp2_with (refine list_stV (o := ⟨none, _, _, _, _, _⟩) (us := idv D) _ infoId rfl _ _ rfl rfl rfl Y5 ((idv_len lD.out).symm) (idv_len lD.out) (idv_one _) ?_
                   intro w6 h6
                   have ab56 : Ab w5 w6 := h6.ab _ ((Ab.refl _).alloc _) (Nat.le_refl _)
                   have D6 := h6.v
                   have hv6 := hv5.ab ab56
                   have HP7 := Lib.hid (fun i (h : i < 8) => ab56.at (HP6.out i h))
                   have ab6 := ab5.trans ab56
                   clear HP6 h6 hv5 ab5)
      go_loop [12, 13] (fun s i => ∃ j : Nat, j ≤ 8 ∧ i = .int .i64 ((z : Int) + 1 + (j : Int)) ∧ s = .int .i64 ((8 * n / 2 ^ (8 * (8 - j)) : Nat) : Int)) (fun _ i => z + 9 - (intOf i).toNat)
      case atStart => exact ⟨0, by omega, congrArg (Value.int .i64) (by simp; omega), by rw [E8.out]; rfl⟩
      case round =>
        obtain ⟨j, hj, rfl, rfl⟩ := hrel
        by_cases hjt : j < 8
        · have pj := HP7.out j hjt
          have hX := HBL.out j
          have hXY := Lib.hid (HBS.out j hjt)
          have hB8 := (UInt8.ofNat (8 * n / 2 ^ (8 * (7 - j)))).toNat_lt
          generalize UInt8.ofNat (8 * n / 2 ^ (8 * (7 - j))) = B at *
          generalize 8 * n / 2 ^ (8 * (8 - j)) = X at *
          have n1 : ((z : Int) + 1 + (j : Int)).toNat = z + 1 + j := by omega
          have n2 : (z : Int) + 1 + (j : Int) < (z : Int) + 9 := by omega
          have n3 : 0 ≤ (z : Int) + 1 + (j : Int) := by omega
          have n4 : (X : Int) ≤ 8000 := by omega
          have n5 : 0 ≤ (X : Int) := by omega
          clear HP7 HBL HBS
          go_wp2
          go_round
          case rel => exact ⟨j + 1, by omega, congrArg (Value.int .i64) (by omega), congrArg (Value.int .i64) (by rw [← hXY.out]; simp)⟩
          case measure => simp [intOf]; omega
        · obtain rfl : j = 8 := by omega
          rw [HE.out]
          have hbeq : ((n : Int) == (b.length : Int)) = true := by rw [hn.out]; simp
          have hbeq2 : (8 * (n : Int) == 8 * (b.length : Int)) = true := by rw [hn.out]; simp
          clear HP7 HBL HBS HE E8
          go_wp2
          go_loopw [2, 14] (fun r i w' => ∃ m : Nat, m ≤ 32 ∧ r = .bool false ∧ i = .int .i64 m ∧ ∃ nq, w' = w6.drewN nq) (fun _ i _ => 32 - (intOf i).toNat)
          case atStart => exact ⟨0, by omega, rfl, rfl, 0, rfl⟩
          case round =>
            obtain ⟨m, hm, rfl, rfl, nq, rfl⟩ := hrel
            by_cases hmt : m < 32
            · obtain ⟨q, r, hqr, hq, hr⟩ : ∃ q r, Hid (m = 4 * q + r) ∧ q < 8 ∧ r < 4 := ⟨m / 4, m % 4, Lib.hid (by omega), by omega, by omega⟩
              have cD := D6.at m (id_at (by rw [hqr.out]; exact dig_cell Hm D HD.out q r hq hr))
              have cH := hv6.at q (w8_at Hm q hq)
              have hcm := byte_shr (Hm.list.getD q 0#32) (24 - 8 * r)
              generalize Hm.list.getD q 0#32 = X at *
              have hcmp := u8_ne (UInt8.ofNat (X.toNat / 2 ^ (24 - 8 * r))) _ hcm
              have hcw : IntKind.u8.wrap ((X.toNat : Int) / 2 ^ (24 - 8 * r)) = (X.toNat : Int) / 2 ^ (24 - 8 * r) % 256 := IntKind.wrap_u8 _
              generalize UInt8.ofNat (X.toNat / 2 ^ (24 - 8 * r)) = B at *
              clear hcm
              have t1 : Int.tdiv (m : Int) 4 = (q : Int) := by
                rw [Int.tdiv_eq_ediv_of_nonneg (by omega)]; have := hqr.out; omega
              have t2 : Int.tmod (m : Int) 4 = (r : Int) := by
                rw [Int.tmod_eq_emod_of_nonneg (by omega)]; have := hqr.out; omega
              have t3 : (m : Int) / 4 = (q : Int) := by have := hqr.out; omega
              have t4 : (m : Int) % 4 = (r : Int) := by have := hqr.out; omega
              have hmT : (m : Int) < 32 := by omega
              have hqT : (q : Int) < 8 := by omega
              have j8 : IntKind.i64.wrap (8 * (r : Int)) = 8 * (r : Int) := IntWalk.i64_in _ (by omega)
              have j24 : IntKind.i64.wrap (24 - 8 * (r : Int)) = 24 - 8 * (r : Int) := IntWalk.i64_in _ (by omega)
              have n24 : (24 - 8 * (r : Int)).toNat = 24 - 8 * r := by omega
              have g24 : 8 * (r : Int) ≤ 24 := by omega
              have g25 : 0 ≤ 24 - 8 * (r : Int) := by omega
              clear al D6 hv6 hbeq hbeq2
              go_wp2
              go_quiet (fail)
              go_wp2
              go_roundw
              case rel => exact ⟨m + 1, by omega, rfl, by go_num, _, rfl⟩
              case measure => simp [intOf]; omega
            · obtain rfl : m = 32 := by omega
              go_wp2_with fail
              refine (al _ (ab6.drewN nq)).mono ?_
              rintro e w7 ⟨rfl, hb7⟩
              go_wp2
              go_ret
              exact ⟨rfl, (ab6.drewN nq).trans hb7⟩
theorem blocks_walk (w : World) (hG : Glob w) (A : Option Addr) (b : List UInt8) (c : Nat) (hb : RB w 0 A b) (hc : b.length ≤ c) :
    Calls Tryd.prog 6 #[.slice A b.length c] w (RetTrue w) := by
  by_cases h : 1000 < b.length
  · exact blocks_great w hG A b c h
  · exact blocks_small w hG _ _ _ (pkg w hG) (Sha.afterN Sha.first (b ++ Sha.pad b.length)) b.length (b ++ Sha.pad b.length) (blk_ok w hG _ _) A b c hb hc (Lib.hid rfl) (by omega) (Lib.hid rfl) (Lib.hid rfl) (Lib.hid rfl)
end Go.Proofs.YtmechdddhfcckaaDoor
