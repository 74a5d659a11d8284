/- The reference's table of least costs, walked. Own work. -/
import Derived.Test.YtbhhjbmpcpjcnaaDlInts
set_option linter.unusedVariables false
set_option linter.unusedSimpArgs false
namespace Go.Proofs.Ytbhhjbmpcpjcnaa
open Go.RowKit

/-- What Least returns. -/
def RetRl (s T : List UInt8) (N1 : Nat) (w : World) (e : Ending) (w' : World) : Prop := ∃ (bf bg : Nat) (F : List Int) (G S : List Nat), e = .returned (.tuple #[.slice (some ⟨bf, 0, none⟩) N1 N1, .slice (some ⟨bg, 0, none⟩) N1 N1]) ∧
  VB w' bf (icells F) ∧ VB w' bg (ncells G) ∧ Hid (Dl.Rows s T F G S 0) ∧ Ab w w'
/-- The loop's rows. -/
def RlSt (s T : List UInt8) (w0 : World) (bf bg : Nat) (M1 : Nat) (j : Nat) (sm : Value) (w' : World) : Prop := ∃ (bs : Nat) (F : List Int) (G S : List Nat), sm = .slice (some ⟨bs, 0, none⟩) M1 M1 ∧ Hid (Dl.Rows s T F G S j) ∧ bs ≠ bf ∧ bs ≠ bg ∧
  VB w' bf (icells F) ∧ VB w' bg (ncells G) ∧ VB w' bs (ncells S) ∧ Ab w0 w'
set_option maxRecDepth 100000 in
set_option maxHeartbeats 8000000 in
theorem rleast_any (B D : Option Addr) (c d : Nat) (s T : List UInt8) (w : World) (hs : RB w 0 B s) (ht : RB w 0 D T) (hsl : s.length ≤ 300) (htl : T.length ≤ 300) :
    Calls Try.prog 39 #[.slice B s.length c, .slice D T.length d] w (RetRl s T (T.length + 1) w) := by
  obtain ⟨N1, hN1⟩ : ∃ N1 : Nat, N1 = T.length + 1 := ⟨_, rfl⟩
  obtain ⟨M1, hM1⟩ : ∃ M1 : Nat, M1 = s.length + 1 := ⟨_, rfl⟩
  obtain ⟨Z, hZ, HZ⟩ := make_ints N1 (by omega) (N1 : Int) rfl
  obtain ⟨Y, hY, HY⟩ := make_ints M1 (by omega) (M1 : Int) rfl
  have HN1 := Lib.hid hN1
  have HM1 := Lib.hid hM1
  have hN1' : N1 ≤ 301 := by omega
  have hM1' : M1 ≤ 301 := by omega
  have hN1'' : T.length < N1 := by omega
  have hM1'' : s.length < M1 := by omega
  have hw0 : IntKind.i64.wrap ((T.length : Int) + 1) = (N1 : Int) := by rw [show (N1 : Int) = (T.length : Int) + 1 by omega]; exact IntWalk.i64_in _ (by omega)
  have hwm : IntKind.i64.wrap ((s.length : Int) + 1) = (M1 : Int) := by rw [show (M1 : Int) = (s.length : Int) + 1 by omega]; exact IntWalk.i64_in _ (by omega)
  have hw1 : IntKind.i64.wrap ((T.length : Int) - 1) = (T.length : Int) - 1 := IntWalk.i64_in _ (by omega)
  have HX := Lib.hid (⟨hs, ht⟩ : RB w 0 B s ∧ RB w 0 D T)
  have HST := Lib.hid (Dl.Rows.start s T)
  rw [← hN1]
  rw [← hN1, ← hM1] at HST
  clear hs ht hN1 hM1
  go_enter Try.func39, Try.ntmps39
  go_upto_region 2 with fail
  go_cut [7, 8] (fun p7 p8 wx => ∃ bf bg : Nat, p7 = .slice (some ⟨bf, 0, none⟩) N1 N1 ∧ p8 = .slice (some ⟨bg, 0, none⟩) N1 N1 ∧ bf ≠ bg ∧ w.heap.size ≤ bf ∧ w.heap.size ≤ bg ∧ VB wx bf (icells (List.replicate N1 0)) ∧ VB wx bg (icells (List.replicate N1 0)) ∧ Ab w wx)
  case first =>
    clear hY HY HST
    go_region_with (fail)
    all_goals (go_wp2_with fail; go_meet)
    all_goals first
      | exact ⟨_, _, rfl, rfl, by simp, by simp, by simp, HZ.out _ _ (by (repeat (first | exact new_plain wnA | with_reducible refine old_alloc ?_ | with_reducible refine old_drew ?_ | with_reducible refine old_set ?_ wnA | with_reducible refine old_ab (by assumption) ?_))), HZ.out _ _ (by (repeat (first | exact new_plain wnA | with_reducible refine old_alloc ?_ | with_reducible refine old_drew ?_ | with_reducible refine old_set ?_ wnA | with_reducible refine old_ab (by assumption) ?_))), abA⟩
  obtain ⟨bf, bg, rfl, rfl, hfg, hbf, hbg, VF, VG, b0⟩ := hcut
  rename World => w0
  rw [← ncells_zero] at VG
  clear hZ HZ
  go_upto_region 4 with fail
  have zf := VF.lt
  have zg := VG.lt
  have VS : VB (w0.alloc (.cells Y 3)) w0.heap.size (ncells (List.replicate M1 0)) := by rw [ncells_zero]; exact HY.out _ _ (by (repeat (first | exact new_plain wnA | with_reducible refine old_alloc ?_ | with_reducible refine old_drew ?_ | with_reducible refine old_set ?_ wnA | with_reducible refine old_ab (by assumption) ?_)))
  have bA : Ab w0 (w0.alloc (.cells Y 3)) := abA
  have VF1 := VF.ab bA
  have VG1 := VG.ab bA
  have b1 := b0.trans bA
  clear VF VG b0 bA
  have hs1 : w0.heap.size ≠ bf := by omega
  have hs2 : w0.heap.size ≠ bg := by omega
  have hST0 : RlSt s T w bf bg M1 T.length (.slice (some ⟨w0.heap.size, 0, none⟩) M1 M1) (w0.alloc (.cells Y 3)) := ⟨_, _, _, _, rfl, HST, hs1, hs2, VF1, VG1, VS, b1⟩
  clear VS VF1 VG1 b1 HST hs1 hs2 zf zg
  generalize w0.alloc (.cells Y 3) = w1 at *
  go_wp2_with fail
  go_loopw [9, 10] (fun sm n w' => ∃ j : Nat, j ≤ T.length ∧ n = .int .i64 ((j : Int) - 1) ∧ RlSt s T w bf bg M1 j sm w') (fun _ n _ => (intOf n + 1).toNat)
  case atStart => exact ⟨T.length, Nat.le_refl _, rfl, hST0⟩
  case round =>
    clear hST0
    obtain ⟨j, hj, rfl, bs, F, G, S, rfl, hR, hsf, hsg, VF, VG, VS, b1⟩ := hrel
    rename World => w2
    by_cases h0 : j = 0
    · subst h0
      have hT : ¬ (0 : Int) ≤ ((0 : Nat) : Int) - 1 := by omega
      go_wp2
      go_ret2
      exact ⟨bf, bg, F, G, S, rfl, VF, VG, hR, b1⟩
    · obtain ⟨i, hi⟩ : ∃ i, j = i + 1 := ⟨j - 1, by omega⟩
      have hi2 : ((j : Int) - 1) = (i : Int) := by omega
      rw [hi2]
      have hR' := hR.out
      rw [hi] at hR'
      have HR := Lib.hid hR'
      have hiT : i < T.length := by omega
      have hiI : (i : Int) < (T.length : Int) := by omega
      have hi0 : (0 : Int) ≤ (i : Int) := by omega
      have hiN : (i : Int) < (N1 : Int) := by omega
      have hjN : (j : Int) < (N1 : Int) := by omega
      have hw3 : IntKind.i64.wrap ((i : Int) - 1) = (i : Int) - 1 := IntWalk.i64_in _ (by omega)
      have hwj : IntKind.i64.wrap ((i : Int) + 1) = (j : Int) := by rw [show (i : Int) + 1 = (j : Int) by omega]; exact IntWalk.i64_in _ (by omega)
      have HI := Lib.hid (And.intro hi hi2)
      clear hR hR' hi hi2
      have TI : ∃ x, x = T[i] := ⟨_, rfl⟩
      go_upto_region 8 with fail
      have zf := VF.lt
      have zg := VG.lt
      have zs := VS.lt
      have VN : VB (w2.alloc (.cells Y 3)) w2.heap.size (ncells (List.replicate M1 0)) := by rw [ncells_zero]; exact HY.out _ _ (by (repeat (first | exact new_plain wnA | with_reducible refine old_alloc ?_ | with_reducible refine old_drew ?_ | with_reducible refine old_set ?_ wnA | with_reducible refine old_ab (by assumption) ?_)))
      have bA : Ab w2 (w2.alloc (.cells Y 3)) := abA
      have VF1 := VF.ab bA
      have VG1 := VG.ab bA
      have VS1 := VS.ab bA
      have b2 := b1.trans bA
      obtain ⟨bn, hbn⟩ : ∃ bn, bn = w2.heap.size := ⟨_, rfl⟩
      rw [← hbn] at VN
      have hnf : bn ≠ bf := by omega
      have hng : bn ≠ bg := by omega
      have hns : bn ≠ bs := by omega
      have hnw : w.heap.size ≤ bn := by have := b1.size; omega
      rw [← hbn]
      clear VF VG VS b1 bA zf zg zs hbn
      generalize w2.alloc (.cells Y 3) = w3 at *
      go_wp2_with fail
      have hGi : G.set i (Dl.most s (T.drop i) 0) = G := by
        have hg : i < G.length := by have := HR.out.gl; omega
        have h1 := HR.out.z i (by omega)
        have h2 : G[i] = 0 := by simpa [hg] using h1
        show G.set i 0 = G
        conv => lhs; rw [← h2]
        exact List.set_getElem_self hg
      have HG0 := Lib.hid hGi
      clear hGi
      go_loopw [12] (fun kv w' => ∃ (k : Nat) (Nx : List Nat), k ≤ s.length ∧ kv = .int .i64 (k : Int) ∧ Hid (Dl.Agree s (T.drop i) Nx k) ∧ VB w' bn (ncells Nx) ∧ VB w' bg (ncells (G.set i (Dl.most s (T.drop i) k))) ∧ VB w' bf (icells F) ∧ VB w' bs (ncells S) ∧ Ab w w') (fun kv _ => s.length - (intOf kv).toNat)
      case atStart => exact ⟨0, _, Nat.zero_le _, rfl, Lib.hid (by rw [HM1.out]; exact Dl.Agree.start _ _), VN, by rw [HG0.out]; exact VG1, VF1, VS1, b2⟩
      case round =>
        clear VN VG1 VF1 VS1 b2
        obtain ⟨k, Nx, hk, rfl, hA, VN, VG, VF, VS, b3⟩ := hrel
        rename World => w4
        by_cases hlt : k < s.length
        · have hkI : (k : Int) < (s.length : Int) := by omega
          have hkM : (k : Int) < (M1 : Int) := by omega
          obtain ⟨ad, rfl, _, ha⟩ := HX.out.1 (by omega)
          obtain ⟨dd, rfl, _, hd⟩ := HX.out.2 (by omega)
          have hac : w4.cell? (ad.add k) = some (.int .u8 (s[k].toNat : Int)) := b3.at (ha k hlt)
          have hbc : w4.cell? (dd.add i) = some (.int .u8 (T[i].toNat : Int)) := b3.at (hd i hiT)
          have HS := Lib.hid (Dl.lcp_step hlt hiT)
          obtain ⟨k1, hk1⟩ : ∃ k1, k1 = k + 1 := ⟨_, rfl⟩
          have hk1M : (k1 : Int) < (M1 : Int) := by omega
          have hwk : IntKind.i64.wrap ((k : Int) + 1) = (k1 : Int) := by rw [show (k : Int) + 1 = (k1 : Int) by omega]; exact IntWalk.i64_in _ (by omega)
          have hsm := HR.out.sm k1 (by omega)
          have hsl' := HR.out.sl
          have hnl := hA.out.l
          have hgl := HR.out.gl
          have cS : w4.cell? ⟨bs, k1, none⟩ = some (.int .i64 (S.getD k1 0 : Nat)) := VS.at k1 (ncells_at (by omega))
          have cN : w4.cell? ⟨bn, k, none⟩ = some (.int .i64 (Nx.getD k 0 : Nat)) := VN.at k (ncells_at (by omega))
          have fN := VN.g k
          have hmle := Dl.most_le s (T.drop i) k
          have cG : w4.cell? ⟨bg, i, none⟩ = some (.int .i64 (Dl.most s (T.drop i) k : Nat)) := by
            have := VG.at i (ncells_at (by simp; omega))
            rwa [getD_set_self _ _ _ _ (by omega)] at this
          have hml : Dl.most s (T.drop i) (k + 1) = max (Dl.most s (T.drop i) k) (Dl.lcp (s.drop k) (T.drop i)) := rfl
          have hL1 := (Dl.lcp_le (s.drop k1) (T.drop (i + 1))).2
          rw [List.length_drop] at hL1
          rw [hsm] at cS
          have HS := HS.out
          rw [← hk1] at HS
          have HA := Lib.hid (fun v (e : v = Dl.lcp (s.drop k) (T.drop i)) => hA.out.put hlt e)
          have HA0 := Lib.hid (fun (e : 0 = Dl.lcp (s.drop k) (T.drop i)) => hA.out.skip e)
          have HN0 : Hid (Nx.getD k 0 = 0) := Lib.hid (hA.out.hi k (Nat.le_refl _))
          rw [HN0.out] at cN
          have HML := Lib.hid hml
          have HK1 := Lib.hid hk1
          have HN1 := HN0
          clear hml hk1 hsm hA ha hd HN0
          generalize hLk : Dl.lcp (s.drop k) (T.drop i) = Lk at *
          generalize Dl.lcp (s.drop k1) (T.drop (i + 1)) = L1 at *
          have HLK := Lib.hid hLk
          clear hLk
          generalize s[k] = x at *
          generalize T[i] = y at *
          have gG := VG.g i
          by_cases hxy : x = y
          · have hcmp : ((x.toNat : Int) == (y.toNat : Int)) = true := by simp [hxy]
            rw [if_pos hxy] at HS
            have hwL : IntKind.i64.wrap ((L1 : Int) + 1) = (Lk : Int) := by rw [show (L1 : Int) + 1 = (Lk : Int) by omega]; exact IntWalk.i64_in _ (by omega)
            have HS' := Lib.hid HS
            clear hxy HS
            go_wp2
            go_quiet (fail)
            go_upto_region 13 with fail
            have A4 : Ab w4 (w4.drewN nq) := Ab.drewN (Ab.refl _) nq
            have VN5 := (VN.ab A4).set k (by rw [ncells_len]; omega) (.int .i64 (Lk : Int))
            rw [ncells_set] at VN5
            have VG5 := (VG.ab A4).other (p := ⟨bn, k, none⟩) hng (.int .i64 (Lk : Int))
            have VF5 := (VF.ab A4).other (p := ⟨bn, k, none⟩) hnf (.int .i64 (Lk : Int))
            have VS5 := (VS.ab A4).other (p := ⟨bn, k, none⟩) hns (.int .i64 (Lk : Int))
            have b5 : Ab w ((w4.drewN nq).setCell ⟨bn, k, none⟩ (.int .i64 (Lk : Int))) := (b3.trans A4).set hnw _
            have hA5 := Lib.hid (HA.out Lk rfl)
            have HNk : (Nx.set k Lk).getD k 0 = Lk := getD_set_self _ _ _ _ (by omega)
            have hyl : (Nx.set k Lk).length = s.length + 1 := by simpa using hnl
            generalize (w4.drewN nq).setCell ⟨bn, k, none⟩ (.int .i64 (Lk : Int)) = w5 at *
            generalize Nx.set k Lk = Ny at *
            clear VN VG VF VS b3 A4 cS cN cG fN gG hac hbc HA HA0 hcmp hwL HS'
            have cN5 := VN5.at k (ncells_at (by omega))
            rw [HNk] at cN5
            have cG5 : w5.cell? ⟨bg, i, none⟩ = some (.int .i64 (Dl.most s (T.drop i) k : Nat)) := by
              have := VG5.at i (ncells_at (by simp; omega))
              rwa [getD_set_self _ _ _ _ (by omega)] at this
            clear HNk
            generalize hmk : Dl.most s (T.drop i) k = mk at *
            have HMK := Lib.hid hmk
            clear hmk
            obtain ⟨wd, hwd⟩ : ∃ wd : World, wd = w5.drew := ⟨_, rfl⟩
            have A5 : Ab w5 wd := by rw [hwd]; exact Ab.drew (Ab.refl _)
            have VN6 := VN5.ab A5
            have VG6 := VG5.ab A5
            have VF6 := VF5.ab A5
            have VS6 := VS5.ab A5
            have b6 := b5.trans A5
            have cN6 := A5.at cN5
            have cG6 := A5.at cG5
            have fG := VG6.g i
            clear cN5 cG5 A5 VN5 VG5 VF5 VS5 b5
            refine still_tail 12 (by kernel_rfl) (by kernel_rfl) wd hwd ?_
            clear hwd
            simp only [List.take_succ_cons, List.take_zero, List.drop_succ_cons, List.drop_zero]
            repeat still_step
            refine wpStill_nil ?_
            go_wp2
            have hval : (if mk < Lk then (Lk : Int) else (mk : Int)) = ((max mk Lk : Nat) : Int) := by split <;> omega
            rw [hval]
            have VG7 := VG6.set i (by rw [ncells_len, List.length_set]; omega) (.int .i64 ((max mk Lk : Nat) : Int))
            rw [ncells_set, List.set_set] at VG7
            go_roundw
            case rel => exact ⟨k + 1, Ny, by omega, by rw [HK1.out], hA5, VN6.other (p := ⟨bg, i, none⟩) (Ne.symm hng) _, by rw [HML.out]; exact VG7, VF6.other (p := ⟨bg, i, none⟩) (Ne.symm hfg) _, VS6.other (p := ⟨bg, i, none⟩) (Ne.symm hsg) _, b6.set hbg _⟩
            case measure => have := HK1.out; simp [intOf] <;> omega
          · have hcmp : ((x.toNat : Int) == (y.toNat : Int)) = false := by
              rw [beq_eq_false_iff_ne]; simp only [ne_eq, Int.natCast_inj]; exact fun e => hxy (UInt8.toNat.inj e)
            rw [if_neg hxy] at HS
            clear hxy
            go_wp2
            go_quiet (fail)
            go_upto_region 13 with fail
            have A4 : Ab w4 (w4.drewN nq) := Ab.drewN (Ab.refl _) nq
            have VN5 := VN.ab A4
            have VG5 := VG.ab A4
            have VF5 := VF.ab A4
            have VS5 := VS.ab A4
            have b5 := b3.trans A4
            have hA5 := Lib.hid (HA0.out HS.symm)
            have HNk : Nx.getD k 0 = Lk := HN1.out.trans HS.symm
            have hyl := hnl
            generalize w4.drewN nq = w5 at *
            generalize Nx = Ny at *
            clear VN VG VF VS b3 A4 cS cN cG fN gG hac hbc HA HA0 hcmp HS
            have cN5 := VN5.at k (ncells_at (by omega))
            rw [HNk] at cN5
            have cG5 : w5.cell? ⟨bg, i, none⟩ = some (.int .i64 (Dl.most s (T.drop i) k : Nat)) := by
              have := VG5.at i (ncells_at (by simp; omega))
              rwa [getD_set_self _ _ _ _ (by omega)] at this
            clear HNk
            generalize hmk : Dl.most s (T.drop i) k = mk at *
            have HMK := Lib.hid hmk
            clear hmk
            obtain ⟨wd, hwd⟩ : ∃ wd : World, wd = w5.drew := ⟨_, rfl⟩
            have A5 : Ab w5 wd := by rw [hwd]; exact Ab.drew (Ab.refl _)
            have VN6 := VN5.ab A5
            have VG6 := VG5.ab A5
            have VF6 := VF5.ab A5
            have VS6 := VS5.ab A5
            have b6 := b5.trans A5
            have cN6 := A5.at cN5
            have cG6 := A5.at cG5
            have fG := VG6.g i
            clear cN5 cG5 A5 VN5 VG5 VF5 VS5 b5
            refine still_tail 12 (by kernel_rfl) (by kernel_rfl) wd hwd ?_
            clear hwd
            simp only [List.take_succ_cons, List.take_zero, List.drop_succ_cons, List.drop_zero]
            repeat still_step
            refine wpStill_nil ?_
            go_wp2
            have hval : (if mk < Lk then (Lk : Int) else (mk : Int)) = ((max mk Lk : Nat) : Int) := by split <;> omega
            rw [hval]
            have VG7 := VG6.set i (by rw [ncells_len, List.length_set]; omega) (.int .i64 ((max mk Lk : Nat) : Int))
            rw [ncells_set, List.set_set] at VG7
            go_roundw
            case rel => exact ⟨k + 1, Ny, by omega, by rw [HK1.out], hA5, VN6.other (p := ⟨bg, i, none⟩) (Ne.symm hng) _, by rw [HML.out]; exact VG7, VF6.other (p := ⟨bg, i, none⟩) (Ne.symm hfg) _, VS6.other (p := ⟨bg, i, none⟩) (Ne.symm hsg) _, b6.set hbg _⟩
            case measure => have := HK1.out; simp [intOf] <;> omega
        · skip
          obtain rfl : k = s.length := by omega
          have hA5 := hA
          have hfl := HR.out.fl
          have hgl := HR.out.gl
          have HLW := Lib.hid (fun v (h : Dl.Low T.length (fun j => F.getD j 0) (Dl.most s (T.drop i) s.length) i (T.length - i + 1) v) => HR.out.next hiT hA5.out h)
          have HB := Lib.hid (fun q (h1 : i + 1 ≤ q) (h2 : q ≤ T.length) => HR.out.bound htl q h1 h2)
          have HL1 := Lib.hid (Dl.Low.start (n := T.length) (f := fun j => F.getD j 0) (g := Dl.most s (T.drop i) s.length) hiT)
          generalize Dl.most s (T.drop i) s.length = g at *
          have hji := HI.out.1
          have cFj : w4.cell? ⟨bf, j, none⟩ = some (.int .i64 (F.getD j 0)) := VF.at j (icells_at (by omega))
          have cFi : w4.cell? ⟨bf, i, none⟩ = some (.int .i64 (F.getD i 0)) := VF.at i (icells_at (by omega))
          have fF := VF.g i
          have hbj := HB.out j (by omega) (by omega)
          have hHL : Hid (Dl.Low T.length (fun j => F.getD j 0) g i 1 (2 + F.getD j 0)) := by rw [hji]; exact HL1
          clear hji HL1 hA
          generalize F.getD j 0 = fj at *
          have hwj2 : IntKind.i64.wrap (2 + fj) = 2 + fj := IntWalk.i64_in _ (by omega)
          go_upto_region 16 with fail
          have VF5 := VF.set i (by rw [icells_len]; omega) (.int .i64 (2 + fj))
          rw [icells_set] at VF5
          have VG5 := VG.other (p := ⟨bf, i, none⟩) hfg (.int .i64 (2 + fj))
          have VN5 := VN.other (p := ⟨bf, i, none⟩) (Ne.symm hnf) (.int .i64 (2 + fj))
          have b5 : Ab w (w4.setCell ⟨bf, i, none⟩ (.int .i64 (2 + fj))) := b3.set hbf _
          clear VN VG VF VS b3 cFj cFi fF
          generalize w4.setCell ⟨bf, i, none⟩ (.int .i64 (2 + fj)) = w5 at *
          go_wp2_with fail
          go_loopw [13] (fun mv w' => ∃ (m : Nat) (v : Int), 1 ≤ m ∧ m ≤ T.length - i + 1 ∧ mv = .int .i64 (m : Int) ∧ Hid (Dl.Low T.length (fun j => F.getD j 0) g i m v) ∧ 0 ≤ v ∧ v ≤ 303 ∧ VB w' bf (icells (F.set i v)) ∧ VB w' bg (ncells (G.set i g)) ∧ VB w' bn (ncells Nx) ∧ Ab w w') (fun mv _ => T.length + 1 - (intOf mv).toNat)
          case atStart => exact ⟨1, _, Nat.le_refl _, by omega, rfl, hHL, by omega, by omega, VF5, VG5, VN5, b5⟩
          case round =>
            clear VF5 VG5 VN5 b5 hHL hwj2 hbj
            obtain ⟨m, v, hm1, hm2, rfl, hLo, hv0, hv1, VF, VG, VN, b6⟩ := hrel
            rename World => w6
            obtain ⟨q, hq⟩ : ∃ q : Nat, q = i + m := ⟨_, rfl⟩
            have hwq : IntKind.i64.wrap ((i : Int) + (m : Int)) = (q : Int) := by rw [show (i : Int) + (m : Int) = (q : Int) by omega]; exact IntWalk.i64_in _ (by omega)
            by_cases hm : q ≤ T.length
            · have hmI : (q : Int) ≤ (T.length : Int) := by omega
              have hqN : (q : Int) < (N1 : Int) := by omega
              have cQ : w6.cell? ⟨bf, q, none⟩ = some (.int .i64 (F.getD q 0)) := by
                have := VF.at q (icells_at (by simp; omega))
                rwa [getD_set_ne _ _ _ _ _ (by omega)] at this
              have cV : w6.cell? ⟨bf, i, none⟩ = some (.int .i64 v) := by
                have := VF.at i (icells_at (by simp; omega))
                rwa [getD_set_self _ _ _ _ (by omega)] at this
              have cG : w6.cell? ⟨bg, i, none⟩ = some (.int .i64 (g : Int)) := by
                have := VG.at i (ncells_at (by simp; omega))
                rwa [getD_set_self _ _ _ _ (by omega)] at this
              have hbq := HB.out q (by omega) hm
              have HLN : Hid (Dl.Low T.length (fun j => F.getD j 0) g i (m + 1) (if m ≤ g then min (min v (1 + m + F.getD q 0)) (3 + F.getD q 0) else min v (1 + m + F.getD q 0))) := by
                rw [hq]; exact hLo.out.next hm1 (by omega)
              have HQ := Lib.hid hq
              clear hq hLo
              generalize hfq : F.getD q 0 = fq at *
              have HFQ := Lib.hid hfq
              clear hfq
              have hwa : IntKind.i64.wrap (1 + (m : Int)) = 1 + (m : Int) := IntWalk.i64_in _ (by omega)
              have hwb : IntKind.i64.wrap (1 + (m : Int) + fq) = 1 + (m : Int) + fq := IntWalk.i64_in _ (by omega)
              have hwc : IntKind.i64.wrap (3 + fq) = 3 + fq := IntWalk.i64_in _ (by omega)
              go_upto_region 19 with fail
              obtain ⟨wd, hwd⟩ : ∃ wd : World, wd = w6.drew := ⟨_, rfl⟩
              have A5 : Ab w6 wd := by rw [hwd]; exact Ab.drew (Ab.refl _)
              have VF7 := VF.ab A5
              have VG7 := VG.ab A5
              have VN7 := VN.ab A5
              have b7 := b6.trans A5
              have cQ7 := A5.at cQ
              have cV7 := A5.at cV
              have cG7 := A5.at cG
              have fF := VF7.g i
              clear cQ cV cG A5 VF VG VN b6
              refine still_tail 17 (by kernel_rfl) (by kernel_rfl) wd hwd ?_
              clear hwd
              simp only [List.take_succ_cons, List.take_zero, List.drop_succ_cons, List.drop_zero]
              repeat still_step
              refine wpStill_nil ?_
              go_upto_region 20 with fail
              obtain ⟨v1, hv1e⟩ : ∃ v1 : Int, v1 = (if 1 + (m : Int) + fq < v then 1 + (m : Int) + fq else v) := ⟨_, rfl⟩
              rw [← hv1e]
              have hv1m : v1 = min v (1 + m + fq) := by rw [hv1e]; split <;> omega
              have hv10 : 0 ≤ v1 := by omega
              have hv11 : v1 ≤ 303 := by omega
              rw [← hv1m] at HLN
              have VF8 := VF7.set i (by rw [icells_len, List.length_set]; omega) (.int .i64 v1)
              rw [icells_set, List.set_set] at VF8
              have VG8 := VG7.other (p := ⟨bf, i, none⟩) hfg (.int .i64 v1)
              have VN8 := VN7.other (p := ⟨bf, i, none⟩) (Ne.symm hnf) (.int .i64 v1)
              have b8 : Ab w (wd.setCell ⟨bf, i, none⟩ (.int .i64 v1)) := b7.set hbf _
              clear hv1e hv1m VF7 VG7 VN7 b7 cQ7 cV7 cG7 fF hwa hwb
              generalize wd.setCell ⟨bf, i, none⟩ (.int .i64 v1) = w8 at *
              have cG : w8.cell? ⟨bg, i, none⟩ = some (.int .i64 (g : Int)) := by
                have := VG8.at i (ncells_at (by simp; omega))
                rwa [getD_set_self _ _ _ _ (by omega)] at this
              by_cases hmg : m ≤ g
              · rw [if_pos hmg] at HLN
                have hmgI : (m : Int) ≤ (g : Int) := by omega
                have hqi : i ≠ q := by have := HQ.out; omega
                have cQ : w8.cell? ⟨bf, q, none⟩ = some (.int .i64 fq) := by
                  have := VF8.at q (icells_at (by simp; omega))
                  rwa [getD_set_ne _ _ _ _ _ hqi, HFQ.out] at this
                have cV : w8.cell? ⟨bf, i, none⟩ = some (.int .i64 v1) := by
                  have := VF8.at i (icells_at (by simp; omega))
                  rwa [getD_set_self _ _ _ _ (by omega)] at this
                clear hqi
                go_upto_region 21 with fail
                obtain ⟨wd2, hwd⟩ : ∃ wd2 : World, wd2 = w8.drew := ⟨_, rfl⟩
                have A5 : Ab w8 wd2 := by rw [hwd]; exact Ab.drew (Ab.refl _)
                have VF9 := VF8.ab A5
                have VG9 := VG8.ab A5
                have VN9 := VN8.ab A5
                have b9 := b8.trans A5
                have cQ9 := A5.at cQ
                have cV9 := A5.at cV
                have fF := VF9.g i
                clear cQ cV cG A5 VF8 VG8 VN8 b8
                refine still_tail 15 (by kernel_rfl) (by kernel_rfl) wd2 hwd ?_
                clear hwd
                simp only [List.take_succ_cons, List.take_zero, List.drop_succ_cons, List.drop_zero]
                repeat still_step
                refine wpStill_nil ?_
                go_wp2
                obtain ⟨v2, hv2e⟩ : ∃ v2 : Int, v2 = (if 3 + fq < v1 then 3 + fq else v1) := ⟨_, rfl⟩
                rw [← hv2e]
                have hv2m : v2 = min v1 (3 + fq) := by rw [hv2e]; split <;> omega
                have hv20 : 0 ≤ v2 := by omega
                have hv21 : v2 ≤ 303 := by omega
                rw [← hv2m] at HLN
                have VFa := VF9.set i (by rw [icells_len, List.length_set]; omega) (.int .i64 v2)
                rw [icells_set, List.set_set] at VFa
                go_roundw
                case rel => exact ⟨m + 1, v2, by omega, by have := HQ.out; omega, by go_num, HLN, hv20, hv21, VFa, VG9.other (p := ⟨bf, i, none⟩) hfg _, VN9.other (p := ⟨bf, i, none⟩) (Ne.symm hnf) _, b9.set hbf _⟩
                case measure => have := HQ.out; simp [intOf] <;> omega
              · rw [if_neg hmg] at HLN
                have hmgI : ¬ (m : Int) ≤ (g : Int) := by omega
                go_wp2
                go_roundw
                case rel => exact ⟨m + 1, v1, by omega, by have := HQ.out; omega, by go_num, HLN, hv10, hv11, VF8, VG8, VN8, b8⟩
                case measure => have := HQ.out; simp [intOf] <;> omega
            · have hmI : ¬ (q : Int) ≤ (T.length : Int) := by omega
              have hme : m = T.length - i + 1 := by omega
              have HF := Lib.hid (HLW.out v (by rw [← hme]; exact hLo.out))
              have HI2 := HI.out.2
              clear hme hq hLo
              go_wp2
              go_roundw
              case rel => exact ⟨i, by omega, by go_num, bn, _, _, _, rfl, HF, hnf, hng, VF, VG, VN, b6⟩
              case measure => simp [intOf] <;> omega
end Go.Proofs.Ytbhhjbmpcpjcnaa
