/- The texts JRefA, JRefB, JRefC, JRefD, one behind the other. Own work. -/
import Derived.Test.YthgcfjhnnhigoaaGreatGU
import Derived.Test.YthgcfjhnnhigoaaGreatGT
set_option linter.unusedVariables false
set_option linter.unusedSimpArgs false
/- States and operations of the reference of layer 6, walked. Own work. -/
namespace Go.Proofs.YthgcfjhnnhigoaaGreat
open Go.RowKit

set_option maxRecDepth 100000 in
set_option maxHeartbeats 1600000 in
theorem jrstate_any (c : List Int) (hl : c.length = 8) (w : World) (b : Bool) (hb : decide (Jour.State c) = b) :
    Calls Tryz.prog 43 #[.agg #[.int .i64 (cx c 0), .int .i64 (cx c 1), .int .i64 (cx c 2), .int .i64 (cx c 3), .int .i64 (cx c 4), .int .i64 (cx c 5), .int .i64 (cx c 6), .int .i64 (cx c 7)]] w fun e w' => e = .returned (.bool b) ∧ Ab w w' := by
  have HB := Lib.hid hb
  clear hb
  go_enter Tryz.func43, Tryz.ntmps43
  have hc0 : CB (w.alloc (.cells #[.int .i64 (cx c 0), .int .i64 (cx c 1), .int .i64 (cx c 2), .int .i64 (cx c 3), .int .i64 (cx c 4), .int .i64 (cx c 5), .int .i64 (cx c 6), .int .i64 (cx c 7)] 30 (0, 0))) w.heap.size c := ⟨hl, VB.box (new_plain rfl)⟩
  go_wp2
  go_loopw [3] (fun i wr => ∃ k : Nat, k ≤ 8 ∧ i = .int .i64 (k : Int) ∧ Hid (∀ j, j < k → -1000000000 ≤ cx c j ∧ cx c j ≤ 1000000000) ∧ CB wr w.heap.size c ∧ Ab w wr) (fun i _ => 8 - (intOf i).toNat)
  case atStart => exact ⟨0, by omega, rfl, Lib.hid (fun j hj => absurd hj (by omega)), hc0, abA⟩
  case round =>
    obtain ⟨k, hk, rfl, hV, hc, hab⟩ := hrel
    by_cases hlt : k < 8
    · have q := hc.at hlt
      have cs0 := hc.v.lt
      by_cases h1 : -1000000000 ≤ cx c k
      · have d1 : decide (cx c k < -1000000000) = false := by simp; omega
        by_cases h2 : cx c k ≤ 1000000000
        · have d2 : decide (1000000000 < cx c k) = false := by simp; omega
          have HI := Lib.hid h1
          have HJ := Lib.hid h2
          clear h1 h2
          go_wp2
          go_roundw
          case rel => exact ⟨k + 1, by omega, by go_num, Lib.hid (fun j hj => by
            rcases Nat.lt_or_ge j k with h | h
            · exact hV.out j h
            · obtain rfl : j = k := by omega
              exact ⟨HI.out, HJ.out⟩), hc, abA⟩
          case measure => simp [intOf]; omega
        · have d2 : decide (1000000000 < cx c k) = true := by simp; omega
          have HI := Lib.hid h2
          clear h1 h2
          go_wp2
          obtain rfl : b = false := by
            rw [← HB.out, decide_eq_false_iff_not, state_iff hl]
            exact fun h => by have := h k hlt; have := HI.out; omega
          go_ret
          exact ⟨rfl, abA⟩
      · have d1 : decide (cx c k < -1000000000) = true := by simp; omega
        have HI := Lib.hid h1
        clear h1
        go_wp2
        obtain rfl : b = false := by
          rw [← HB.out, decide_eq_false_iff_not, state_iff hl]
          exact fun h => by have := h k hlt; have := HI.out; omega
        go_ret
        exact ⟨rfl, abA⟩
    · obtain rfl : k = 8 := by omega
      go_wp2
      obtain rfl : b = true := by
        rw [← HB.out, decide_eq_true_eq, state_iff hl]
        exact hV.out
      go_ret
      exact ⟨rfl, abA⟩
theorem jrvalid_any (m : Jour.Move) (w : World) (b : Bool) (hb : decide (Jour.Valid m) = b) :
    Calls Tryz.prog 25 #[.agg #[.int .i64 m.cell, .int .i64 m.add]] w fun e w' => e = .returned (.bool b) ∧ Ab w w' := by
  obtain ⟨c, a⟩ := m
  unfold Jour.Valid at hb
  dsimp only at hb ⊢
  by_cases h0 : 0 ≤ c
  · have g0 : decide (0 ≤ c) = true := by simpa using h0
    by_cases h1 : c < 8
    · have g1 : decide (c < 8) = true := by simpa using h1
      by_cases h2 : -1000000 ≤ a
      · have g2 : decide (-1000000 ≤ a) = true := by simpa using h2
        have hb' : decide (a ≤ 1000000) = b := by rw [← hb]; simp [h0, h1, h2]
        clear hb h0 h1 h2
        go_enter Tryz.func25, Tryz.ntmps25
        go_wp2
        go_ret
        exact ⟨rfl, abA⟩
      · have g2 : decide (-1000000 ≤ a) = false := by simpa using h2
        obtain rfl : b = false := by rw [← hb]; simp [h0, h1, h2]
        clear hb h0 h1 h2
        go_enter Tryz.func25, Tryz.ntmps25
        go_wp2
        go_ret
        exact ⟨rfl, abA⟩
    · have g1 : decide (c < 8) = false := by simpa using h1
      obtain rfl : b = false := by rw [← hb]; simp [h0, h1]
      clear hb h0 h1
      go_enter Tryz.func25, Tryz.ntmps25
      go_wp2
      go_ret
      exact ⟨rfl, abA⟩
  · have g0 : decide (0 ≤ c) = false := by simpa using h0
    obtain rfl : b = false := by rw [← hb]; simp [h0]
    clear hb h0
    go_enter Tryz.func25, Tryz.ntmps25
    go_wp2
    go_ret
    exact ⟨rfl, abA⟩
end Go.Proofs.YthgcfjhnnhigoaaGreat

/- Apply of the reference of layer 6, walked. Own work. -/
namespace Go.Proofs.YthgcfjhnnhigoaaGreat
open Go.RowKit

set_option maxRecDepth 100000 in
set_option maxHeartbeats 3200000 in
theorem jrapply_any (c : List Int) (hl : c.length = 8) (A : Option Addr) (cap : Nat) (ms : List Jour.Move) (w : World) (h : Mvs w 0 A ms) (hn : ms.length ≤ 100000) :
    Calls Tryz.prog 12 #[.agg #[.int .i64 (cx c 0), .int .i64 (cx c 1), .int .i64 (cx c 2), .int .i64 (cx c 3), .int .i64 (cx c 4), .int .i64 (cx c 5), .int .i64 (cx c 6), .int .i64 (cx c 7)], .slice A ms.length cap] w (RetC w (Jour.apply c ms)) := by
  go_enter Tryz.func12, Tryz.ntmps12
  have hc0 : CB ((w.alloc (.cells #[.int .i64 (cx c 0), .int .i64 (cx c 1), .int .i64 (cx c 2), .int .i64 (cx c 3), .int .i64 (cx c 4), .int .i64 (cx c 5), .int .i64 (cx c 6), .int .i64 (cx c 7)] 30 (0, 0))).alloc (.cells #[.int .i64 0, .int .i64 0, .int .i64 0, .int .i64 0, .int .i64 0, .int .i64 0, .int .i64 0, .int .i64 0] 30 (0, 0))) w.heap.size c := ⟨hl, VB.box (old_alloc (new_plain rfl))⟩
  have hr0 : VB ((w.alloc (.cells #[.int .i64 (cx c 0), .int .i64 (cx c 1), .int .i64 (cx c 2), .int .i64 (cx c 3), .int .i64 (cx c 4), .int .i64 (cx c 5), .int .i64 (cx c 6), .int .i64 (cx c 7)] 30 (0, 0))).alloc (.cells #[.int .i64 0, .int .i64 0, .int .i64 0, .int .i64 0, .int .i64 0, .int .i64 0, .int .i64 0, .int .i64 0] 30 (0, 0))) (w.heap.size + 1) [.int .i64 0, .int .i64 0, .int .i64 0, .int .i64 0, .int .i64 0, .int .i64 0, .int .i64 0, .int .i64 0] := VB.box (new_plain (by simp))
  by_cases hs : Jour.State c
  · have HS := Lib.hid hs
    have HM := Lib.hid (show Jour.apply c ms = Jour.go c ms from if_neg (by simpa using hs))
    clear hs
    have xq0 := (hc0.v).at 0 rfl
    have xq1 := (hc0.v).at 1 rfl
    have xq2 := (hc0.v).at 2 rfl
    have xq3 := (hc0.v).at 3 rfl
    have xq4 := (hc0.v).at 4 rfl
    have xq5 := (hc0.v).at 5 rfl
    have xq6 := (hc0.v).at 6 rfl
    have xq7 := (hc0.v).at 7 rfl
    go_wp2_with fail
    refine (jrstate_any c hl _ true (decide_eq_true HS.out)).mono ?_
    rintro e w1 ⟨rfl, hb1⟩
    clear xq0 xq1 xq2 xq3 xq4 xq5 xq6 xq7
    have b1 : Ab w w1 := abA
    have hcb : CB w1 w.heap.size c := hc0.ab hb1
    have hrb := hr0.ab hb1
    clear hb1 hc0 hr0
    go_wp2
    go_loopw [6] (fun i wr => ∃ (k : Nat) (d : List Int), k ≤ ms.length ∧ i = .int .i64 (k : Int) ∧ Hid (Jour.State d) ∧ Hid (Jour.go c ms = Jour.go d (ms.drop k)) ∧ CB wr w.heap.size d ∧
      VB wr (w.heap.size + 1) [.int .i64 0, .int .i64 0, .int .i64 0, .int .i64 0, .int .i64 0, .int .i64 0, .int .i64 0, .int .i64 0] ∧ Ab w wr) (fun i _ => ms.length - (intOf i).toNat)
    case atStart => exact ⟨0, c, Nat.zero_le _, rfl, HS, Lib.hid rfl, hcb, hrb, b1⟩
    case round =>
      obtain ⟨k, d, hk, rfl, hd, hgo, hc, hz, hab⟩ := hrel
      by_cases hlt : k < ms.length
      · obtain ⟨a, rfl, _, c0, c1⟩ := (h.ab hab).at_ hlt
        have HG := Lib.hid (hgo.out.trans (by rw [List.drop_eq_getElem_cons hlt, go_step]))
        generalize ms[k] = m at c0 c1 HG
        obtain ⟨mc, mx⟩ := m
        dsimp only at c0 c1
        have cs0 := hc.v.lt
        have rs0 := hz.lt
        by_cases hv : Jour.Valid ⟨mc, mx⟩
        · have HV := Lib.hid hv
          have hz2 := hz
          obtain ⟨v0, v1, v2, v3⟩ := hv
          dsimp only at v0 v1 v2 v3
          obtain ⟨j, rfl⟩ : ∃ j : Nat, mc = (j : Int) := ⟨mc.toNat, by omega⟩
          have h8 : j < 8 := by omega
          have HB := Lib.hid (bump_cx d hc.len ⟨(j : Int), mx⟩ v0 j rfl h8)
          have hx : -1000000000 ≤ cx d j ∧ cx d j ≤ 1000000000 := (state_iff hc.len).1 hd.out j h8
          have hw : IntKind.i64.wrap (cx d j + mx) = cx d j + mx := IntWalk.i64_in _ (by omega)
          clear v0 v1 v2 v3 hx
          go_wp2_with fail
          refine (jrvalid_any ⟨(j : Int), mx⟩ _ true (decide_eq_true HV.out)).mono ?_
          rintro e w2 ⟨rfl, hb2⟩
          have hc2 := hc.ab hb2
          have hz2 := hz.ab hb2
          have q1 := hc2.at h8
          have b2 : Ab w w2 := hab.trans hb2
          have c02 := hb2.at c0
          have c12 := hb2.at c1
          have cs2 := hc2.v.lt
          have g2 := hc2.v.g
          clear c0 c1 hc hz
          go_upto_region 8 with fail
          go_region
          have hc3 := hc2.set h8 (cx d j + mx)
          have hz3 := hz2.other (p := ⟨w.heap.size, j, none⟩) (by simp) (.int .i64 (cx d j + mx))
          have b3 : Ab w (w2.setCell ⟨w.heap.size, j, none⟩ (.int .i64 (cx d j + mx))) := b2.set (Nat.le_refl _) _
          generalize hw3 : w2.setCell ⟨w.heap.size, j, none⟩ (.int .i64 (cx d j + mx)) = w3 at *
          rw [show d.set j (cx d j + mx) = Jour.bump d ⟨(j : Int), mx⟩ from HB.out.symm] at hc3
          have HG2 := Lib.hid (HG.out.trans (if_neg (by simpa using HV.out)))
          clear q1 c02 c12 hw3 hw HG HB g2
          generalize Jour.bump d ⟨(j : Int), mx⟩ = d2 at *
          by_cases hst : Jour.State d2
          · have HT := Lib.hid hst
            clear hst
            have xq0 := (hc3.v).at 0 rfl
            have xq1 := (hc3.v).at 1 rfl
            have xq2 := (hc3.v).at 2 rfl
            have xq3 := (hc3.v).at 3 rfl
            have xq4 := (hc3.v).at 4 rfl
            have xq5 := (hc3.v).at 5 rfl
            have xq6 := (hc3.v).at 6 rfl
            have xq7 := (hc3.v).at 7 rfl
            go_wp2_with fail
            refine (jrstate_any d2 hc3.len _ true (decide_eq_true HT.out)).mono ?_
            rintro e w4 ⟨rfl, hb4⟩
            clear xq0 xq1 xq2 xq3 xq4 xq5 xq6 xq7
            go_wp2
            go_roundw
            case rel => exact ⟨k + 1, d2, by omega, by go_num, HT, Lib.hid (by rw [HG2.out, if_neg (fun n => n HT.out)]), (hc3.ab ((Ab.refl _).drew)).ab hb4, (hz3.ab ((Ab.refl _).drew)).ab hb4, (b3.drew).trans hb4⟩
            case measure => simp [intOf]; omega
          · have HT := Lib.hid hst
            clear hst
            have xq0 := (hc3.v).at 0 rfl
            have xq1 := (hc3.v).at 1 rfl
            have xq2 := (hc3.v).at 2 rfl
            have xq3 := (hc3.v).at 3 rfl
            have xq4 := (hc3.v).at 4 rfl
            have xq5 := (hc3.v).at 5 rfl
            have xq6 := (hc3.v).at 6 rfl
            have xq7 := (hc3.v).at 7 rfl
            go_wp2_with fail
            refine (jrstate_any d2 hc3.len _ false (decide_eq_false HT.out)).mono ?_
            rintro e w4 ⟨rfl, hb4⟩
            clear xq0 xq1 xq2 xq3 xq4 xq5 xq6 xq7
            have hz4 := (hz3.ab ((Ab.refl _).drew)).ab hb4
            have b4 : Ab w w4 := (b3.drew).trans hb4
            have rg := hz4.g
            have rq0 := (hz4).at 0 rfl
            have rq1 := (hz4).at 1 rfl
            have rq2 := (hz4).at 2 rfl
            have rq3 := (hz4).at 3 rfl
            have rq4 := (hz4).at 4 rfl
            have rq5 := (hz4).at 5 rfl
            have rq6 := (hz4).at 6 rfl
            have rq7 := (hz4).at 7 rfl
            go_wp2
            refine bodyPost_ret (v := .tuple #[.agg #[.int .i64 0, .int .i64 0, .int .i64 0, .int .i64 0, .int .i64 0, .int .i64 0, .int .i64 0, .int .i64 0], .int .i64 16]) (by simp [results, Tryz.results12, go_sem, *]) rfl ?_
            exact RetC.zero (by rw [HM.out, HG2.out, if_pos HT.out]) abA
        · have HV := Lib.hid hv
          clear hv
          go_wp2_with fail
          refine (jrvalid_any ⟨mc, mx⟩ _ false (decide_eq_false HV.out)).mono ?_
          rintro e w2 ⟨rfl, hb2⟩
          have hz2 := hz.ab hb2
          have rg := hz2.g
          have rq0 := (hz2).at 0 rfl
          have rq1 := (hz2).at 1 rfl
          have rq2 := (hz2).at 2 rfl
          have rq3 := (hz2).at 3 rfl
          have rq4 := (hz2).at 4 rfl
          have rq5 := (hz2).at 5 rfl
          have rq6 := (hz2).at 6 rfl
          have rq7 := (hz2).at 7 rfl
          go_wp2
          refine bodyPost_ret (v := .tuple #[.agg #[.int .i64 0, .int .i64 0, .int .i64 0, .int .i64 0, .int .i64 0, .int .i64 0, .int .i64 0, .int .i64 0], .int .i64 2]) (by simp [results, Tryz.results12, go_sem, *]) rfl ?_
          exact RetC.zero (by rw [HM.out, HG.out, if_pos HV.out]) abA
      · obtain rfl : k = ms.length := by omega
        have HG := Lib.hid (hgo.out.trans (by rw [List.drop_length]))
        have cs0 := hc.v.lt
        have rg := hz.g
        have rq0 := (hz).at 0 rfl
        have rq1 := (hz).at 1 rfl
        have rq2 := (hz).at 2 rfl
        have rq3 := (hz).at 3 rfl
        have rq4 := (hz).at 4 rfl
        have rq5 := (hz).at 5 rfl
        have rq6 := (hz).at 6 rfl
        have rq7 := (hz).at 7 rfl
        have xq0 := (hc.v).at 0 rfl
        have xq1 := (hc.v).at 1 rfl
        have xq2 := (hc.v).at 2 rfl
        have xq3 := (hc.v).at 3 rfl
        have xq4 := (hc.v).at 4 rfl
        have xq5 := (hc.v).at 5 rfl
        have xq6 := (hc.v).at 6 rfl
        have xq7 := (hc.v).at 7 rfl
        go_wp2
        refine bodyPost_ret (v := .tuple #[.agg #[.int .i64 (cx d 0), .int .i64 (cx d 1), .int .i64 (cx d 2), .int .i64 (cx d 3), .int .i64 (cx d 4), .int .i64 (cx d 5), .int .i64 (cx d 6), .int .i64 (cx d 7)], .int .i64 0]) (by simp [results, Tryz.results12, go_sem, *]) rfl ?_
        exact ⟨d, 0, Lib.hid (by rw [HM.out, HG.out]; rfl), rfl, hc.len, abA⟩
  · have HS := Lib.hid hs
    have HM := Lib.hid (show Jour.apply c ms = (Jour.zeros, 8) from if_pos hs)
    clear hs
    have xq0 := (hc0.v).at 0 rfl
    have xq1 := (hc0.v).at 1 rfl
    have xq2 := (hc0.v).at 2 rfl
    have xq3 := (hc0.v).at 3 rfl
    have xq4 := (hc0.v).at 4 rfl
    have xq5 := (hc0.v).at 5 rfl
    have xq6 := (hc0.v).at 6 rfl
    have xq7 := (hc0.v).at 7 rfl
    go_wp2_with fail
    refine (jrstate_any c hl _ false (decide_eq_false HS.out)).mono ?_
    rintro e w1 ⟨rfl, hb1⟩
    have hrb := hr0.ab hb1
    have rg := hrb.g
    have rq0 := (hrb).at 0 rfl
    have rq1 := (hrb).at 1 rfl
    have rq2 := (hrb).at 2 rfl
    have rq3 := (hrb).at 3 rfl
    have rq4 := (hrb).at 4 rfl
    have rq5 := (hrb).at 5 rfl
    have rq6 := (hrb).at 6 rfl
    have rq7 := (hrb).at 7 rfl
    go_wp2
    refine bodyPost_ret (v := .tuple #[.agg #[.int .i64 0, .int .i64 0, .int .i64 0, .int .i64 0, .int .i64 0, .int .i64 0, .int .i64 0, .int .i64 0], .int .i64 8]) (by simp [results, Tryz.results12, go_sem, *]) rfl ?_
    exact RetC.zero HM.out.symm abA
end Go.Proofs.YthgcfjhnnhigoaaGreat

/- Numbers as bytes in the reference of layer 6, walked. Own work. -/
namespace Go.Proofs.YthgcfjhnnhigoaaGreat
open Go.RowKit

/-- It returns the bytes m, in memory of its own that may grow. -/
def RetOw (w : World) (m : List UInt8) (e : Ending) (w' : World) : Prop :=
  ∃ (A : Option Addr) (c : Nat) (L : List UInt8), Hid (L = m) ∧ e = .returned (.slice A L.length c) ∧ OR 5 w.heap.size w' A c L ∧ Ab w w'
theorem val_step (b : List UInt8) (k : Nat) (hk : k < 8) (hb : 8 ≤ b.length) : Jour.valN ((b.take 8).drop k) = (b[k]'(by omega)).toNat + 256 * Jour.valN ((b.take 8).drop (k + 1)) := by
  rw [List.drop_eq_getElem_cons (by simp; omega)]
  simp [Jour.valN]
theorem val_bound (b : List UInt8) (k : Nat) : Jour.valN ((b.take 8).drop k) < 2 ^ (8 * (8 - k)) := by
  refine Nat.lt_of_lt_of_le (valN_lt _) (Nat.pow_le_pow_right (by decide) ?_)
  simp; omega
set_option maxRecDepth 100000 in
set_option maxHeartbeats 1600000 in
theorem jrread_any (A : Option Addr) (b : List UInt8) (c : Nat) (w : World) (hb : RB w 0 A b) (hk : 8 ≤ b.length) (v : Int) (hv : Jour.read b = v) :
    Calls Tryz.prog 98 #[.slice A b.length c] w fun e w' => e = .returned (.int .i64 v) ∧ Ab w w' := by
  obtain ⟨ad, rfl, _, hcell⟩ := hb (by omega)
  have HC := Lib.hid hcell
  have HV0 := Lib.hid hv
  clear hcell hv
  go_enter Tryz.func98, Tryz.ntmps98
  go_wp2
  go_loopw [3, 4] (fun x i wr => ∃ (j X : Nat) (u : Int), j ≤ 8 ∧ i = .int .i64 u ∧ u = (j : Int) - 1 ∧ x = .int .u64 (X : Int) ∧ Hid (X = Jour.valN ((b.take 8).drop j)) ∧ Ab w wr) (fun _ i _ => (intOf i + 1).toNat)
  case atStart => exact ⟨8, 0, 7, by omega, rfl, by omega, rfl, Lib.hid (by rw [List.drop_eq_nil_of_le (by simp; omega)]; rfl), abA⟩
  case round =>
    obtain ⟨j, X, u, hj, rfl, hu, rfl, hX, hab⟩ := hrel
    rcases Nat.eq_zero_or_pos j with rfl | hpos
    · obtain rfl : u = -1 := by omega
      clear hu
      go_wp2
      go_ret
      refine ⟨ret_int ?_, abA⟩
      rw [← HV0.out, hX.out]
      exact wrap64_high _ (Nat.lt_of_lt_of_le (val_bound b 0) (by decide))
    · obtain ⟨k, rfl⟩ : ∃ k, j = k + 1 := ⟨j - 1, by omega⟩
      obtain rfl : u = (k : Int) := by omega
      clear hu hpos
      have hc : wr.cell? (ad.add k) = some (.int .u8 ((b[k].toNat : Nat) : Int)) := hab.at (HC.out k (by omega))
      have HS := Lib.hid (val_step b k (by omega) hk)
      have HB := Lib.hid (val_bound b k)
      have hy := b[k].toNat_lt
      rw [← hX.out] at HS
      have hlim : Jour.valN ((b.take 8).drop k) < 18446744073709551616 := Nat.lt_of_lt_of_le HB.out (show 2 ^ (8 * (8 - k)) ≤ 2 ^ 64 from Nat.pow_le_pow_right (by decide) (by omega))
      rw [HS.out] at hlim
      generalize b[k].toNat = y at hc HS hy hlim
      have w1 : IntKind.u64.wrap (256 * (X : Int)) = 256 * (X : Int) := IntWalk.u64_in _ (by omega)
      have w2 : IntKind.u64.wrap (y : Int) = (y : Int) := IntWalk.u64_in _ (by omega)
      have w3 : IntKind.u64.wrap (256 * (X : Int) + (y : Int)) = 256 * (X : Int) + y := IntWalk.u64_in _ (by omega)
      have w4 : IntKind.i64.wrap ((k : Int) - 1) = (k : Int) - 1 := IntWalk.i64_in _ (by omega)
      have d0 : decide ((0 : Int) ≤ (k : Int)) = true := by simp
      have d1 : (k : Int) < b.length := by omega
      clear hlim
      go_wp2
      go_roundw
      case rel => exact ⟨k, y + 256 * X, _, by omega, rfl, rfl, by go_num, Lib.hid HS.out.symm, abA⟩
      case measure => simp [intOf]
end Go.Proofs.YthgcfjhnnhigoaaGreat

/- Operations and checkpoints as bytes in the reference of layer 6, walked. Own work. -/
namespace Go.Proofs.YthgcfjhnnhigoaaGreat
open Go.RowKit

theorem infoMv : (Tryz.prog.info? 34).map (·.size) = some 2 := by kernel_rfl
theorem run_cut_drop (b : List UInt8) (k : Nat) (hk : k ≤ b.length) (A : Option Addr) (c : Nat) (w : World) :
    (Instr.slice 22 (.slice A b.length c) (some (.int .i64 (k : Int))) none none).run Tryz.prog w = .ok (.slice (cutA A c k) (b.drop k).length (c - k)) w := by
  rw [List.length_drop]; exact run_cut k .i64 A b.length c w hk
/-- What moved returns. -/
def movedM (b : List UInt8) : Jour.Move × Bool := if b.length = 9 then (Jour.raw b, decide (Jour.Valid (Jour.raw b))) else (⟨0, 0⟩, false)
def RetMv (w : World) (m : Jour.Move × Bool) (e : Ending) (w' : World) : Prop :=
  ∃ (x : Jour.Move) (ok : Bool), Hid ((x, ok) = m) ∧ e = .returned (.tuple #[.agg #[.int .i64 x.cell, .int .i64 x.add], .bool ok]) ∧ Ab w w'
set_option maxRecDepth 100000 in
set_option maxHeartbeats 1600000 in
theorem jrmoved_any (A : Option Addr) (b : List UInt8) (c : Nat) (w : World) (hb : RB w 0 A b) (hc : b.length ≤ c) :
    Calls Tryz.prog 99 #[.slice A b.length c] w (RetMv w (movedM b)) := by
  have hr0 : VB (w.alloc (.cells #[.int .i64 0, .int .i64 0] 34 (0, 0))) w.heap.size [.int .i64 0, .int .i64 0] := VB.box (new_plain rfl)
  by_cases h9 : b.length = 9
  · have HM := Lib.hid (show movedM b = _ from if_pos h9)
    have d9 : ((b.length : Int) != 9) = false := by simp; omega
    have hcut : ∀ w, (Instr.slice 22 (.slice A b.length c) (some (.int .i64 1)) none none).run Tryz.prog w = .ok (.slice (cutA A c 1) (b.drop 1).length (c - 1)) w := fun w => run_cut_drop b 1 (by omega) A c w
    obtain ⟨ad, rfl, _, hcell⟩ := hb (by omega)
    have hcw : w.cell? ad = some (.int .u8 ((b[0].toNat : Nat) : Int)) := hcell 0 (by omega)
    have HRW := Lib.hid (show Jour.raw b = ⟨((b[0].toNat : Nat) : Int), Jour.read (b.drop 1)⟩ by
      unfold Jour.raw
      simp [List.getD_eq_getElem?_getD, show 0 < b.length by omega])
    have hb0 := b[0].toNat_lt
    generalize b[0].toNat = y at hcw HRW hb0
    have w0 : IntKind.i64.wrap (y : Int) = y := IntWalk.i64_in _ (by omega)
    have hnil : 0 < b.length := by omega
    have hl8 : 8 ≤ (b.drop 1).length := by rw [List.length_drop]; omega
    have hrd := hb.cut 1 c hc
    clear hcell h9 hb
    generalize b.drop 1 = t at hcut HRW hl8 hrd
    generalize cutA (some ad) c 1 = Tt at hcut hrd
    generalize c - 1 = ct at hcut
    go_enter Tryz.func99, Tryz.ntmps99
    go_upto_region 3 with fail
    go_cut [4] (fun v4 wx => (∃ P, v4 = .pointer (some ⟨P, 0, none⟩) ∧ VB wx P [.int .i64 (y : Int), .int .i64 (Jour.read t)] ∧ w.heap.size < P) ∧ Ab w wx ∧ VB wx w.heap.size [.int .i64 0, .int .i64 0] ∧ w.heap.size < wx.heap.size)
    case first =>
      refine wp_region_held_drew (by kernel_rfl) (S := fun w' => Ab w w' ∧ VB w' w.heap.size [.int .i64 0, .int .i64 0] ∧ w.heap.size < w'.heap.size) ?_ (fun hHeld => ?_)
      · exact ⟨abA, hr0.ab abA, by simp⟩
      (refine rtA 0 ?_ ?_
       (try simp only [Act.put, stA, st0, st1]))
      (refine rtA 1 ?_ ?_
       (try simp only [Act.put, stA, st0, st1]))
      (refine wpAnyH_take (i := 2) (v := ?_) rfl (by kernel_rfl) (by kernel_rfl) (by kernel_rfl) (fun _ _ _ h => h) (Or.inl ⟨by kernel_rfl, ?_⟩) (by assumption) ?_
       rotate_left
       · (intro w hSw; have hq9 := hSw.1.at hcw; go_simp; (try with_reducible rfl))
       (try simp only [Act.put, stA, st0, st1]))
      (refine rtA 3 ?_ ?_
       (try simp only [Act.put, stA, st0, st1]))
      (refine rtA 4 ?_ ?_
       (try simp only [Act.put, stA, st0, st1]))
      (refine rtA 5 ?_ ?_
       (try simp only [Act.put, stA, st0, st1]))
      (refine wpAnyH_ready (rs := [6, 8]) (by kernel_rfl) (by simp) ?_)
      refine AllReadyH.cons rfl (fun K hK => ?_) (AllReadyH.cons rfl (fun K hK => ?_) AllReadyH.nil)
      · (go_simp
         ((go_at_call 98)
          refine (jrread_any Tt t ct _ (hrd.ab hHeld.1) hl8 _ rfl).mono ?_
          rintro e w5 ⟨rfl, hb5⟩)
         (try go_wp2_with fail)
         (refine hK.out _ _ ?_ (fun hHeld => ?_)
          · (try dsimp only); exact ⟨hHeld.1.trans hb5, hHeld.2.1.ab hb5, Nat.lt_of_lt_of_le hHeld.2.2 (hb5).size⟩
          clear hK K
          (try simp only [Act.put, stA, st0, st1])))
        (refine rtA 7 ?_ ?_
         (try simp only [Act.put, stA, st0, st1]))
        refine r1A 8 (fun K hK => ?_)
        have A6 := (Ab.refl w5).alloc (.cells #[.int .i64 0, .int .i64 0] 34 (0, 0))
        have v6 : Var (w5.alloc (.cells #[.int .i64 0, .int .i64 0] 34 (0, 0))) (w5.heap.size) 2 := VB.var (vs := [.int .i64 0, .int .i64 0]) (VB.box (new_plain (by first | rfl | simp))) rfl
        have P6 : w.heap.size < w5.heap.size := by first | exact hHeld.2.2 | omega
        (go_simp
         (refine hK.out _ _ ?_ (fun hHeld => ?_)
          · (try dsimp only); exact ⟨hHeld.1.trans A6, hHeld.2.1.ab A6, Nat.lt_of_lt_of_le hHeld.2.2 (A6).size⟩
          clear hK K
          (try simp only [Act.put, stA, st0, st1])))
        refine r1A 9 (fun K hK => ?_)
        (try simp only [Act.put, List.getElem_toArray, List.getElem_cons_succ, List.getElem_cons_zero, stA, st0, st1])
        refine if_go (by rfl) ?_
        refine wp_stV 34 infoMv _ _ rfl rfl rfl v6 rfl rfl ?_
        intro w7 h7
        (refine hK.out _ _ ?_ (fun hHeld => ?_)
         · (try dsimp only); exact ⟨h7.ab w hHeld.1 (by omega), hHeld.2.1.mid h7.m (by omega), by rw [h7.sz]; exact hHeld.2.2⟩
         clear hK K
         (try simp only [Act.put, stA, st0, st1]))
        refine wpAnyH_done (by kernel_rfl) ?_ _
        go_wp2_with fail
        go_meet
        exact ⟨⟨_, rfl, h7.v, P6⟩, hHeld⟩
      · have A6 := (Ab.refl (w.alloc (.cells #[.int .i64 0, .int .i64 0] 34 (0, 0))).drew).alloc (.cells #[.int .i64 0, .int .i64 0] 34 (0, 0))
        have v6 : Var ((w.alloc (.cells #[.int .i64 0, .int .i64 0] 34 (0, 0))).drew.alloc (.cells #[.int .i64 0, .int .i64 0] 34 (0, 0))) (w.heap.size + 1) 2 := VB.var (vs := [.int .i64 0, .int .i64 0]) (VB.box (new_plain (by first | rfl | simp))) rfl
        have P6 : w.heap.size < w.heap.size + 1 := by first | exact hHeld.2.2 | omega
        (go_simp
         (refine hK.out _ _ ?_ (fun hHeld => ?_)
          · (try dsimp only); exact ⟨hHeld.1.trans A6, hHeld.2.1.ab A6, Nat.lt_of_lt_of_le hHeld.2.2 (A6).size⟩
          clear hK K
          (try simp only [Act.put, stA, st0, st1])))
        refine r1A 6 (fun K hK => ?_)
        (go_simp
         ((go_at_call 98)
          refine (jrread_any Tt t ct _ (hrd.ab hHeld.1) hl8 _ rfl).mono ?_
          rintro e w5 ⟨rfl, hb5⟩)
         (try go_wp2_with fail)
         (refine hK.out _ _ ?_ (fun hHeld => ?_)
          · (try dsimp only); exact ⟨hHeld.1.trans hb5, hHeld.2.1.ab hb5, Nat.lt_of_lt_of_le hHeld.2.2 (hb5).size⟩
          clear hK K
          (try simp only [Act.put, stA, st0, st1])))
        (refine rtA 7 ?_ ?_
         (try simp only [Act.put, stA, st0, st1]))
        have v8 := v6.ab hb5
        refine r1A 9 (fun K hK => ?_)
        (try simp only [Act.put, List.getElem_toArray, List.getElem_cons_succ, List.getElem_cons_zero, stA, st0, st1])
        refine if_go (by rfl) ?_
        refine wp_stV 34 infoMv _ _ rfl rfl rfl v8 rfl rfl ?_
        intro w7 h7
        (refine hK.out _ _ ?_ (fun hHeld => ?_)
         · (try dsimp only); exact ⟨h7.ab w hHeld.1 (by omega), hHeld.2.1.mid h7.m (by omega), by rw [h7.sz]; exact hHeld.2.2⟩
         clear hK K
         (try simp only [Act.put, stA, st0, st1]))
        refine wpAnyH_done (by kernel_rfl) ?_ _
        go_wp2_with fail
        go_meet
        exact ⟨⟨_, rfl, h7.v, P6⟩, hHeld⟩
    obtain ⟨⟨P, rfl, vP, hP⟩, bW, vR, hsz⟩ := hcut
    have HV := Lib.hid (show decide (Jour.Valid ⟨(y : Int), Jour.read t⟩) = decide (Jour.Valid (Jour.raw b)) by rw [HRW.out])
    generalize decide (Jour.Valid (Jour.raw b)) = ok at HV HM
    go_upto_region 4 with fail
    refine wp_region_held_drew (by kernel_rfl) (S := fun w' => Ab w w' ∧ Var w' w.heap.size 2 ∧ VB w' P [.int .i64 (y : Int), .int .i64 (Jour.read t)]) ?_ (fun hHeld => ?_)
    · exact ⟨abA, (vR.var rfl).ab abA, vP.ab abA⟩
    (refine rtL 0 [.int .i64 (y : Int), .int .i64 (Jour.read t)] 0 (fun w hSw => VB.rangeAt (hSw.2.2) 0 2) Tryz.underlying34 ?_
     (try simp only [Act.put, stA, st0, st1]))
    (refine rtL 1 [.int .i64 (y : Int), .int .i64 (Jour.read t)] 0 (fun w hSw => VB.rangeAt (hSw.2.2) 0 2) Tryz.underlying34 ?_
     (try simp only [Act.put, stA, st0, st1]))
    refine r1A 2 (fun K hK => ?_)
    (go_simp
     ((go_at_call 25)
      refine (jrvalid_any ⟨(y : Int), Jour.read t⟩ _ ok HV.out).mono ?_
      rintro e w5 ⟨rfl, hb5⟩)
     (try go_wp2_with fail)
     (refine hK.out _ _ ?_ (fun hHeld => ?_)
      · (try dsimp only); exact ⟨hHeld.1.trans hb5, hHeld.2.1.ab hb5, hHeld.2.2.ab hb5⟩
      clear hK K
      (try simp only [Act.put, stA, st0, st1])))
    refine r1A 3 (fun K hK => ?_)
    (try simp only [Act.put, List.getElem_toArray, List.getElem_cons_succ, List.getElem_cons_zero, stA, st0, st1])
    refine if_go (by rfl) ?_
    refine wp_stV 34 infoMv _ _ rfl rfl rfl hHeld.2.1 rfl rfl ?_
    intro w7 h7
    (refine hK.out _ _ ?_ (fun hHeld => ?_)
     · (try dsimp only); exact ⟨h7.ab w hHeld.1 (by omega), h7.v.var rfl, hHeld.2.2.mid h7.m (by omega)⟩
     clear hK K
     (try simp only [Act.put, stA, st0, st1]))
    refine r1A 4 (fun K hK => ?_)
    (go_simp
     (refine hK.out _ _ ?_ (fun hHeld => ?_)
      · (try dsimp only); exact hHeld
      clear hK K
      (try simp only [Act.put, stA, st0, st1])))
    refine wpAnyH_done (by kernel_rfl) ?_ _
    go_wp2
    have g0 := h7.v.at 0 rfl
    have g1 := h7.v.at 1 rfl
    refine bodyPost_ret (v := .tuple #[.agg #[.int .i64 (y : Int), .int .i64 (Jour.read t)], .bool ok]) (by simp [results, Tryz.results99, go_sem, *]) rfl ?_
    exact ⟨⟨(y : Int), Jour.read t⟩, ok, Lib.hid (by rw [HM.out, HRW.out]), rfl, h7.ab w (bW.trans abA) (Nat.le_refl _)⟩
  · have HM := Lib.hid (show movedM b = _ from if_neg h9)
    have d9 : ((b.length : Int) != 9) = true := by simp; omega
    clear h9
    go_enter Tryz.func99, Tryz.ntmps99
    go_wp2
    refine bodyPost_ret (v := .tuple #[.agg #[.int .i64 0, .int .i64 0], .bool false]) (by simp [results, Tryz.results99, go_sem, *]) rfl ?_
    exact ⟨⟨0, 0⟩, false, Lib.hid HM.out.symm, rfl, abA⟩
end Go.Proofs.YthgcfjhnnhigoaaGreat
