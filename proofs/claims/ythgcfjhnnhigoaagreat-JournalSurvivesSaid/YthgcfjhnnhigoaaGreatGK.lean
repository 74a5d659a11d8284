/- The texts JRefE, JRefF, JRefG, one behind the other. Own work. -/
import Derived.Test.YthgcfjhnnhigoaaGreatGV
import Derived.Test.YthgcfjhnnhigoaaGreatGR
import Derived.Test.YthgcfjhnnhigoaaGreatGP
import Derived.Test.YthgcfjhnnhigoaaGreatGY
set_option linter.unusedVariables false
set_option linter.unusedSimpArgs false
/- Written and base of the reference of layer 6, walked. Own work. -/
namespace Go.Proofs.YthgcfjhnnhigoaaGreat
open Go.RowKit
open Slots (Sl)

end Go.Proofs.YthgcfjhnnhigoaaGreat

/- The base of slots in the reference of layer 6, walked. Own work. -/
namespace Go.Proofs.YthgcfjhnnhigoaaGreat
open Go.RowKit
open Slots (Sl)

namespace Jour
/-- What base returns. -/
noncomputable def baseR (s : Sl) : Int × List Int × Bool := match Slots.newest s with
  | none => (0, zeros, true)
  | some r => if r.data.length ≠ 72 then (0, zeros, false) else (read r.data, cellsAt r.data, decide (0 ≤ read r.data ∧ read r.data ≤ 1000000000 ∧ State (cellsAt r.data)))
theorem baseR_none {s : Sl} (h : Slots.newest s = none) : baseR s = (0, zeros, true) := by unfold baseR; rw [h]
theorem baseR_short {s : Sl} {r : Frame.Rec} (h : Slots.newest s = some r) (h2 : r.data.length ≠ 72) : baseR s = (0, zeros, false) := by
  unfold baseR; rw [h]; simp only; rw [if_pos h2]
theorem baseR_some {s : Sl} {r : Frame.Rec} (h : Slots.newest s = some r) (h2 : r.data.length = 72) : baseR s = (read r.data, cellsAt r.data, decide (0 ≤ read r.data ∧ read r.data ≤ 1000000000 ∧ State (cellsAt r.data))) := by
  unfold baseR; rw [h]; simp only; rw [if_neg (fun k => k h2)]
theorem baseR_base (s : Sl) : base s = if (baseR s).2.2 then some ((baseR s).1, (baseR s).2.1) else none := by
  unfold base baseR
  rcases hn : Slots.newest s with _ | r
  · rfl
  · simp only
    unfold unpoint
    by_cases h : r.data.length = 72 <;> by_cases h2 : 0 ≤ read r.data ∧ read r.data ≤ 1000000000 ∧ State (cellsAt r.data) <;> simp [h, h2]
theorem cellsAt_cx (b : List UInt8) (d : List Int) (hd : d.length = 8) (h : ∀ j, j < 8 → d.getD j 0 = read (b.drop (8 * (j + 1)))) : d = cellsAt b := by
  refine ext_getD (by simp [cellsAt, hd]) fun i hi => ?_
  rw [h i (by omega)]
  simp [cellsAt, List.getD_eq_getElem?_getD, show i < 8 by omega]
end Jour
def RetBs (w : World) (m : Int × List Int × Bool) (e : Ending) (w' : World) : Prop :=
  ∃ (n : Int) (c : List Int) (ok : Bool), Hid ((n, c, ok) = m) ∧ e = .returned (.tuple #[.int .i64 n, .agg #[.int .i64 (cx c 0), .int .i64 (cx c 1), .int .i64 (cx c 2), .int .i64 (cx c 3), .int .i64 (cx c 4), .int .i64 (cx c 5), .int .i64 (cx c 6), .int .i64 (cx c 7)], .bool ok]) ∧ c.length = 8 ∧ Ab w w'
theorem RetBs.zero {w w' : World} {m : Int × List Int × Bool} {ok : Bool} (h : (0, Jour.zeros, ok) = m) (hb : Ab w w') : RetBs w m (.returned (.tuple #[.int .i64 0, .agg #[.int .i64 0, .int .i64 0, .int .i64 0, .int .i64 0, .int .i64 0, .int .i64 0, .int .i64 0, .int .i64 0], .bool ok])) w' := ⟨0, Jour.zeros, ok, h, rfl, rfl, hb⟩
set_option maxRecDepth 100000 in
set_option maxHeartbeats 6400000 in
theorem jrbase_any (m : AM) (s : Sl) (w : World) (h : SlM w 0 m s) (ha : s.a.s.length + s.a.t.length ≤ 20000) (hb : s.b.s.length + s.b.t.length ≤ 20000) :
    Calls Tryz.prog 62 #[.agg #[.slice m.A s.a.s.length m.ca, .slice m.B s.a.t.length m.cb, .int .i64 s.a.cap, .bool s.a.down, .slice m.C s.b.s.length m.cc, .slice m.D s.b.t.length m.cd, .int .i64 s.b.cap, .bool s.b.down, .int .i64 s.n]] w (RetBs w (Jour.baseR s)) := by
  go_enter Tryz.func62, Tryz.ntmps62
  have hbx : VB (((w.alloc (.cells #[.slice m.A s.a.s.length m.ca, .slice m.B s.a.t.length m.cb, .int .i64 s.a.cap, .bool s.a.down, .slice m.C s.b.s.length m.cc, .slice m.D s.b.t.length m.cd, .int .i64 s.b.cap, .bool s.b.down, .int .i64 s.n] 27 (0, 0))).alloc (.cells #[.int .i64 0, .int .i64 0, .int .i64 0, .int .i64 0, .int .i64 0, .int .i64 0, .int .i64 0, .int .i64 0] 30 (0, 0))).alloc (.cells #[.int .i64 0, .int .i64 0, .int .i64 0, .int .i64 0, .int .i64 0, .int .i64 0, .int .i64 0, .int .i64 0] 30 (0, 0))) w.heap.size [.slice m.A s.a.s.length m.ca, .slice m.B s.a.t.length m.cb, .int .i64 s.a.cap, .bool s.a.down, .slice m.C s.b.s.length m.cc, .slice m.D s.b.t.length m.cd, .int .i64 s.b.cap, .bool s.b.down, .int .i64 s.n] := VB.box (old_alloc (old_alloc (new_plain rfl)))
  have hrx : VB (((w.alloc (.cells #[.slice m.A s.a.s.length m.ca, .slice m.B s.a.t.length m.cb, .int .i64 s.a.cap, .bool s.a.down, .slice m.C s.b.s.length m.cc, .slice m.D s.b.t.length m.cd, .int .i64 s.b.cap, .bool s.b.down, .int .i64 s.n] 27 (0, 0))).alloc (.cells #[.int .i64 0, .int .i64 0, .int .i64 0, .int .i64 0, .int .i64 0, .int .i64 0, .int .i64 0, .int .i64 0] 30 (0, 0))).alloc (.cells #[.int .i64 0, .int .i64 0, .int .i64 0, .int .i64 0, .int .i64 0, .int .i64 0, .int .i64 0, .int .i64 0] 30 (0, 0))) (w.heap.size + 1) [.int .i64 0, .int .i64 0, .int .i64 0, .int .i64 0, .int .i64 0, .int .i64 0, .int .i64 0, .int .i64 0] := VB.box (old_alloc (new_plain (by simp)))
  have hcx : VB (((w.alloc (.cells #[.slice m.A s.a.s.length m.ca, .slice m.B s.a.t.length m.cb, .int .i64 s.a.cap, .bool s.a.down, .slice m.C s.b.s.length m.cc, .slice m.D s.b.t.length m.cd, .int .i64 s.b.cap, .bool s.b.down, .int .i64 s.n] 27 (0, 0))).alloc (.cells #[.int .i64 0, .int .i64 0, .int .i64 0, .int .i64 0, .int .i64 0, .int .i64 0, .int .i64 0, .int .i64 0] 30 (0, 0))).alloc (.cells #[.int .i64 0, .int .i64 0, .int .i64 0, .int .i64 0, .int .i64 0, .int .i64 0, .int .i64 0, .int .i64 0] 30 (0, 0))) (w.heap.size + 2) [.int .i64 0, .int .i64 0, .int .i64 0, .int .i64 0, .int .i64 0, .int .i64 0, .int .i64 0, .int .i64 0] := VB.box (new_plain (by simp))
  have xq0 := (hbx).at 0 rfl
  have xq1 := (hbx).at 1 rfl
  have xq2 := (hbx).at 2 rfl
  have xq3 := (hbx).at 3 rfl
  have xq4 := (hbx).at 4 rfl
  have xq5 := (hbx).at 5 rfl
  have xq6 := (hbx).at 6 rfl
  have xq7 := (hbx).at 7 rfl
  have xq8 := (hbx).at 8 rfl
  go_wp2_with fail
  refine (srnewest_any m s _ (h.ab abA) ha hb).mono ?_
  rintro e w1 ⟨r, ok, A, c, hr, rfl, hR, hc, hval, hb1⟩
  have v1 := hrx.ab hb1
  have v2 := hcx.ab hb1
  have b1 : Ab w w1 := abA
  have z2 := v2.lt
  have hR1 : RB w1 (w.heap.size + 3) A r.data := hR.mono (by simp)
  clear hbx hrx hcx xq0 xq1 xq2 xq3 xq4 xq5 xq6 xq7 xq8 hb1 hR
  cases ok with
  | false =>
    have HM := Lib.hid (Jour.baseR_none (s := s) hr.out.symm)
    obtain ⟨rn, data⟩ := r
    dsimp only at *
    have vd : VB (w1.alloc (.cells #[.int .i64 rn, .slice A data.length c] 108 (0, 0))) w1.heap.size [.int .i64 rn, .slice A data.length c] := VB.box (new_plain rfl)
    have p1 := vd.at 1 rfl
    have v2 := v2.ab ((Ab.refl w1).alloc (.cells #[.int .i64 rn, .slice A data.length c] 108 (0, 0)))
    have v1 := v1.ab ((Ab.refl w1).alloc (.cells #[.int .i64 rn, .slice A data.length c] 108 (0, 0)))
    go_upto_region 4 with fail
    refine wp_region_held_drew (by kernel_rfl) (S := fun w' => Ab w w' ∧ VB w' (w.heap.size + 2) [.int .i64 0, .int .i64 0, .int .i64 0, .int .i64 0, .int .i64 0, .int .i64 0, .int .i64 0, .int .i64 0] ∧ Var w' (w.heap.size + 1) 8) ?_ (fun hHeld => ?_)
    · exact ⟨abA, v2.ab abA, (v1.var rfl).ab abA⟩
    (refine rtL 0 [.int .i64 0, .int .i64 0, .int .i64 0, .int .i64 0, .int .i64 0, .int .i64 0, .int .i64 0, .int .i64 0] 0 (fun w hSw => VB.rangeAt (hSw.2.1) 0 8) Tryz.underlying30 ?_
     (try simp only [Act.put, stA, st0, st1]))
    refine r1A 1 (fun K hK => ?_)
    (go_simp
     (refine hK.out _ _ ?_ (fun hHeld => ?_)
      · (try dsimp only); exact hHeld
      clear hK K
      (try simp only [Act.put, stA, st0, st1])))
    refine r1A 2 (fun K hK => ?_)
    (try simp only [Act.put, List.getElem_toArray, List.getElem_cons_succ, List.getElem_cons_zero, stA, st0, st1])
    refine if_go (by rfl) ?_
    refine wp_stV 30 infoC _ _ rfl rfl rfl hHeld.2.2 rfl rfl ?_
    intro w7 h7
    (refine hK.out _ _ ?_ (fun hHeld => ?_)
     · (try dsimp only); exact ⟨h7.ab w hHeld.1 (by omega), hHeld.2.1.mid h7.m (by omega), h7.v.var rfl⟩
     clear hK K
     (try simp only [Act.put, stA, st0, st1]))
    refine r1A 3 (fun K hK => ?_)
    (go_simp
     (refine hK.out _ _ ?_ (fun hHeld => ?_)
      · (try dsimp only); exact hHeld
      clear hK K
      (try simp only [Act.put, stA, st0, st1])))
    refine wpAnyH_done (by kernel_rfl) ?_ _
    go_wp2
    have xq0 := (h7.v).at 0 rfl
    have xq1 := (h7.v).at 1 rfl
    have xq2 := (h7.v).at 2 rfl
    have xq3 := (h7.v).at 3 rfl
    have xq4 := (h7.v).at 4 rfl
    have xq5 := (h7.v).at 5 rfl
    have xq6 := (h7.v).at 6 rfl
    have xq7 := (h7.v).at 7 rfl
    refine bodyPost_ret (v := .tuple #[.int .i64 0, .agg #[.int .i64 0, .int .i64 0, .int .i64 0, .int .i64 0, .int .i64 0, .int .i64 0, .int .i64 0, .int .i64 0], .bool true]) (by simp [results, Tryz.results62, go_sem, *]) rfl ?_
    exact RetBs.zero HM.out.symm (h7.ab w abA (by omega))
  | true =>
    have hnew : Slots.newest s = some r := hr.out.symm
    clear hval hr
    by_cases h72 : r.data.length = 72
    · have HM := Lib.hid (Jour.baseR_some hnew h72)
      have d72 : ((r.data.length : Int) != 72) = false := by simp; omega
      have H72 := Lib.hid h72
      obtain ⟨rn, data⟩ := r
      dsimp only at hR1 hc d72 H72 HM h72
      have vd : VB (w1.alloc (.cells #[.int .i64 rn, .slice A data.length c] 108 (0, 0))) w1.heap.size [.int .i64 rn, .slice A data.length c] := VB.box (new_plain rfl)
      have p1 := vd.at 1 rfl
      clear hnew h72
      go_wp2
      go_loopw [8] (fun i wr => ∃ (k : Nat) (d : List Int), k ≤ 8 ∧ i = .int .i64 (k : Int) ∧ Hid (∀ j, j < k → d.getD j 0 = Jour.read (data.drop (8 * (j + 1)))) ∧ CB wr (w.heap.size + 2) d ∧ VB wr (w.heap.size + 1) [.int .i64 0, .int .i64 0, .int .i64 0, .int .i64 0, .int .i64 0, .int .i64 0, .int .i64 0, .int .i64 0] ∧ VB wr w1.heap.size [.int .i64 rn, .slice A data.length c] ∧ RB wr (w.heap.size + 3) A data ∧ Ab w wr) (fun i _ => 8 - (intOf i).toNat)
      case atStart => exact ⟨0, Jour.zeros, by omega, rfl, Lib.hid (fun j hj => absurd hj (by omega)), ⟨rfl, v2.ab abA⟩, v1.ab abA, vd.ab abA, hR1.ab abA, abA⟩
      case round =>
        obtain ⟨k, d, hk, rfl, hd, hcb, hv1, hvd, hRr, hab⟩ := hrel
        have zz := hvd.lt
        have zc := hcb.v.lt
        by_cases hlt : k < 8
        · have hcut0 : ∀ w, (Instr.slice 22 (.slice A data.length c) (some (.int .i64 (8 * ((k : Int) + 1)))) none none).run Tryz.prog w = .ok (.slice (cutA A c (8 * (k + 1))) (data.drop (8 * (k + 1))).length (c - 8 * (k + 1))) w := fun w => by
            have := run_cut_drop data (8 * (k + 1)) (by have := H72.out; omega) A c w
            rwa [show ((8 * (k + 1) : Nat) : Int) = 8 * ((k : Int) + 1) by omega] at this
          have w1' : IntKind.i64.wrap ((k : Int) + 1) = (k : Int) + 1 := IntWalk.i64_in _ (by omega)
          have w2' : IntKind.i64.wrap (8 * ((k : Int) + 1)) = 8 * ((k : Int) + 1) := IntWalk.i64_in _ (by omega)
          have hl8 : 8 ≤ (data.drop (8 * (k + 1))).length := by rw [List.length_drop, H72.out]; omega
          have hrd := hRr.cut (8 * (k + 1)) c hc
          have HV := Lib.hid (rfl : Jour.read (data.drop (8 * (k + 1))) = Jour.read (data.drop (8 * (k + 1))))
          generalize hv0 : Jour.read (data.drop (8 * (k + 1))) = v at HV
          have HV0 := Lib.hid hv0
          generalize data.drop (8 * (k + 1)) = t at hcut0 hl8 hrd hv0
          generalize cutA A c (8 * (k + 1)) = Tt at hcut0 hrd
          generalize c - 8 * (k + 1) = ct at hcut0
          have p1r := hvd.at 1 rfl
          have HT := Lib.hid hv0
          clear hv0
          have kI : (k : Int) < 8 := by omega
          go_wp2_with fail
          refine (jrread_any Tt t ct _ (hrd.zero.ab abA) hl8 v HT.out).mono ?_
          rintro e w5 ⟨rfl, hb5⟩
          have hcb5 := hcb.ab hb5
          have q5 := hcb5.at hlt
          have g5 := hcb5.v.g
          have hv15 := hv1.ab hb5
          have hvd5 := hvd.ab hb5
          have hR5 := hRr.ab hb5
          have z5 := hvd5.lt
          clear p1r hcut0
          go_wp2
          go_roundw
          case rel => exact ⟨k + 1, d.set k v, by omega, by go_num, Lib.hid (by
              intro j hj
              rcases Nat.lt_or_ge j k with hjk | hjk
              · rw [← hd.out j hjk]
                simp [List.getD_eq_getElem?_getD, List.getElem?_set, show k ≠ j by omega]
              · obtain rfl : j = k := by omega
                rw [HV0.out]
                simp [List.getD_eq_getElem?_getD, List.getElem?_set, hcb.len, hlt]), hcb5.set hlt v, hv15.other (p := ⟨w.heap.size + 2, k, none⟩) wnA _, hvd5.other (p := ⟨w.heap.size + 2, k, none⟩) wnA _, hR5.put wnA _, (hab.trans hb5).set wnA _⟩
          case measure => simp [intOf]; omega
        · obtain rfl : k = 8 := by omega
          have HD := Lib.hid (Jour.cellsAt_cx data d hcb.len hd.out)
          have p1r := hvd.at 1 rfl
          have hl8 : 8 ≤ data.length := by have := H72.out; omega
          go_wp2_with fail
          refine (jrread_any A data c _ (hRr.zero.ab abA) hl8 _ rfl).mono ?_
          rintro e w5 ⟨rfl, hb5⟩
          generalize hvg : Jour.read data = v
          have HV := Lib.hid hvg
          have hcb5 := hcb.ab hb5
          have hv15 := hv1.ab hb5
          have b5 := hab.trans hb5
          have z5 := hcb5.v.lt
          clear hvg p1r hcb hv1 hvd hRr hab
          by_cases hn0 : 0 ≤ v
          · by_cases hn1 : v ≤ 1000000000
            · have d0 : decide (0 ≤ v) = true := by simpa using hn0
              have d1 : decide (v ≤ 1000000000) = true := by simpa using hn1
              have HB := Lib.hid (show decide (0 ≤ v ∧ v ≤ 1000000000 ∧ Jour.State d) = decide (Jour.State d) by simp [hn0, hn1])
              generalize hbs : decide (Jour.State d) = bs at HB
              have HST := Lib.hid hbs
              clear hbs hn0 hn1
              go_upto_region 12 with fail
              refine wp_region_held_drew (by kernel_rfl) (S := fun w' => Ab w w' ∧ VB w' (w.heap.size + 2) [.int .i64 (cx d 0), .int .i64 (cx d 1), .int .i64 (cx d 2), .int .i64 (cx d 3), .int .i64 (cx d 4), .int .i64 (cx d 5), .int .i64 (cx d 6), .int .i64 (cx d 7)] ∧ Var w' (w.heap.size + 1) 8 ∧ w.heap.size + 2 < w'.heap.size) ?_ (fun hHeld => ?_)
              · exact ⟨abA, hcb5.v.ab abA, (hv15.var rfl).ab abA, by simp; omega⟩
              (refine rtA 0 ?_ ?_
               (try simp only [Act.put, stA, st0, st1]))
              (refine rtL 1 [.int .i64 (cx d 0), .int .i64 (cx d 1), .int .i64 (cx d 2), .int .i64 (cx d 3), .int .i64 (cx d 4), .int .i64 (cx d 5), .int .i64 (cx d 6), .int .i64 (cx d 7)] 0 (fun w hSw => VB.rangeAt (hSw.2.1) 0 8) Tryz.underlying30 ?_
               (try simp only [Act.put, stA, st0, st1]))
              (refine rtA 2 ?_ ?_
               (try simp only [Act.put, stA, st0, st1]))
              (refine rtA 3 ?_ ?_
               (try simp only [Act.put, stA, st0, st1]))
              (refine rtA 4 ?_ ?_
               (try simp only [Act.put, stA, st0, st1]))
              (refine rtA 5 ?_ ?_
               (try simp only [Act.put, stA, st0, st1]))
              (refine rtA 6 ?_ ?_
               (try simp only [Act.put, stA, st0, st1]))
              refine r1A 7 (fun K hK => ?_)
              (go_simp
               (refine hK.out _ _ ?_ (fun hHeld => ?_)
                · (try dsimp only); exact hHeld
                clear hK K
                (try simp only [Act.put, stA, st0, st1])))
              (refine rtA 8 ?_ ?_
               (try simp only [Act.put, stA, st0, st1]))
              (refine rtL 9 [.int .i64 (cx d 0), .int .i64 (cx d 1), .int .i64 (cx d 2), .int .i64 (cx d 3), .int .i64 (cx d 4), .int .i64 (cx d 5), .int .i64 (cx d 6), .int .i64 (cx d 7)] 0 (fun w hSw => VB.rangeAt (hSw.2.1) 0 8) Tryz.underlying30 ?_
               (try simp only [Act.put, stA, st0, st1]))
              refine r1A 10 (fun K hK => ?_)
              (go_simp
               ((go_at_call 43)
                refine (jrstate_any d hcb5.len _ bs HST.out).mono ?_
                rintro e w6 ⟨rfl, hb6⟩)
               (try go_wp2_with fail)
               (refine hK.out _ _ ?_ (fun hHeld => ?_)
                · (try dsimp only); exact ⟨hHeld.1.trans hb6, hHeld.2.1.ab hb6, hHeld.2.2.1.ab hb6, Nat.lt_of_lt_of_le hHeld.2.2.2 hb6.size⟩
                clear hK K
                (try simp only [Act.put, stA, st0, st1])))
              (refine wpAnyH_ready (rs := [11, 12]) (by kernel_rfl) (by simp) ?_)
              refine AllReadyH.cons rfl (fun K hK => ?_) (AllReadyH.cons rfl (fun K hK => ?_) AllReadyH.nil)
              · (go_simp
                 (refine hK.out _ _ ?_ (fun hHeld => ?_)
                  · (try dsimp only); exact hHeld
                  clear hK K
                  (try simp only [Act.put, stA, st0, st1])))
                refine r1A 12 (fun K hK => ?_)
                (go_simp
                 (refine hK.out _ _ ?_ (fun hHeld => ?_)
                  · (try dsimp only); exact hHeld
                  clear hK K
                  (try simp only [Act.put, stA, st0, st1])))
                refine r1A 13 (fun K hK => ?_)
                (try simp only [Act.put, List.getElem_toArray, List.getElem_cons_succ, List.getElem_cons_zero, stA, st0, st1])
                refine if_go (by rfl) ?_
                refine wp_stV 30 infoC _ _ rfl rfl rfl hHeld.2.2.1 rfl rfl ?_
                intro w7 h7
                (refine hK.out _ _ ?_ (fun hHeld => ?_)
                 · (try dsimp only); exact ⟨h7.ab w hHeld.1 (by omega), hHeld.2.1.mid h7.m (by omega), h7.v.var rfl, by rw [h7.sz]; exact hHeld.2.2.2⟩
                 clear hK K
                 (try simp only [Act.put, stA, st0, st1]))
                refine r1A 14 (fun K hK => ?_)
                (go_simp
                 (refine hK.out _ _ ?_ (fun hHeld => ?_)
                  · (try dsimp only); exact hHeld
                  clear hK K
                  (try simp only [Act.put, stA, st0, st1])))
                refine wpAnyH_done (by kernel_rfl) ?_ _
                go_wp2
                have xq0 := (h7.v).at 0 rfl
                have xq1 := (h7.v).at 1 rfl
                have xq2 := (h7.v).at 2 rfl
                have xq3 := (h7.v).at 3 rfl
                have xq4 := (h7.v).at 4 rfl
                have xq5 := (h7.v).at 5 rfl
                have xq6 := (h7.v).at 6 rfl
                have xq7 := (h7.v).at 7 rfl
                refine bodyPost_ret (v := .tuple #[.int .i64 v, .agg #[.int .i64 (cx d 0), .int .i64 (cx d 1), .int .i64 (cx d 2), .int .i64 (cx d 3), .int .i64 (cx d 4), .int .i64 (cx d 5), .int .i64 (cx d 6), .int .i64 (cx d 7)], .bool bs]) (by simp [results, Tryz.results62, go_sem, *]) rfl ?_
                exact ⟨v, d, bs, Lib.hid (by rw [HM.out, HV.out, ← HD.out, HB.out]), rfl, hcb5.len, h7.ab w abA (by omega)⟩
              · (go_simp
                 (refine hK.out _ _ ?_ (fun hHeld => ?_)
                  · (try dsimp only); exact hHeld
                  clear hK K
                  (try simp only [Act.put, stA, st0, st1])))
                (refine wpAnyH_ready (rs := [11, 13]) (by kernel_rfl) (by simp) ?_)
                refine AllReadyH.cons rfl (fun K hK => ?_) (AllReadyH.cons rfl (fun K hK => ?_) AllReadyH.nil)
                · (go_simp
                   (refine hK.out _ _ ?_ (fun hHeld => ?_)
                    · (try dsimp only); exact hHeld
                    clear hK K
                    (try simp only [Act.put, stA, st0, st1])))
                  refine r1A 13 (fun K hK => ?_)
                  (try simp only [Act.put, List.getElem_toArray, List.getElem_cons_succ, List.getElem_cons_zero, stA, st0, st1])
                  refine if_go (by rfl) ?_
                  refine wp_stV 30 infoC _ _ rfl rfl rfl hHeld.2.2.1 rfl rfl ?_
                  intro w7 h7
                  (refine hK.out _ _ ?_ (fun hHeld => ?_)
                   · (try dsimp only); exact ⟨h7.ab w hHeld.1 (by omega), hHeld.2.1.mid h7.m (by omega), h7.v.var rfl, by rw [h7.sz]; exact hHeld.2.2.2⟩
                   clear hK K
                   (try simp only [Act.put, stA, st0, st1]))
                  refine r1A 14 (fun K hK => ?_)
                  (go_simp
                   (refine hK.out _ _ ?_ (fun hHeld => ?_)
                    · (try dsimp only); exact hHeld
                    clear hK K
                    (try simp only [Act.put, stA, st0, st1])))
                  refine wpAnyH_done (by kernel_rfl) ?_ _
                  go_wp2
                  have xq0 := (h7.v).at 0 rfl
                  have xq1 := (h7.v).at 1 rfl
                  have xq2 := (h7.v).at 2 rfl
                  have xq3 := (h7.v).at 3 rfl
                  have xq4 := (h7.v).at 4 rfl
                  have xq5 := (h7.v).at 5 rfl
                  have xq6 := (h7.v).at 6 rfl
                  have xq7 := (h7.v).at 7 rfl
                  refine bodyPost_ret (v := .tuple #[.int .i64 v, .agg #[.int .i64 (cx d 0), .int .i64 (cx d 1), .int .i64 (cx d 2), .int .i64 (cx d 3), .int .i64 (cx d 4), .int .i64 (cx d 5), .int .i64 (cx d 6), .int .i64 (cx d 7)], .bool bs]) (by simp [results, Tryz.results62, go_sem, *]) rfl ?_
                  exact ⟨v, d, bs, Lib.hid (by rw [HM.out, HV.out, ← HD.out, HB.out]), rfl, hcb5.len, h7.ab w abA (by omega)⟩
                · (try simp only [Act.put, List.getElem_toArray, List.getElem_cons_succ, List.getElem_cons_zero, stA, st0, st1])
                  refine if_go (by rfl) ?_
                  refine wp_stV 30 infoC _ _ rfl rfl rfl hHeld.2.2.1 rfl rfl ?_
                  intro w7 h7
                  (refine hK.out _ _ ?_ (fun hHeld => ?_)
                   · (try dsimp only); exact ⟨h7.ab w hHeld.1 (by omega), hHeld.2.1.mid h7.m (by omega), h7.v.var rfl, by rw [h7.sz]; exact hHeld.2.2.2⟩
                   clear hK K
                   (try simp only [Act.put, stA, st0, st1]))
                  refine r1A 11 (fun K hK => ?_)
                  (go_simp
                   (refine hK.out _ _ ?_ (fun hHeld => ?_)
                    · (try dsimp only); exact hHeld
                    clear hK K
                    (try simp only [Act.put, stA, st0, st1])))
                  refine r1A 14 (fun K hK => ?_)
                  (go_simp
                   (refine hK.out _ _ ?_ (fun hHeld => ?_)
                    · (try dsimp only); exact hHeld
                    clear hK K
                    (try simp only [Act.put, stA, st0, st1])))
                  refine wpAnyH_done (by kernel_rfl) ?_ _
                  go_wp2
                  have xq0 := (h7.v).at 0 rfl
                  have xq1 := (h7.v).at 1 rfl
                  have xq2 := (h7.v).at 2 rfl
                  have xq3 := (h7.v).at 3 rfl
                  have xq4 := (h7.v).at 4 rfl
                  have xq5 := (h7.v).at 5 rfl
                  have xq6 := (h7.v).at 6 rfl
                  have xq7 := (h7.v).at 7 rfl
                  refine bodyPost_ret (v := .tuple #[.int .i64 v, .agg #[.int .i64 (cx d 0), .int .i64 (cx d 1), .int .i64 (cx d 2), .int .i64 (cx d 3), .int .i64 (cx d 4), .int .i64 (cx d 5), .int .i64 (cx d 6), .int .i64 (cx d 7)], .bool bs]) (by simp [results, Tryz.results62, go_sem, *]) rfl ?_
                  exact ⟨v, d, bs, Lib.hid (by rw [HM.out, HV.out, ← HD.out, HB.out]), rfl, hcb5.len, h7.ab w abA (by omega)⟩
            · have N1 := Lib.hid hn1
              have d0 : decide (0 ≤ v) = true := by simpa using hn0
              have d1 : decide (v ≤ 1000000000) = false := by simpa using hn1
              clear hn1 hn0
              have HB := Lib.hid (show decide (0 ≤ v ∧ v ≤ 1000000000 ∧ Jour.State d) = false from decide_eq_false fun k => N1.out k.2.1)
              go_upto_region 12 with fail
              refine wp_region_held_drew (by kernel_rfl) (S := fun w' => Ab w w' ∧ VB w' (w.heap.size + 2) [.int .i64 (cx d 0), .int .i64 (cx d 1), .int .i64 (cx d 2), .int .i64 (cx d 3), .int .i64 (cx d 4), .int .i64 (cx d 5), .int .i64 (cx d 6), .int .i64 (cx d 7)] ∧ Var w' (w.heap.size + 1) 8 ∧ w.heap.size + 2 < w'.heap.size) ?_ (fun hHeld => ?_)
              · exact ⟨abA, hcb5.v.ab abA, (hv15.var rfl).ab abA, by simp; omega⟩
              (refine rtA 0 ?_ ?_
               (try simp only [Act.put, stA, st0, st1]))
              (refine rtL 1 [.int .i64 (cx d 0), .int .i64 (cx d 1), .int .i64 (cx d 2), .int .i64 (cx d 3), .int .i64 (cx d 4), .int .i64 (cx d 5), .int .i64 (cx d 6), .int .i64 (cx d 7)] 0 (fun w hSw => VB.rangeAt (hSw.2.1) 0 8) Tryz.underlying30 ?_
               (try simp only [Act.put, stA, st0, st1]))
              (refine rtA 2 ?_ ?_
               (try simp only [Act.put, stA, st0, st1]))
              (refine rtA 3 ?_ ?_
               (try simp only [Act.put, stA, st0, st1]))
              (refine rtA 4 ?_ ?_
               (try simp only [Act.put, stA, st0, st1]))
              (refine rtA 5 ?_ ?_
               (try simp only [Act.put, stA, st0, st1]))
              (refine rtA 6 ?_ ?_
               (try simp only [Act.put, stA, st0, st1]))
              refine r1A 7 (fun K hK => ?_)
              (go_simp
               (refine hK.out _ _ ?_ (fun hHeld => ?_)
                · (try dsimp only); exact hHeld
                clear hK K
                (try simp only [Act.put, stA, st0, st1])))
              (refine rtA 8 ?_ ?_
               (try simp only [Act.put, stA, st0, st1]))
              (refine rtS 9 ?_
               (try simp only [Act.put, stA, st0, st1]))
              (refine rtS 10 ?_
               (try simp only [Act.put, stA, st0, st1]))
              (refine wpAnyH_ready (rs := [11, 12]) (by kernel_rfl) (by simp) ?_)
              refine AllReadyH.cons rfl (fun K hK => ?_) (AllReadyH.cons rfl (fun K hK => ?_) AllReadyH.nil)
              · (go_simp
                 (refine hK.out _ _ ?_ (fun hHeld => ?_)
                  · (try dsimp only); exact hHeld
                  clear hK K
                  (try simp only [Act.put, stA, st0, st1])))
                refine r1A 12 (fun K hK => ?_)
                (go_simp
                 (refine hK.out _ _ ?_ (fun hHeld => ?_)
                  · (try dsimp only); exact hHeld
                  clear hK K
                  (try simp only [Act.put, stA, st0, st1])))
                refine r1A 13 (fun K hK => ?_)
                (try simp only [Act.put, List.getElem_toArray, List.getElem_cons_succ, List.getElem_cons_zero, stA, st0, st1])
                refine if_go (by rfl) ?_
                refine wp_stV 30 infoC _ _ rfl rfl rfl hHeld.2.2.1 rfl rfl ?_
                intro w7 h7
                (refine hK.out _ _ ?_ (fun hHeld => ?_)
                 · (try dsimp only); exact ⟨h7.ab w hHeld.1 (by omega), hHeld.2.1.mid h7.m (by omega), h7.v.var rfl, by rw [h7.sz]; exact hHeld.2.2.2⟩
                 clear hK K
                 (try simp only [Act.put, stA, st0, st1]))
                refine r1A 14 (fun K hK => ?_)
                (go_simp
                 (refine hK.out _ _ ?_ (fun hHeld => ?_)
                  · (try dsimp only); exact hHeld
                  clear hK K
                  (try simp only [Act.put, stA, st0, st1])))
                refine wpAnyH_done (by kernel_rfl) ?_ _
                go_wp2
                have xq0 := (h7.v).at 0 rfl
                have xq1 := (h7.v).at 1 rfl
                have xq2 := (h7.v).at 2 rfl
                have xq3 := (h7.v).at 3 rfl
                have xq4 := (h7.v).at 4 rfl
                have xq5 := (h7.v).at 5 rfl
                have xq6 := (h7.v).at 6 rfl
                have xq7 := (h7.v).at 7 rfl
                refine bodyPost_ret (v := .tuple #[.int .i64 v, .agg #[.int .i64 (cx d 0), .int .i64 (cx d 1), .int .i64 (cx d 2), .int .i64 (cx d 3), .int .i64 (cx d 4), .int .i64 (cx d 5), .int .i64 (cx d 6), .int .i64 (cx d 7)], .bool false]) (by simp [results, Tryz.results62, go_sem, *]) rfl ?_
                exact ⟨v, d, false, Lib.hid (by rw [HM.out, HV.out, ← HD.out, HB.out]), rfl, hcb5.len, h7.ab w abA (by omega)⟩
              · (go_simp
                 (refine hK.out _ _ ?_ (fun hHeld => ?_)
                  · (try dsimp only); exact hHeld
                  clear hK K
                  (try simp only [Act.put, stA, st0, st1])))
                (refine wpAnyH_ready (rs := [11, 13]) (by kernel_rfl) (by simp) ?_)
                refine AllReadyH.cons rfl (fun K hK => ?_) (AllReadyH.cons rfl (fun K hK => ?_) AllReadyH.nil)
                · (go_simp
                   (refine hK.out _ _ ?_ (fun hHeld => ?_)
                    · (try dsimp only); exact hHeld
                    clear hK K
                    (try simp only [Act.put, stA, st0, st1])))
                  refine r1A 13 (fun K hK => ?_)
                  (try simp only [Act.put, List.getElem_toArray, List.getElem_cons_succ, List.getElem_cons_zero, stA, st0, st1])
                  refine if_go (by rfl) ?_
                  refine wp_stV 30 infoC _ _ rfl rfl rfl hHeld.2.2.1 rfl rfl ?_
                  intro w7 h7
                  (refine hK.out _ _ ?_ (fun hHeld => ?_)
                   · (try dsimp only); exact ⟨h7.ab w hHeld.1 (by omega), hHeld.2.1.mid h7.m (by omega), h7.v.var rfl, by rw [h7.sz]; exact hHeld.2.2.2⟩
                   clear hK K
                   (try simp only [Act.put, stA, st0, st1]))
                  refine r1A 14 (fun K hK => ?_)
                  (go_simp
                   (refine hK.out _ _ ?_ (fun hHeld => ?_)
                    · (try dsimp only); exact hHeld
                    clear hK K
                    (try simp only [Act.put, stA, st0, st1])))
                  refine wpAnyH_done (by kernel_rfl) ?_ _
                  go_wp2
                  have xq0 := (h7.v).at 0 rfl
                  have xq1 := (h7.v).at 1 rfl
                  have xq2 := (h7.v).at 2 rfl
                  have xq3 := (h7.v).at 3 rfl
                  have xq4 := (h7.v).at 4 rfl
                  have xq5 := (h7.v).at 5 rfl
                  have xq6 := (h7.v).at 6 rfl
                  have xq7 := (h7.v).at 7 rfl
                  refine bodyPost_ret (v := .tuple #[.int .i64 v, .agg #[.int .i64 (cx d 0), .int .i64 (cx d 1), .int .i64 (cx d 2), .int .i64 (cx d 3), .int .i64 (cx d 4), .int .i64 (cx d 5), .int .i64 (cx d 6), .int .i64 (cx d 7)], .bool false]) (by simp [results, Tryz.results62, go_sem, *]) rfl ?_
                  exact ⟨v, d, false, Lib.hid (by rw [HM.out, HV.out, ← HD.out, HB.out]), rfl, hcb5.len, h7.ab w abA (by omega)⟩
                · (try simp only [Act.put, List.getElem_toArray, List.getElem_cons_succ, List.getElem_cons_zero, stA, st0, st1])
                  refine if_go (by rfl) ?_
                  refine wp_stV 30 infoC _ _ rfl rfl rfl hHeld.2.2.1 rfl rfl ?_
                  intro w7 h7
                  (refine hK.out _ _ ?_ (fun hHeld => ?_)
                   · (try dsimp only); exact ⟨h7.ab w hHeld.1 (by omega), hHeld.2.1.mid h7.m (by omega), h7.v.var rfl, by rw [h7.sz]; exact hHeld.2.2.2⟩
                   clear hK K
                   (try simp only [Act.put, stA, st0, st1]))
                  refine r1A 11 (fun K hK => ?_)
                  (go_simp
                   (refine hK.out _ _ ?_ (fun hHeld => ?_)
                    · (try dsimp only); exact hHeld
                    clear hK K
                    (try simp only [Act.put, stA, st0, st1])))
                  refine r1A 14 (fun K hK => ?_)
                  (go_simp
                   (refine hK.out _ _ ?_ (fun hHeld => ?_)
                    · (try dsimp only); exact hHeld
                    clear hK K
                    (try simp only [Act.put, stA, st0, st1])))
                  refine wpAnyH_done (by kernel_rfl) ?_ _
                  go_wp2
                  have xq0 := (h7.v).at 0 rfl
                  have xq1 := (h7.v).at 1 rfl
                  have xq2 := (h7.v).at 2 rfl
                  have xq3 := (h7.v).at 3 rfl
                  have xq4 := (h7.v).at 4 rfl
                  have xq5 := (h7.v).at 5 rfl
                  have xq6 := (h7.v).at 6 rfl
                  have xq7 := (h7.v).at 7 rfl
                  refine bodyPost_ret (v := .tuple #[.int .i64 v, .agg #[.int .i64 (cx d 0), .int .i64 (cx d 1), .int .i64 (cx d 2), .int .i64 (cx d 3), .int .i64 (cx d 4), .int .i64 (cx d 5), .int .i64 (cx d 6), .int .i64 (cx d 7)], .bool false]) (by simp [results, Tryz.results62, go_sem, *]) rfl ?_
                  exact ⟨v, d, false, Lib.hid (by rw [HM.out, HV.out, ← HD.out, HB.out]), rfl, hcb5.len, h7.ab w abA (by omega)⟩
          · have N1 := Lib.hid hn0
            have d0 : decide (0 ≤ v) = false := by simpa using hn0
            clear hn0
            have HB := Lib.hid (show decide (0 ≤ v ∧ v ≤ 1000000000 ∧ Jour.State d) = false from decide_eq_false fun k => N1.out k.1)
            go_upto_region 12 with fail
            refine wp_region_held_drew (by kernel_rfl) (S := fun w' => Ab w w' ∧ VB w' (w.heap.size + 2) [.int .i64 (cx d 0), .int .i64 (cx d 1), .int .i64 (cx d 2), .int .i64 (cx d 3), .int .i64 (cx d 4), .int .i64 (cx d 5), .int .i64 (cx d 6), .int .i64 (cx d 7)] ∧ Var w' (w.heap.size + 1) 8 ∧ w.heap.size + 2 < w'.heap.size) ?_ (fun hHeld => ?_)
            · exact ⟨abA, hcb5.v.ab abA, (hv15.var rfl).ab abA, by simp; omega⟩
            (refine rtA 0 ?_ ?_
             (try simp only [Act.put, stA, st0, st1]))
            (refine rtL 1 [.int .i64 (cx d 0), .int .i64 (cx d 1), .int .i64 (cx d 2), .int .i64 (cx d 3), .int .i64 (cx d 4), .int .i64 (cx d 5), .int .i64 (cx d 6), .int .i64 (cx d 7)] 0 (fun w hSw => VB.rangeAt (hSw.2.1) 0 8) Tryz.underlying30 ?_
             (try simp only [Act.put, stA, st0, st1]))
            (refine rtA 2 ?_ ?_
             (try simp only [Act.put, stA, st0, st1]))
            (refine rtA 3 ?_ ?_
             (try simp only [Act.put, stA, st0, st1]))
            (refine rtA 4 ?_ ?_
             (try simp only [Act.put, stA, st0, st1]))
            (refine rtS 5 ?_
             (try simp only [Act.put, stA, st0, st1]))
            (refine rtS 6 ?_
             (try simp only [Act.put, stA, st0, st1]))
            refine r1A 7 (fun K hK => ?_)
            (go_simp
             (refine hK.out _ _ ?_ (fun hHeld => ?_)
              · (try dsimp only); exact hHeld
              clear hK K
              (try simp only [Act.put, stA, st0, st1])))
            (refine rtA 8 ?_ ?_
             (try simp only [Act.put, stA, st0, st1]))
            (refine rtS 9 ?_
             (try simp only [Act.put, stA, st0, st1]))
            (refine rtS 10 ?_
             (try simp only [Act.put, stA, st0, st1]))
            (refine wpAnyH_ready (rs := [11, 12]) (by kernel_rfl) (by simp) ?_)
            refine AllReadyH.cons rfl (fun K hK => ?_) (AllReadyH.cons rfl (fun K hK => ?_) AllReadyH.nil)
            · (go_simp
               (refine hK.out _ _ ?_ (fun hHeld => ?_)
                · (try dsimp only); exact hHeld
                clear hK K
                (try simp only [Act.put, stA, st0, st1])))
              refine r1A 12 (fun K hK => ?_)
              (go_simp
               (refine hK.out _ _ ?_ (fun hHeld => ?_)
                · (try dsimp only); exact hHeld
                clear hK K
                (try simp only [Act.put, stA, st0, st1])))
              refine r1A 13 (fun K hK => ?_)
              (try simp only [Act.put, List.getElem_toArray, List.getElem_cons_succ, List.getElem_cons_zero, stA, st0, st1])
              refine if_go (by rfl) ?_
              refine wp_stV 30 infoC _ _ rfl rfl rfl hHeld.2.2.1 rfl rfl ?_
              intro w7 h7
              (refine hK.out _ _ ?_ (fun hHeld => ?_)
               · (try dsimp only); exact ⟨h7.ab w hHeld.1 (by omega), hHeld.2.1.mid h7.m (by omega), h7.v.var rfl, by rw [h7.sz]; exact hHeld.2.2.2⟩
               clear hK K
               (try simp only [Act.put, stA, st0, st1]))
              refine r1A 14 (fun K hK => ?_)
              (go_simp
               (refine hK.out _ _ ?_ (fun hHeld => ?_)
                · (try dsimp only); exact hHeld
                clear hK K
                (try simp only [Act.put, stA, st0, st1])))
              refine wpAnyH_done (by kernel_rfl) ?_ _
              go_wp2
              have xq0 := (h7.v).at 0 rfl
              have xq1 := (h7.v).at 1 rfl
              have xq2 := (h7.v).at 2 rfl
              have xq3 := (h7.v).at 3 rfl
              have xq4 := (h7.v).at 4 rfl
              have xq5 := (h7.v).at 5 rfl
              have xq6 := (h7.v).at 6 rfl
              have xq7 := (h7.v).at 7 rfl
              refine bodyPost_ret (v := .tuple #[.int .i64 v, .agg #[.int .i64 (cx d 0), .int .i64 (cx d 1), .int .i64 (cx d 2), .int .i64 (cx d 3), .int .i64 (cx d 4), .int .i64 (cx d 5), .int .i64 (cx d 6), .int .i64 (cx d 7)], .bool false]) (by simp [results, Tryz.results62, go_sem, *]) rfl ?_
              exact ⟨v, d, false, Lib.hid (by rw [HM.out, HV.out, ← HD.out, HB.out]), rfl, hcb5.len, h7.ab w abA (by omega)⟩
            · (go_simp
               (refine hK.out _ _ ?_ (fun hHeld => ?_)
                · (try dsimp only); exact hHeld
                clear hK K
                (try simp only [Act.put, stA, st0, st1])))
              (refine wpAnyH_ready (rs := [11, 13]) (by kernel_rfl) (by simp) ?_)
              refine AllReadyH.cons rfl (fun K hK => ?_) (AllReadyH.cons rfl (fun K hK => ?_) AllReadyH.nil)
              · (go_simp
                 (refine hK.out _ _ ?_ (fun hHeld => ?_)
                  · (try dsimp only); exact hHeld
                  clear hK K
                  (try simp only [Act.put, stA, st0, st1])))
                refine r1A 13 (fun K hK => ?_)
                (try simp only [Act.put, List.getElem_toArray, List.getElem_cons_succ, List.getElem_cons_zero, stA, st0, st1])
                refine if_go (by rfl) ?_
                refine wp_stV 30 infoC _ _ rfl rfl rfl hHeld.2.2.1 rfl rfl ?_
                intro w7 h7
                (refine hK.out _ _ ?_ (fun hHeld => ?_)
                 · (try dsimp only); exact ⟨h7.ab w hHeld.1 (by omega), hHeld.2.1.mid h7.m (by omega), h7.v.var rfl, by rw [h7.sz]; exact hHeld.2.2.2⟩
                 clear hK K
                 (try simp only [Act.put, stA, st0, st1]))
                refine r1A 14 (fun K hK => ?_)
                (go_simp
                 (refine hK.out _ _ ?_ (fun hHeld => ?_)
                  · (try dsimp only); exact hHeld
                  clear hK K
                  (try simp only [Act.put, stA, st0, st1])))
                refine wpAnyH_done (by kernel_rfl) ?_ _
                go_wp2
                have xq0 := (h7.v).at 0 rfl
                have xq1 := (h7.v).at 1 rfl
                have xq2 := (h7.v).at 2 rfl
                have xq3 := (h7.v).at 3 rfl
                have xq4 := (h7.v).at 4 rfl
                have xq5 := (h7.v).at 5 rfl
                have xq6 := (h7.v).at 6 rfl
                have xq7 := (h7.v).at 7 rfl
                refine bodyPost_ret (v := .tuple #[.int .i64 v, .agg #[.int .i64 (cx d 0), .int .i64 (cx d 1), .int .i64 (cx d 2), .int .i64 (cx d 3), .int .i64 (cx d 4), .int .i64 (cx d 5), .int .i64 (cx d 6), .int .i64 (cx d 7)], .bool false]) (by simp [results, Tryz.results62, go_sem, *]) rfl ?_
                exact ⟨v, d, false, Lib.hid (by rw [HM.out, HV.out, ← HD.out, HB.out]), rfl, hcb5.len, h7.ab w abA (by omega)⟩
              · (try simp only [Act.put, List.getElem_toArray, List.getElem_cons_succ, List.getElem_cons_zero, stA, st0, st1])
                refine if_go (by rfl) ?_
                refine wp_stV 30 infoC _ _ rfl rfl rfl hHeld.2.2.1 rfl rfl ?_
                intro w7 h7
                (refine hK.out _ _ ?_ (fun hHeld => ?_)
                 · (try dsimp only); exact ⟨h7.ab w hHeld.1 (by omega), hHeld.2.1.mid h7.m (by omega), h7.v.var rfl, by rw [h7.sz]; exact hHeld.2.2.2⟩
                 clear hK K
                 (try simp only [Act.put, stA, st0, st1]))
                refine r1A 11 (fun K hK => ?_)
                (go_simp
                 (refine hK.out _ _ ?_ (fun hHeld => ?_)
                  · (try dsimp only); exact hHeld
                  clear hK K
                  (try simp only [Act.put, stA, st0, st1])))
                refine r1A 14 (fun K hK => ?_)
                (go_simp
                 (refine hK.out _ _ ?_ (fun hHeld => ?_)
                  · (try dsimp only); exact hHeld
                  clear hK K
                  (try simp only [Act.put, stA, st0, st1])))
                refine wpAnyH_done (by kernel_rfl) ?_ _
                go_wp2
                have xq0 := (h7.v).at 0 rfl
                have xq1 := (h7.v).at 1 rfl
                have xq2 := (h7.v).at 2 rfl
                have xq3 := (h7.v).at 3 rfl
                have xq4 := (h7.v).at 4 rfl
                have xq5 := (h7.v).at 5 rfl
                have xq6 := (h7.v).at 6 rfl
                have xq7 := (h7.v).at 7 rfl
                refine bodyPost_ret (v := .tuple #[.int .i64 v, .agg #[.int .i64 (cx d 0), .int .i64 (cx d 1), .int .i64 (cx d 2), .int .i64 (cx d 3), .int .i64 (cx d 4), .int .i64 (cx d 5), .int .i64 (cx d 6), .int .i64 (cx d 7)], .bool false]) (by simp [results, Tryz.results62, go_sem, *]) rfl ?_
                exact ⟨v, d, false, Lib.hid (by rw [HM.out, HV.out, ← HD.out, HB.out]), rfl, hcb5.len, h7.ab w abA (by omega)⟩
    · have HM := Lib.hid (Jour.baseR_short hnew h72)
      have d72 : ((r.data.length : Int) != 72) = true := by simp; omega
      clear h72 hnew
      obtain ⟨rn, data⟩ := r
      dsimp only at *
      have vd : VB (w1.alloc (.cells #[.int .i64 rn, .slice A data.length c] 108 (0, 0))) w1.heap.size [.int .i64 rn, .slice A data.length c] := VB.box (new_plain rfl)
      have p1 := vd.at 1 rfl
      have v2 := v2.ab ((Ab.refl w1).alloc (.cells #[.int .i64 rn, .slice A data.length c] 108 (0, 0)))
      have v1 := v1.ab ((Ab.refl w1).alloc (.cells #[.int .i64 rn, .slice A data.length c] 108 (0, 0)))
      go_upto_region 6 with fail
      refine wp_region_held_drew (by kernel_rfl) (S := fun w' => Ab w w' ∧ VB w' (w.heap.size + 2) [.int .i64 0, .int .i64 0, .int .i64 0, .int .i64 0, .int .i64 0, .int .i64 0, .int .i64 0, .int .i64 0] ∧ Var w' (w.heap.size + 1) 8) ?_ (fun hHeld => ?_)
      · exact ⟨abA, v2.ab abA, (v1.var rfl).ab abA⟩
      (refine rtL 0 [.int .i64 0, .int .i64 0, .int .i64 0, .int .i64 0, .int .i64 0, .int .i64 0, .int .i64 0, .int .i64 0] 0 (fun w hSw => VB.rangeAt (hSw.2.1) 0 8) Tryz.underlying30 ?_
       (try simp only [Act.put, stA, st0, st1]))
      refine r1A 1 (fun K hK => ?_)
      (go_simp
       (refine hK.out _ _ ?_ (fun hHeld => ?_)
        · (try dsimp only); exact hHeld
        clear hK K
        (try simp only [Act.put, stA, st0, st1])))
      refine r1A 2 (fun K hK => ?_)
      (try simp only [Act.put, List.getElem_toArray, List.getElem_cons_succ, List.getElem_cons_zero, stA, st0, st1])
      refine if_go (by rfl) ?_
      refine wp_stV 30 infoC _ _ rfl rfl rfl hHeld.2.2 rfl rfl ?_
      intro w7 h7
      (refine hK.out _ _ ?_ (fun hHeld => ?_)
       · (try dsimp only); exact ⟨h7.ab w hHeld.1 (by omega), hHeld.2.1.mid h7.m (by omega), h7.v.var rfl⟩
       clear hK K
       (try simp only [Act.put, stA, st0, st1]))
      refine r1A 3 (fun K hK => ?_)
      (go_simp
       (refine hK.out _ _ ?_ (fun hHeld => ?_)
        · (try dsimp only); exact hHeld
        clear hK K
        (try simp only [Act.put, stA, st0, st1])))
      refine wpAnyH_done (by kernel_rfl) ?_ _
      go_wp2
      have xq0 := (h7.v).at 0 rfl
      have xq1 := (h7.v).at 1 rfl
      have xq2 := (h7.v).at 2 rfl
      have xq3 := (h7.v).at 3 rfl
      have xq4 := (h7.v).at 4 rfl
      have xq5 := (h7.v).at 5 rfl
      have xq6 := (h7.v).at 6 rfl
      have xq7 := (h7.v).at 7 rfl
      refine bodyPost_ret (v := .tuple #[.int .i64 0, .agg #[.int .i64 0, .int .i64 0, .int .i64 0, .int .i64 0, .int .i64 0, .int .i64 0, .int .i64 0, .int .i64 0], .bool false]) (by simp [results, Tryz.results62, go_sem, *]) rfl ?_
      exact RetBs.zero HM.out.symm (h7.ab w abA (by omega))
end Go.Proofs.YthgcfjhnnhigoaaGreat

/- What records make of a state in the reference of layer 6, walked. Own work. -/
namespace Go.Proofs.YthgcfjhnnhigoaaGreat
open Go.RowKit

namespace Jour
/-- What replayed returns. -/
def replayR (c : List Int) (frm : Int) : List Frame.Rec → List Int × Bool
  | [] => (c, true)
  | r :: l => if r.num < frm then replayR c frm l else match moved r.data with
    | none => (c, false)
    | some m => if State (bump c m) then replayR (bump c m) frm l else (c, false)
theorem replayR_replay (frm : Int) : ∀ (l : List Frame.Rec) (c : List Int), replay c frm l = if (replayR c frm l).2 then some (replayR c frm l).1 else none := by
  intro l
  induction l with
  | nil => intro c; rfl
  | cons r l ih =>
    intro c
    simp only [replay, replayR]
    split
    · exact ih c
    · rcases moved r.data with _ | m
      · rfl
      · simp only
        split
        · exact ih _
        · rfl
theorem replayR_old {c : List Int} {frm : Int} {r : Frame.Rec} {l : List Frame.Rec} (h : r.num < frm) : replayR c frm (r :: l) = replayR c frm l := if_pos h
theorem replayR_no {c : List Int} {frm : Int} {r : Frame.Rec} {l : List Frame.Rec} (h : ¬ r.num < frm) (hm : (movedM r.data).2 = false) : replayR c frm (r :: l) = (c, false) := by
  have e : moved r.data = none := by
    rw [moved_raw]
    refine if_neg fun k => ?_
    unfold movedM at hm
    rw [if_pos k.1] at hm
    exact absurd k.2 (of_decide_eq_false hm)
  show (if r.num < frm then _ else _) = _
  rw [if_neg h, e]
theorem replayR_far {c : List Int} {frm : Int} {r : Frame.Rec} {l : List Frame.Rec} (h : ¬ r.num < frm) (hm : (movedM r.data).2 = true) : replayR c frm (r :: l) = if State (bump c (movedM r.data).1) then replayR (bump c (movedM r.data).1) frm l else (c, false) := by
  have e : moved r.data = some (movedM r.data).1 := by
    rw [moved_raw]
    unfold movedM at hm ⊢
    by_cases h9 : r.data.length = 9
    · rw [if_pos h9] at hm ⊢
      exact if_pos ⟨h9, of_decide_eq_true hm⟩
    · rw [if_neg h9] at hm; cases hm
  show (if r.num < frm then _ else _) = _
  rw [if_neg h, e]
theorem movedM_valid {b : List UInt8} (hm : (movedM b).2 = true) : Valid (movedM b).1 := by
  unfold movedM at hm ⊢
  by_cases h9 : b.length = 9
  · rw [if_pos h9] at hm ⊢; exact of_decide_eq_true hm
  · rw [if_neg h9] at hm; cases hm
theorem apply_one {c : List Int} {m : Move} (hc : State c) (hv : Valid m) : apply c [m] = if State (bump c m) then (bump c m, 0) else (zeros, 16) := by
  unfold apply
  rw [if_neg (by simpa using hc)]
  show (if ¬ Valid m then _ else if ¬ State (bump c m) then _ else _) = _
  rw [if_neg (by simpa using hv)]
  by_cases h : State (bump c m)
  · rw [if_neg (by simpa using h), if_pos h]; rfl
  · rw [if_pos h, if_neg h]
end Jour
def RetCB (w : World) (m : List Int × Bool) (e : Ending) (w' : World) : Prop :=
  ∃ (c : List Int) (ok : Bool), Hid ((c, ok) = m) ∧ e = .returned (.tuple #[.agg #[.int .i64 (cx c 0), .int .i64 (cx c 1), .int .i64 (cx c 2), .int .i64 (cx c 3), .int .i64 (cx c 4), .int .i64 (cx c 5), .int .i64 (cx c 6), .int .i64 (cx c 7)], .bool ok]) ∧ c.length = 8 ∧ Ab w w'
set_option maxRecDepth 100000 in
set_option maxHeartbeats 6400000 in
theorem jrreplayed_any (c0 : List Int) (hc0 : c0.length = 8) (hst : Jour.State c0) (A B : Option Addr) (ca cb : Nat) (s t : List UInt8) (cap : Int) (dn : Bool) (f n : Int) (w : World) (hs : RB w 0 A s) (ht : RB w 0 B t) (hca : s.length ≤ ca) (hcb : t.length ≤ cb) (hl : s.length + t.length ≤ 20000) (n0 : Int) (rs : List Frame.Rec) (u : Nat) (hsc : Frame.IsScan (s ++ t) rs u) :
    Calls Tryz.prog 63 #[.agg #[.int .i64 (cx c0 0), .int .i64 (cx c0 1), .int .i64 (cx c0 2), .int .i64 (cx c0 3), .int .i64 (cx c0 4), .int .i64 (cx c0 5), .int .i64 (cx c0 6), .int .i64 (cx c0 7)], .agg #[.slice A s.length ca, .slice B t.length cb, .int .i64 cap, .bool dn, .int .i64 f, .int .i64 n], .int .i64 n0] w (RetCB w (Jour.replayR c0 n0 rs)) := by
  go_enter Tryz.func63, Tryz.ntmps63
  have hcx : CB (((w.alloc (.cells #[.int .i64 (cx c0 0), .int .i64 (cx c0 1), .int .i64 (cx c0 2), .int .i64 (cx c0 3), .int .i64 (cx c0 4), .int .i64 (cx c0 5), .int .i64 (cx c0 6), .int .i64 (cx c0 7)] 30 (0, 0))).alloc (.cells #[.slice A s.length ca, .slice B t.length cb, .int .i64 cap, .bool dn, .int .i64 f, .int .i64 n] 29 (0, 0))).alloc (.cells #[.int .i64 0, .int .i64 0, .int .i64 0, .int .i64 0, .int .i64 0, .int .i64 0, .int .i64 0, .int .i64 0] 30 (0, 0))) w.heap.size c0 := ⟨hc0, VB.box (old_alloc (old_alloc (new_plain rfl)))⟩
  have hlx : VB (((w.alloc (.cells #[.int .i64 (cx c0 0), .int .i64 (cx c0 1), .int .i64 (cx c0 2), .int .i64 (cx c0 3), .int .i64 (cx c0 4), .int .i64 (cx c0 5), .int .i64 (cx c0 6), .int .i64 (cx c0 7)] 30 (0, 0))).alloc (.cells #[.slice A s.length ca, .slice B t.length cb, .int .i64 cap, .bool dn, .int .i64 f, .int .i64 n] 29 (0, 0))).alloc (.cells #[.int .i64 0, .int .i64 0, .int .i64 0, .int .i64 0, .int .i64 0, .int .i64 0, .int .i64 0, .int .i64 0] 30 (0, 0))) (w.heap.size + 1) [.slice A s.length ca, .slice B t.length cb, .int .i64 cap, .bool dn, .int .i64 f, .int .i64 n] := VB.box (old_alloc (new_plain (by simp)))
  have hrx : VB (((w.alloc (.cells #[.int .i64 (cx c0 0), .int .i64 (cx c0 1), .int .i64 (cx c0 2), .int .i64 (cx c0 3), .int .i64 (cx c0 4), .int .i64 (cx c0 5), .int .i64 (cx c0 6), .int .i64 (cx c0 7)] 30 (0, 0))).alloc (.cells #[.slice A s.length ca, .slice B t.length cb, .int .i64 cap, .bool dn, .int .i64 f, .int .i64 n] 29 (0, 0))).alloc (.cells #[.int .i64 0, .int .i64 0, .int .i64 0, .int .i64 0, .int .i64 0, .int .i64 0, .int .i64 0, .int .i64 0] 30 (0, 0))) (w.heap.size + 2) [.int .i64 0, .int .i64 0, .int .i64 0, .int .i64 0, .int .i64 0, .int .i64 0, .int .i64 0, .int .i64 0] := VB.box (new_plain (by simp))
  have xq0 := (hlx).at 0 rfl
  have xq1 := (hlx).at 1 rfl
  have xq2 := (hlx).at 2 rfl
  have xq3 := (hlx).at 3 rfl
  have xq4 := (hlx).at 4 rfl
  have xq5 := (hlx).at 5 rfl
  go_wp2_with fail
  refine (has_any A B ca cb s t cap dn _ (hs.ab abA) (ht.ab abA) hca hcb hl).mono ?_
  rintro e w1 ⟨X, d, xs, u', hxs, rfl, hR, hxd, hxl, hb1⟩
  have hrs : recs xs = rs := (Frame.scan_unique hxs.out hsc).1
  have HRS := Lib.hid hrs
  have c1 := hcx.ab hb1
  have r1 := hrx.ab hb1
  have b1 : Ab w w1 := abA
  have z1 := r1.lt
  have hR1 : Recs w1 (w.heap.size + 3) X xs := Recs.mono hR (by simp)
  clear hcx hlx hrx hb1 xq0 xq1 xq2 xq3 xq4 xq5 hR hxs hrs
  go_wp2
  go_loopw [10] (fun i wr => ∃ (k : Nat) (d : List Int), k ≤ xs.length ∧ i = .int .i64 (k : Int) ∧ Hid (Jour.State d) ∧ Hid (Jour.replayR c0 n0 rs = Jour.replayR d n0 ((recs xs).drop k)) ∧ CB wr w.heap.size d ∧ VB wr (w.heap.size + 2) [.int .i64 0, .int .i64 0, .int .i64 0, .int .i64 0, .int .i64 0, .int .i64 0, .int .i64 0, .int .i64 0] ∧ Mid w.heap.size (w.heap.size + 1) w1 wr ∧ Ab w wr) (fun i _ => xs.length - (intOf i).toNat)
  case atStart => exact ⟨0, c0, Nat.zero_le _, rfl, Lib.hid hst, Lib.hid (by rw [HRS.out]; rfl), c1, r1, Mid.refl, b1⟩
  case round =>
    obtain ⟨k, d, hk, rfl, hd, hgo, hc, hr, hmid, hab⟩ := hrel
    have zr := hr.lt
    by_cases hlt : k < xs.length
    · obtain ⟨a, rfl, hblk, x0, x1, hlx⟩ := Recs.at_ hR1 hlt
      have HS := Lib.hid (show (recs xs).drop k = xs[k].r :: (recs xs).drop (k + 1) by
        rw [List.drop_eq_getElem_cons (by rw [recs_length]; exact hlt)]
        simp [recs])
      have hpb : (a.add (k * 2)).block = a.block := addr_add_block _ _
      generalize xs[k] = x at x0 x1 hlx HS
      obtain ⟨xn, xA, xc, xb⟩ := x
      dsimp only at x0 x1
      have x0 := hmid.cell x0 (.inr (by rw [hpb]; omega))
      have x1 := hmid.cell x1 (.inr (by show w.heap.size + 1 ≤ (a.add (k * 2)).block; omega))
      obtain ⟨hxr, hxr2, hxr3⟩ := hlx
      dsimp only at hxr hxr2 hxr3
      have hxr4 := hmid.rb hxr (by omega)
      clear hxr hpb
      by_cases hn : xn < n0
      · have dn0 : decide (xn < n0) = true := by simpa using hn
        have HN := Lib.hid (show Jour.replayR c0 n0 rs = Jour.replayR d n0 ((recs xs).drop (k + 1)) by rw [hgo.out, HS.out]; exact Jour.replayR_old hn)
        clear hn
        go_wp2
        go_roundw
        case rel => exact ⟨k + 1, d, by omega, by go_num, hd, HN, hc.ab abA, hr.ab abA, hmid, abA⟩
        case measure => simp [intOf]; omega
      · have dn0 : decide (xn < n0) = false := by simpa using hn
        have HN := Lib.hid hn
        clear hn
        go_wp2_with fail
        refine (jrmoved_any xA xb xc _ (hxr4.zero.ab abA) hxr2).mono ?_
        rintro e w2 ⟨y, ok, hy, rfl, hb2⟩
        have hc2 := hc.ab hb2
        have hr2 := hr.ab hb2
        have b2 := hab.trans hb2
        have m2 : Mid w.heap.size (w.heap.size + 1) w1 w2 := hmid.trans (Mid.of_ab hb2)
        clear x0 x1 hc hr hxr4 hab hmid
        cases ok with
        | false =>
          have HX := Lib.hid (show Jour.replayR d n0 ((recs xs).drop k) = (d, false) by
            rw [HS.out]; exact Jour.replayR_no (Int.not_lt.2 HN.out) (by show (movedM xb).2 = false; rw [← hy.out]))
          have A2 := (Ab.refl w2).alloc (.cells #[.int .i64 y.cell, .int .i64 y.add] 34 (0, 0))
          have rg := ((hr2.ab A2)).g
          have rs9 := ((hr2.ab A2)).lt
          have cs9 := ((hc2.ab A2)).v.lt
          have rq0 := ((hr2.ab A2)).at 0 rfl
          have rq1 := ((hr2.ab A2)).at 1 rfl
          have rq2 := ((hr2.ab A2)).at 2 rfl
          have rq3 := ((hr2.ab A2)).at 3 rfl
          have rq4 := ((hr2.ab A2)).at 4 rfl
          have rq5 := ((hr2.ab A2)).at 5 rfl
          have rq6 := ((hr2.ab A2)).at 6 rfl
          have rq7 := ((hr2.ab A2)).at 7 rfl
          have xq0 := (((hc2.ab A2)).v).at 0 rfl
          have xq1 := (((hc2.ab A2)).v).at 1 rfl
          have xq2 := (((hc2.ab A2)).v).at 2 rfl
          have xq3 := (((hc2.ab A2)).v).at 3 rfl
          have xq4 := (((hc2.ab A2)).v).at 4 rfl
          have xq5 := (((hc2.ab A2)).v).at 5 rfl
          have xq6 := (((hc2.ab A2)).v).at 6 rfl
          have xq7 := (((hc2.ab A2)).v).at 7 rfl
          go_wp2
          refine bodyPost_ret (v := .tuple #[.agg #[.int .i64 (cx d 0), .int .i64 (cx d 1), .int .i64 (cx d 2), .int .i64 (cx d 3), .int .i64 (cx d 4), .int .i64 (cx d 5), .int .i64 (cx d 6), .int .i64 (cx d 7)], .bool false]) (by simp [results, Tryz.results63, go_sem, *]) rfl ?_
          exact ⟨d, false, Lib.hid (by rw [hgo.out, HX.out]), rfl, ((hc2.ab A2)).len, abA⟩
        | true =>
          have HV := Lib.hid (show Jour.Valid y by
            have := Jour.movedM_valid (b := xb) (by rw [← hy.out])
            rwa [← hy.out] at this)
          have HX := Lib.hid (show Jour.replayR d n0 ((recs xs).drop k) = if Jour.State (Jour.bump d y) then Jour.replayR (Jour.bump d y) n0 ((recs xs).drop (k + 1)) else (d, false) by
            have := Jour.replayR_far (c := d) (frm := n0) (l := (recs xs).drop (k + 1)) (r := ⟨xn, xb⟩) (Int.not_lt.2 HN.out) (by show (movedM xb).2 = true; rw [← hy.out])
            rw [HS.out]
            rw [show (movedM (⟨xn, xb⟩ : Frame.Rec).data).1 = y by show (movedM xb).1 = y; rw [← hy.out]] at this
            exact this)
          have HA := Lib.hid (Jour.apply_one hd.out HV.out)
          have A2 := (Ab.refl w2).alloc (.cells #[.int .i64 y.cell, .int .i64 y.add] 34 (0, 0))
          have vy : VB (w2.alloc (.cells #[.int .i64 y.cell, .int .i64 y.add] 34 (0, 0))) w2.heap.size [.int .i64 y.cell, .int .i64 y.add] := VB.box (new_plain rfl)
          have y0 := vy.at 0 rfl
          have y1 := vy.at 1 rfl
          have xq0 := ((hc2.ab A2).v).at 0 rfl
          have xq1 := ((hc2.ab A2).v).at 1 rfl
          have xq2 := ((hc2.ab A2).v).at 2 rfl
          have xq3 := ((hc2.ab A2).v).at 3 rfl
          have xq4 := ((hc2.ab A2).v).at 4 rfl
          have xq5 := ((hc2.ab A2).v).at 5 rfl
          have xq6 := ((hc2.ab A2).v).at 6 rfl
          have xq7 := ((hc2.ab A2).v).at 7 rfl
          clear hy
          go_wp2_with fail
          refine (jrapply_any d hc2.len _ 1 [y] _ (Mvs.one (by (repeat (first | exact new_plain wnA | with_reducible refine old_alloc ?_ | with_reducible refine old_drew ?_ | with_reducible refine old_set ?_ wnA | with_reducible refine old_ab (by assumption) ?_))) (Nat.zero_le _)) (by simp)).mono ?_
          rintro e w3 ⟨d3, er, h3, rfl, hl3, hb3⟩
          have H3 := Lib.hid (h3.out.trans HA.out)
          have hc3 := (hc2.ab A2).ab (((Ab.refl _).alloc _).trans hb3)
          have hr3 := (hr2.ab A2).ab (((Ab.refl _).alloc _).trans hb3)
          have b3 : Ab w w3 := (b2.trans A2).trans (((Ab.refl _).alloc _).trans hb3)
          have m3 : Mid w.heap.size (w.heap.size + 1) w1 w3 := m2.trans (Mid.of_ab (A2.trans (((Ab.refl _).alloc _).trans hb3)))
          clear xq0 xq1 xq2 xq3 xq4 xq5 xq6 xq7 y0 y1 hb3 h3 HA vy A2 hc2 hr2 b2 m2 hb2
          have A4 := (Ab.refl w3).alloc (.cells #[.int .i64 (cx d3 0), .int .i64 (cx d3 1), .int .i64 (cx d3 2), .int .i64 (cx d3 3), .int .i64 (cx d3 4), .int .i64 (cx d3 5), .int .i64 (cx d3 6), .int .i64 (cx d3 7)] 30 (0, 0))
          by_cases hst2 : Jour.State (Jour.bump d y)
          · have HD := H3.out.trans (if_pos hst2)
            obtain ⟨hd3, rfl⟩ := Prod.mk.inj HD
            have HY := Lib.hid (HX.out.trans (if_pos hst2))
            have HS2 := Lib.hid hst2
            have HD3 := Lib.hid hd3
            clear HD H3 hst2 hd3
            have v13 : VB (w3.alloc (.cells #[.int .i64 (cx d3 0), .int .i64 (cx d3 1), .int .i64 (cx d3 2), .int .i64 (cx d3 3), .int .i64 (cx d3 4), .int .i64 (cx d3 5), .int .i64 (cx d3 6), .int .i64 (cx d3 7)] 30 (0, 0))) w3.heap.size [.int .i64 (cx d3 0), .int .i64 (cx d3 1), .int .i64 (cx d3 2), .int .i64 (cx d3 3), .int .i64 (cx d3 4), .int .i64 (cx d3 5), .int .i64 (cx d3 6), .int .i64 (cx d3 7)] := VB.box (new_plain rfl)
            have hc4 := hc3.ab A4
            have z4 := hc4.v.lt
            have g4 := hc4.v.g
            have xq0 := (hc4.v).at 0 rfl
            have xq1 := (hc4.v).at 1 rfl
            have xq2 := (hc4.v).at 2 rfl
            have xq3 := (hc4.v).at 3 rfl
            have xq4 := (hc4.v).at 4 rfl
            have xq5 := (hc4.v).at 5 rfl
            have xq6 := (hc4.v).at 6 rfl
            have xq7 := (hc4.v).at 7 rfl
            have yq0 := (v13).at 0 rfl
            have yq1 := (v13).at 1 rfl
            have yq2 := (v13).at 2 rfl
            have yq3 := (v13).at 3 rfl
            have yq4 := (v13).at 4 rfl
            have yq5 := (v13).at 5 rfl
            have yq6 := (v13).at 6 rfl
            have yq7 := (v13).at 7 rfl
            go_wp2
            go_roundw
            case rel => exact ⟨k + 1, d3, by omega, by go_num, Lib.hid (by rw [HD3.out]; exact HS2.out), Lib.hid (by rw [hgo.out, HY.out, HD3.out]), ⟨hl3, VB.setN hc4.v [.int .i64 (cx d3 0), .int .i64 (cx d3 1), .int .i64 (cx d3 2), .int .i64 (cx d3 3), .int .i64 (cx d3 4), .int .i64 (cx d3 5), .int .i64 (cx d3 6), .int .i64 (cx d3 7)] rfl⟩, VB.setN_other [.int .i64 (cx d3 0), .int .i64 (cx d3 1), .int .i64 (cx d3 2), .int .i64 (cx d3 3), .int .i64 (cx d3 4), .int .i64 (cx d3 5), .int .i64 (cx d3 6), .int .i64 (cx d3 7)] (hr3.ab A4) (by omega) 0, Mid.setN (m3.trans (Mid.of_ab A4)) (Nat.le_refl _) (by omega) [.int .i64 (cx d3 0), .int .i64 (cx d3 1), .int .i64 (cx d3 2), .int .i64 (cx d3 3), .int .i64 (cx d3 4), .int .i64 (cx d3 5), .int .i64 (cx d3 6), .int .i64 (cx d3 7)] 0, Ab.setN (b3.trans A4) (Nat.le_refl _) [.int .i64 (cx d3 0), .int .i64 (cx d3 1), .int .i64 (cx d3 2), .int .i64 (cx d3 3), .int .i64 (cx d3 4), .int .i64 (cx d3 5), .int .i64 (cx d3 6), .int .i64 (cx d3 7)] 0⟩
            case measure => simp [intOf]; omega
          · have HD := H3.out.trans (if_neg hst2)
            obtain ⟨rfl, rfl⟩ := Prod.mk.inj HD
            have HY := Lib.hid (HX.out.trans (if_neg hst2))
            clear HD H3 hst2
            have rg := ((hr3.ab A4)).g
            have rs9 := ((hr3.ab A4)).lt
            have cs9 := ((hc3.ab A4)).v.lt
            have rq0 := ((hr3.ab A4)).at 0 rfl
            have rq1 := ((hr3.ab A4)).at 1 rfl
            have rq2 := ((hr3.ab A4)).at 2 rfl
            have rq3 := ((hr3.ab A4)).at 3 rfl
            have rq4 := ((hr3.ab A4)).at 4 rfl
            have rq5 := ((hr3.ab A4)).at 5 rfl
            have rq6 := ((hr3.ab A4)).at 6 rfl
            have rq7 := ((hr3.ab A4)).at 7 rfl
            have xq0 := (((hc3.ab A4)).v).at 0 rfl
            have xq1 := (((hc3.ab A4)).v).at 1 rfl
            have xq2 := (((hc3.ab A4)).v).at 2 rfl
            have xq3 := (((hc3.ab A4)).v).at 3 rfl
            have xq4 := (((hc3.ab A4)).v).at 4 rfl
            have xq5 := (((hc3.ab A4)).v).at 5 rfl
            have xq6 := (((hc3.ab A4)).v).at 6 rfl
            have xq7 := (((hc3.ab A4)).v).at 7 rfl
            go_wp2
            refine bodyPost_ret (v := .tuple #[.agg #[.int .i64 (cx d 0), .int .i64 (cx d 1), .int .i64 (cx d 2), .int .i64 (cx d 3), .int .i64 (cx d 4), .int .i64 (cx d 5), .int .i64 (cx d 6), .int .i64 (cx d 7)], .bool false]) (by simp [results, Tryz.results63, go_sem, *]) rfl ?_
            exact ⟨d, false, Lib.hid (by rw [hgo.out, HY.out]), rfl, ((hc3.ab A4)).len, abA⟩
    · obtain rfl : k = xs.length := by omega
      have HX := Lib.hid (show Jour.replayR d n0 ((recs xs).drop xs.length) = (d, true) by rw [List.drop_of_length_le (by rw [recs_length]; omega)]; rfl)
      have rg := (hr).g
      have rs9 := (hr).lt
      have cs9 := (hc).v.lt
      have rq0 := (hr).at 0 rfl
      have rq1 := (hr).at 1 rfl
      have rq2 := (hr).at 2 rfl
      have rq3 := (hr).at 3 rfl
      have rq4 := (hr).at 4 rfl
      have rq5 := (hr).at 5 rfl
      have rq6 := (hr).at 6 rfl
      have rq7 := (hr).at 7 rfl
      have xq0 := ((hc).v).at 0 rfl
      have xq1 := ((hc).v).at 1 rfl
      have xq2 := ((hc).v).at 2 rfl
      have xq3 := ((hc).v).at 3 rfl
      have xq4 := ((hc).v).at 4 rfl
      have xq5 := ((hc).v).at 5 rfl
      have xq6 := ((hc).v).at 6 rfl
      have xq7 := ((hc).v).at 7 rfl
      go_wp2
      refine bodyPost_ret (v := .tuple #[.agg #[.int .i64 (cx d 0), .int .i64 (cx d 1), .int .i64 (cx d 2), .int .i64 (cx d 3), .int .i64 (cx d 4), .int .i64 (cx d 5), .int .i64 (cx d 6), .int .i64 (cx d 7)], .bool true]) (by simp [results, Tryz.results63, go_sem, *]) rfl ?_
      exact ⟨d, true, Lib.hid (by rw [hgo.out, HX.out]), rfl, (hc).len, abA⟩
end Go.Proofs.YthgcfjhnnhigoaaGreat
