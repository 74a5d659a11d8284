/- SlotsRow, walked. Own work. -/
import Derived.Test.YtakgglpfgpkboaaSLawC
import Derived.Test.YtakgglpfgpkboaaSRows
import Derived.Deep.DeepCutAuto
set_option linter.unusedVariables false
set_option linter.unusedSimpArgs false
namespace Go.Proofs.Ytakgglpfgpkboaa
open Go.RowKit
open Slots (Sl)
open Disk (Dev)

/-- The slots saved so far. -/
def RowSt (w wr : World) (b6 : Nat) (c : Int) (k : Nat) (m : AM) (s : Sl) : Prop :=
  SlB wr b6 m s ∧ SlM wr 0 m s ∧ Ab w wr ∧ Hid (Slots.Op s) ∧ Hid (s.n = (k : Int) + 1) ∧ Hid (Slots.Caps s c)
/-- Save's results, in a new variable. -/
def RowNext (wr : World) (s : Sl) (b : List UInt8) (s9 s10 s11 : Value) (wx : World) : Prop :=
  ∃ (b9 : Nat) (m : AM) (p : Sl) (num er : Int), s9 = .pointer (some ⟨b9, 0, none⟩) ∧ s10 = .int .i64 num ∧ s11 = .int .i64 er ∧ Hid ((p, num, er) = Slots.save s b) ∧ wr.heap.size ≤ b9 ∧ SlB wx b9 m p ∧ SlM wx 0 m p ∧ Ab wr wx

set_option maxRecDepth 100000 in
set_option maxHeartbeats 6400000 in
theorem srow_walk (c : Int) (w : World) (L : Option Addr) (cl : Nat) (xs : List ByM) (hl : ByRows w L xs) (hcl : xs.length ≤ cl) (hln : xs.length ≤ 9223372036854775807) :
    Calls Try.prog 8 #[.int .i64 c, .slice L xs.length cl] w fun e w' => e = .returned (.bool true) ∧ Ab w w' := by
  by_cases h8 : 8 < xs.length
  · have h8' : decide ((8 : Int) < (xs.length : Int)) = true := by simp; omega
    clear h8
    go_enter Try.func8, Try.ntmps8
    go_wp2_with fail
    refine (salive_true _).mono ?_
    rintro e wz ⟨rfl, hbz⟩
    go_wp2
    go_ret
    exact ⟨rfl, (by repeat (first | with_reducible exact Ab.refl _ | with_reducible assumption | with_reducible refine Ab.drew ?_ | with_reducible refine Ab.drewN ?_ _ | with_reducible refine Ab.alloc ?_ _ | with_reducible refine Ab.trans ?_ (by assumption) | with_reducible refine Ab.set ?_ (by first | (simp; done) | omega | (simp; omega)) _))⟩
  have h8' : decide ((8 : Int) < (xs.length : Int)) = false := by simp; omega
  have hn8 : xs.length ≤ 8 := by omega
  clear h8
  go_enter Try.func8, Try.ntmps8
  go_wp2_with fail
  go_loopw [5] (fun i wr => ∃ k : Nat, k ≤ xs.length ∧ i = .int .i64 (k : Int) ∧ wr = w ∧ Hid (∀ j (hj : j < xs.length), j < k → xs[j].b.length ≤ 100)) (fun i _ => xs.length - (intOf i).toNat)
  case atStart => exact ⟨0, Nat.zero_le _, rfl, rfl, Lib.hid (fun j hj hlt => absurd hlt (by omega))⟩
  case round =>
    obtain ⟨k, hk, rfl, rfl, hall⟩ := hrel
    by_cases hlt : k < xs.length
    · obtain ⟨a, rfl, hrow⟩ := hl (by omega)
      have hc := (hrow k hlt).1
      have hkc : (k : Int) < (xs.length : Int) := by omega
      by_cases h100 : 100 < xs[k].b.length
      · have h100' : decide ((100 : Int) < (xs[k].b.length : Int)) = true := by simp; omega
        clear h100
        go_wp2_with fail
        refine (salive_true _).mono ?_
        rintro e wz ⟨rfl, hbz⟩
        go_wp2
        go_ret
        exact ⟨rfl, (by repeat (first | with_reducible exact Ab.refl _ | with_reducible assumption | with_reducible refine Ab.drew ?_ | with_reducible refine Ab.drewN ?_ _ | with_reducible refine Ab.alloc ?_ _ | with_reducible refine Ab.trans ?_ (by assumption) | with_reducible refine Ab.set ?_ (by first | (simp; done) | omega | (simp; omega)) _))⟩
      · have h100' : decide ((100 : Int) < (xs[k].b.length : Int)) = false := by simp; omega
        have hle := Lib.hid (show xs[k].b.length ≤ 100 by omega)
        clear h100
        go_wp2
        go_roundw
        case rel =>
          refine ⟨k + 1, by omega, by go_num, by first | rfl | trivial, Lib.hid (fun j hj hjk => ?_)⟩
          rcases Nat.lt_or_ge j k with h | h
          · exact hall.out j hj h
          · obtain rfl : j = k := by omega
            exact hle.out
        case measure => simp [intOf]; omega
    · obtain rfl : k = xs.length := by omega
      have HA := Lib.hid (show ∀ j (hj : j < xs.length), xs[j].b.length ≤ 100 from fun j hj => hall.out j hj hj)
      clear hall hlt
      go_wp2_with fail
      refine (snew_any c _).mono ?_
      rintro e w1 ⟨r1, e1, m1, hr1, rfl, hM1, hb1⟩
      rcases Slots.row_new hr1.out with he | ⟨he, hP, hn1, hC⟩
      · clear hr1
        obtain rfl : e1 = 2 := he
        go_wp2_with fail
        refine (salive_true _).mono ?_
        rintro e wz ⟨rfl, hbz⟩
        go_wp2
        go_ret
        exact ⟨rfl, (by repeat (first | with_reducible exact Ab.refl _ | with_reducible assumption | with_reducible refine Ab.drew ?_ | with_reducible refine Ab.drewN ?_ _ | with_reducible refine Ab.alloc ?_ _ | with_reducible refine Ab.trans ?_ (by assumption) | with_reducible refine Ab.set ?_ (by first | (simp; done) | omega | (simp; omega)) _))⟩
      clear hr1
      obtain rfl : e1 = 0 := he
      have HP := Lib.hid hP
      have HN := Lib.hid (show r1.n = ((0 : Nat) : Int) + 1 by rw [hn1]; rfl)
      have HC := Lib.hid hC
      have hz1 : wr.heap.size ≤ w1.heap.size := hb1.size
      clear hP hn1 hC
      go_wp2_with fail
      go_loopw [8] (fun i wx => ∃ (k : Nat) (m : AM) (s : Sl), k ≤ xs.length ∧ i = .int .i64 (k : Int) ∧ RowSt wr wx w1.heap.size c k m s) (fun i _ => xs.length - (intOf i).toNat)
      case atStart =>
        exact ⟨0, m1, r1, Nat.zero_le _, rfl, SlB.box (new_plain rfl), hM1.zero.ab ((Ab.refl w1).alloc _), (by repeat (first | with_reducible exact Ab.refl _ | with_reducible assumption | with_reducible refine Ab.drew ?_ | with_reducible refine Ab.drewN ?_ _ | with_reducible refine Ab.alloc ?_ _ | with_reducible refine Ab.trans ?_ (by assumption) | with_reducible refine Ab.set ?_ (by first | (simp; done) | omega | (simp; omega)) _)), HP, HN, HC⟩
      case round =>
        clear hb1 hM1 HP HN HC
        obtain ⟨k, ms, s, hk, rfl, H6, hMs, bwx, HP, HN, HC⟩ := hrel
        rename World => wx
        by_cases hlt : k < xs.length
        · obtain ⟨a, rfl, hrow0⟩ := hl (by omega)
          have hrow := hrow0.ab bwx
          have hc := (hrow k hlt).1
          have hRB := (hrow k hlt).2.1
          have hRc := (hrow k hlt).2.2
          have hb100 := HA.out k hlt
          have hkc : (k : Int) < (xs.length : Int) := by omega
          have hk8 : k ≤ 8 := by omega
          go_upto_region 14 with fail
          go_cut [9, 10, 11] (fun s9 s10 s11 wy => RowNext wx s xs[k].b s9 s10 s11 wy)
          case first =>
            refine wp_region_held_drew (by kernel_rfl) (S := fun w' => Ab wx w') ?_ (fun hHeld => ?_)
            · exact (by repeat (first | with_reducible exact Ab.refl _ | with_reducible assumption | with_reducible refine Ab.drew ?_ | with_reducible refine Ab.drewN ?_ _ | with_reducible refine Ab.alloc ?_ _ | with_reducible refine Ab.trans ?_ (by assumption) | with_reducible refine Ab.set ?_ (by first | (simp; done) | omega | (simp; omega)) _))
            (refine wpAnyH_take (i := 0) (v := ?_) rfl (by kernel_rfl) (by kernel_rfl) (by kernel_rfl) (fun _ _ _ h => h) (Or.inl ⟨by kernel_rfl, ?_⟩) (by assumption) ?_
             rotate_left
             · (intro w hSw
                obtain ⟨xq0, xq1, xq2, xq3, xq4, xq5, xq6, xq7, xq8, xg0, xg1, xg2, xg3, xg4, xg5, xg6, xg7, xg8⟩ := (H6).ab hSw
                go_simp
                (try with_reducible rfl))
             (try simp only [Act.put, List.setIfInBounds_toArray, List.set_cons_zero, List.set_cons_succ]))
            (refine wpAnyH_take (i := 1) (v := ?_) rfl (by kernel_rfl) (by kernel_rfl) (by kernel_rfl) (fun _ _ _ h => h) (Or.inl ⟨by kernel_rfl, ?_⟩) (by assumption) ?_
             rotate_left
             · (intro w hSw; (try dsimp only at hSw); go_simp; (try with_reducible rfl))
             (try simp only [Act.put, List.setIfInBounds_toArray, List.set_cons_zero, List.set_cons_succ]))
            (refine wpAnyH_take (i := 2) (v := ?_) rfl (by kernel_rfl) (by kernel_rfl) (by kernel_rfl) (fun _ _ _ h => h) (Or.inl ⟨by kernel_rfl, ?_⟩) (by assumption) ?_
             rotate_left
             · (intro w hSw; (try dsimp only at hSw); go_simp; (try with_reducible rfl))
             (try simp only [Act.put, List.setIfInBounds_toArray, List.set_cons_zero, List.set_cons_succ]))
            (refine wpAnyH_take (i := 3) (v := ?_) rfl (by kernel_rfl) (by kernel_rfl) (by kernel_rfl) (fun _ _ _ h => h) (Or.inl ⟨by kernel_rfl, ?_⟩) (by assumption) ?_
             rotate_left
             · (intro w hSw; (try dsimp only at hSw); go_simp; (try with_reducible rfl))
             (try simp only [Act.put, List.setIfInBounds_toArray, List.set_cons_zero, List.set_cons_succ]))
            (refine wpAnyH_take (i := 4) (v := ?_) rfl (by kernel_rfl) (by kernel_rfl) (by kernel_rfl) (fun _ _ _ h => h) (Or.inl ⟨by kernel_rfl, ?_⟩) (by assumption) ?_
             rotate_left
             · (intro w hSw
                have hrow := hSw.at hc
                go_simp
                (try with_reducible rfl))
             (try simp only [Act.put, List.setIfInBounds_toArray, List.set_cons_zero, List.set_cons_succ]))
            (refine wpAnyH_ready (rs := [5, 10]) (by kernel_rfl) (by simp) ?_)
            refine AllReadyH.cons rfl (fun K hK => ?_) (AllReadyH.cons rfl (fun K hK => ?_) AllReadyH.nil)
            · (go_simp
               (go_at_call 10
                refine (ssave_any ms s _ (hMs.ab (by repeat (first | with_reducible exact Ab.refl _ | with_reducible assumption | with_reducible refine Ab.drew ?_ | with_reducible refine Ab.drewN ?_ _ | with_reducible refine Ab.alloc ?_ _ | with_reducible refine Ab.trans ?_ (by assumption) | with_reducible refine Ab.set ?_ (by first | (simp; done) | omega | (simp; omega)) _))) xs[k].A xs[k].b xs[k].c (hRB.ab (by repeat (first | with_reducible exact Ab.refl _ | with_reducible assumption | with_reducible refine Ab.drew ?_ | with_reducible refine Ab.drewN ?_ _ | with_reducible refine Ab.alloc ?_ _ | with_reducible refine Ab.trans ?_ (by assumption) | with_reducible refine Ab.set ?_ (by first | (simp; done) | omega | (simp; omega)) _))) hRc).mono ?_
                rintro e w5 ⟨p, n5, e5, mp, hr5, rfl, hMp, hb5⟩)
               (try go_wp2_with fail)
               (refine hK.out _ _ ?_ (fun hHeld => ?_)
                · (try dsimp only); exact (by repeat (first | with_reducible exact Ab.refl _ | with_reducible assumption | with_reducible refine Ab.drew ?_ | with_reducible refine Ab.drewN ?_ _ | with_reducible refine Ab.alloc ?_ _ | with_reducible refine Ab.trans ?_ (by assumption) | with_reducible refine Ab.set ?_ (by first | (simp; done) | omega | (simp; omega)) _))
                clear hK K
                (try simp only [Act.put, List.setIfInBounds_toArray, List.set_cons_zero, List.set_cons_succ])))
              (refine wpAnyH_take (i := 6) (v := ?_) rfl (by kernel_rfl) (by kernel_rfl) (by kernel_rfl) (fun _ _ _ h => h) (Or.inl ⟨by kernel_rfl, ?_⟩) (by assumption) ?_
               rotate_left
               · (intro w hSw; (try dsimp only at hSw); go_simp; (try with_reducible rfl))
               (try simp only [Act.put, List.setIfInBounds_toArray, List.set_cons_zero, List.set_cons_succ]))
              (refine wpAnyH_take (i := 7) (v := ?_) rfl (by kernel_rfl) (by kernel_rfl) (by kernel_rfl) (fun _ _ _ h => h) (Or.inl ⟨by kernel_rfl, ?_⟩) (by assumption) ?_
               rotate_left
               · (intro w hSw; (try dsimp only at hSw); go_simp; (try with_reducible rfl))
               (try simp only [Act.put, List.setIfInBounds_toArray, List.set_cons_zero, List.set_cons_succ]))
              (refine wpAnyH_take (i := 8) (v := ?_) rfl (by kernel_rfl) (by kernel_rfl) (by kernel_rfl) (fun _ _ _ h => h) (Or.inl ⟨by kernel_rfl, ?_⟩) (by assumption) ?_
               rotate_left
               · (intro w hSw; (try dsimp only at hSw); go_simp; (try with_reducible rfl))
               (try simp only [Act.put, List.setIfInBounds_toArray, List.set_cons_zero, List.set_cons_succ]))
              (refine wpAnyH_take (i := 9) (v := ?_) rfl (by kernel_rfl) (by kernel_rfl) (by kernel_rfl) (fun _ _ _ h => h) (Or.inl ⟨by kernel_rfl, ?_⟩) (by assumption) ?_
               rotate_left
               · (intro w hSw; (try dsimp only at hSw); go_simp; (try with_reducible rfl))
               (try simp only [Act.put, List.setIfInBounds_toArray, List.set_cons_zero, List.set_cons_succ]))
              (refine wpAnyH_ready (rs := [10]) (by kernel_rfl) (by simp) ?_)
              refine AllReadyH.cons rfl (fun K hK => ?_) AllReadyH.nil
              (go_simp
               (refine hK.out _ _ ?_ (fun hHeld => ?_)
                · (try dsimp only); exact (by repeat (first | with_reducible exact Ab.refl _ | with_reducible assumption | with_reducible refine Ab.drew ?_ | with_reducible refine Ab.drewN ?_ _ | with_reducible refine Ab.alloc ?_ _ | with_reducible refine Ab.trans ?_ (by assumption) | with_reducible refine Ab.set ?_ (by first | (simp; done) | omega | (simp; omega)) _))
                clear hK K
                (try simp only [Act.put, List.setIfInBounds_toArray, List.set_cons_zero, List.set_cons_succ])))
              (refine wpAnyH_ready (rs := [11]) (by kernel_rfl) (by simp) ?_)
              refine AllReadyH.cons rfl (fun K hK => ?_) AllReadyH.nil
              (go_simp
               (refine hK.out _ _ ?_ (fun hHeld => ?_)
                · (try dsimp only); exact (by repeat (first | with_reducible exact Ab.refl _ | with_reducible assumption | with_reducible refine Ab.drew ?_ | with_reducible refine Ab.drewN ?_ _ | with_reducible refine Ab.alloc ?_ _ | with_reducible refine Ab.trans ?_ (by assumption) | with_reducible refine Ab.set ?_ (by first | (simp; done) | omega | (simp; omega)) _))
                clear hK K
                (try simp only [Act.put, List.setIfInBounds_toArray, List.set_cons_zero, List.set_cons_succ])))
              (refine wpAnyH_ready (rs := [12]) (by kernel_rfl) (by simp) ?_)
              refine AllReadyH.cons rfl (fun K hK => ?_) AllReadyH.nil
              (go_simp
               (refine hK.out _ _ ?_ (fun hHeld => ?_)
                · (try dsimp only); exact (by repeat (first | with_reducible exact Ab.refl _ | with_reducible assumption | with_reducible refine Ab.drew ?_ | with_reducible refine Ab.drewN ?_ _ | with_reducible refine Ab.alloc ?_ _ | with_reducible refine Ab.trans ?_ (by assumption) | with_reducible refine Ab.set ?_ (by first | (simp; done) | omega | (simp; omega)) _))
                clear hK K
                (try simp only [Act.put, List.setIfInBounds_toArray, List.set_cons_zero, List.set_cons_succ])))
              (refine wpAnyH_ready (rs := [13]) (by kernel_rfl) (by simp) ?_)
              refine AllReadyH.cons rfl (fun K hK => ?_) AllReadyH.nil
              (go_simp
               (refine hK.out _ _ ?_ (fun hHeld => ?_)
                · (try dsimp only); exact (by repeat (first | with_reducible exact Ab.refl _ | with_reducible assumption | with_reducible refine Ab.drew ?_ | with_reducible refine Ab.drewN ?_ _ | with_reducible refine Ab.alloc ?_ _ | with_reducible refine Ab.trans ?_ (by assumption) | with_reducible refine Ab.set ?_ (by first | (simp; done) | omega | (simp; omega)) _))
                clear hK K
                (try simp only [Act.put, List.setIfInBounds_toArray, List.set_cons_zero, List.set_cons_succ])))
              refine wpAnyH_done (by kernel_rfl) ?_ _
              go_wp2_with fail
              go_meet
              have bx5 : Ab wx w5 := ((Ab.refl wx).drew).trans hb5
              exact ⟨w5.heap.size, mp, p, n5, e5, rfl, rfl, rfl, Lib.hid hr5.out, bx5.size, SlB.box (new_plain rfl), hMp.ab ((Ab.refl w5).alloc _), bx5.alloc _⟩
            · (go_simp
               (refine hK.out _ _ ?_ (fun hHeld => ?_)
                · (try dsimp only); exact (by repeat (first | with_reducible exact Ab.refl _ | with_reducible assumption | with_reducible refine Ab.drew ?_ | with_reducible refine Ab.drewN ?_ _ | with_reducible refine Ab.alloc ?_ _ | with_reducible refine Ab.trans ?_ (by assumption) | with_reducible refine Ab.set ?_ (by first | (simp; done) | omega | (simp; omega)) _))
                clear hK K
                (try simp only [Act.put, List.setIfInBounds_toArray, List.set_cons_zero, List.set_cons_succ])))
              (refine wpAnyH_ready (rs := [5]) (by kernel_rfl) (by simp) ?_)
              refine AllReadyH.cons rfl (fun K hK => ?_) AllReadyH.nil
              (go_simp
               (go_at_call 10
                refine (ssave_any ms s _ (hMs.ab (by repeat (first | with_reducible exact Ab.refl _ | with_reducible assumption | with_reducible refine Ab.drew ?_ | with_reducible refine Ab.drewN ?_ _ | with_reducible refine Ab.alloc ?_ _ | with_reducible refine Ab.trans ?_ (by assumption) | with_reducible refine Ab.set ?_ (by first | (simp; done) | omega | (simp; omega)) _))) xs[k].A xs[k].b xs[k].c (hRB.ab (by repeat (first | with_reducible exact Ab.refl _ | with_reducible assumption | with_reducible refine Ab.drew ?_ | with_reducible refine Ab.drewN ?_ _ | with_reducible refine Ab.alloc ?_ _ | with_reducible refine Ab.trans ?_ (by assumption) | with_reducible refine Ab.set ?_ (by first | (simp; done) | omega | (simp; omega)) _))) hRc).mono ?_
                rintro e w5 ⟨p, n5, e5, mp, hr5, rfl, hMp, hb5⟩)
               (try go_wp2_with fail)
               (refine hK.out _ _ ?_ (fun hHeld => ?_)
                · (try dsimp only); exact (by repeat (first | with_reducible exact Ab.refl _ | with_reducible assumption | with_reducible refine Ab.drew ?_ | with_reducible refine Ab.drewN ?_ _ | with_reducible refine Ab.alloc ?_ _ | with_reducible refine Ab.trans ?_ (by assumption) | with_reducible refine Ab.set ?_ (by first | (simp; done) | omega | (simp; omega)) _))
                clear hK K
                (try simp only [Act.put, List.setIfInBounds_toArray, List.set_cons_zero, List.set_cons_succ])))
              have hz5 : SlB w5 wx.heap.size AM.nil Slots.zero := (SlB.box (w := wx.drew.alloc (.cells #[.slice none 0 0, .slice none 0 0, .int .i64 0, .bool false, .slice none 0 0, .slice none 0 0, .int .i64 0, .bool false, .int .i64 0] 27)) (b := wx.heap.size) (m := AM.nil) (r := Slots.zero) (new_plain rfl)).ab hb5
              have Z5 := hz5
              obtain ⟨zq0, zq1, zq2, zq3, zq4, zq5, zq6, zq7, zq8, zg0, zg1, zg2, zg3, zg4, zg5, zg6, zg7, zg8⟩ := Z5
              (try simp only [AM.nil, Slots.zero, Disk.zero, List.length_nil] at zq0 zq1 zq2 zq3 zq4 zq5 zq6 zq7 zq8)
              (refine wpAnyH_take (i := 6) (v := ?_) rfl (by kernel_rfl) (by kernel_rfl) (by kernel_rfl) (fun _ _ _ h => h) (Or.inl ⟨by kernel_rfl, ?_⟩) (by assumption) ?_
               rotate_left
               · (intro w hSw; (try dsimp only at hSw); go_simp; (try with_reducible rfl))
               (try simp only [Act.put, List.setIfInBounds_toArray, List.set_cons_zero, List.set_cons_succ]))
              (refine wpAnyH_take (i := 7) (v := ?_) rfl (by kernel_rfl) (by kernel_rfl) (by kernel_rfl) (fun _ _ _ h => h) (Or.inl ⟨by kernel_rfl, ?_⟩) (by assumption) ?_
               rotate_left
               · (intro w hSw; (try dsimp only at hSw); go_simp; (try with_reducible rfl))
               (try simp only [Act.put, List.setIfInBounds_toArray, List.set_cons_zero, List.set_cons_succ]))
              (refine wpAnyH_take (i := 8) (v := ?_) rfl (by kernel_rfl) (by kernel_rfl) (by kernel_rfl) (fun _ _ _ h => h) (Or.inl ⟨by kernel_rfl, ?_⟩) (by assumption) ?_
               rotate_left
               · (intro w hSw; (try dsimp only at hSw); go_simp; (try with_reducible rfl))
               (try simp only [Act.put, List.setIfInBounds_toArray, List.set_cons_zero, List.set_cons_succ]))
              (refine wpAnyH_take (i := 9) (v := ?_) rfl (by kernel_rfl) (by kernel_rfl) (by kernel_rfl) (fun _ _ _ h => h) (Or.inl ⟨by kernel_rfl, ?_⟩) (by assumption) ?_
               rotate_left
               · (intro w hSw; (try dsimp only at hSw); go_simp; (try with_reducible rfl))
               (try simp only [Act.put, List.setIfInBounds_toArray, List.set_cons_zero, List.set_cons_succ]))
              (refine wpAnyH_ready (rs := [11]) (by kernel_rfl) (by simp) ?_)
              refine AllReadyH.cons rfl (fun K hK => ?_) AllReadyH.nil
              (go_simp
               (refine hK.out _ _ ?_ (fun hHeld => ?_)
                · (try dsimp only); exact (by repeat (first | with_reducible exact Ab.refl _ | with_reducible assumption | with_reducible refine Ab.drew ?_ | with_reducible refine Ab.drewN ?_ _ | with_reducible refine Ab.alloc ?_ _ | with_reducible refine Ab.trans ?_ (by assumption) | with_reducible refine Ab.set ?_ (by first | (simp; done) | omega | (simp; omega)) _))
                clear hK K
                (try simp only [Act.put, List.setIfInBounds_toArray, List.set_cons_zero, List.set_cons_succ])))
              (refine wpAnyH_ready (rs := [12]) (by kernel_rfl) (by simp) ?_)
              refine AllReadyH.cons rfl (fun K hK => ?_) AllReadyH.nil
              (go_simp
               (refine hK.out _ _ ?_ (fun hHeld => ?_)
                · (try dsimp only); exact (by repeat (first | with_reducible exact Ab.refl _ | with_reducible assumption | with_reducible refine Ab.drew ?_ | with_reducible refine Ab.drewN ?_ _ | with_reducible refine Ab.alloc ?_ _ | with_reducible refine Ab.trans ?_ (by assumption) | with_reducible refine Ab.set ?_ (by first | (simp; done) | omega | (simp; omega)) _))
                clear hK K
                (try simp only [Act.put, List.setIfInBounds_toArray, List.set_cons_zero, List.set_cons_succ])))
              (refine wpAnyH_ready (rs := [13]) (by kernel_rfl) (by simp) ?_)
              refine AllReadyH.cons rfl (fun K hK => ?_) AllReadyH.nil
              (go_simp
               (refine hK.out _ _ ?_ (fun hHeld => ?_)
                · (try dsimp only); exact (by repeat (first | with_reducible exact Ab.refl _ | with_reducible assumption | with_reducible refine Ab.drew ?_ | with_reducible refine Ab.drewN ?_ _ | with_reducible refine Ab.alloc ?_ _ | with_reducible refine Ab.trans ?_ (by assumption) | with_reducible refine Ab.set ?_ (by first | (simp; done) | omega | (simp; omega)) _))
                clear hK K
                (try simp only [Act.put, List.setIfInBounds_toArray, List.set_cons_zero, List.set_cons_succ])))
              refine wpAnyH_done (by kernel_rfl) ?_ _
              go_wp2_with fail
              go_meet
              have bx5 : Ab wx w5 := (((Ab.refl wx).drew).alloc _).trans hb5
              exact ⟨wx.heap.size, mp, p, n5, e5, rfl, rfl, rfl, Lib.hid hr5.out, Nat.le_refl _, hz5.set9, hMp.set9 hz5 _ _, bx5.set9 (Nat.le_refl _) _ _⟩
          case rest =>
            obtain ⟨b9, m9, p, num, er, rfl, rfl, rfl, hsv, hb9, H9, hM9, bxy⟩ := hcut
            rename World => wc
            have bwc : Ab wr wc := bwx.trans bxy
            have hn : s.n = (k : Int) + 1 := HN.out
            have hc := bxy.at hc
            have hw2 : IntKind.i64.wrap ((k : Int) + 2) = (k : Int) + 2 := IntWalk.i64_in _ (by omega)
            have hw1 : IntKind.i64.wrap ((k : Int) + 1) = (k : Int) + 1 := IntWalk.i64_in _ (by omega)
            rcases Slots.row_save HP.out HC.out (by omega) hb100 hsv.out with ⟨he, hroom⟩ | ⟨he, hnum, hP9, hn9, hC9, hL9, d, hH, hO⟩
            · obtain rfl : er = 18 := he
              have hlw : IntKind.i64.wrap ((xs[k].b.length : Int) + 12) = (xs[k].b.length : Int) + 12 := IntWalk.i64_in _ (by omega)
              have hroom' : decide (c < (xs[k].b.length : Int) + 12) = true := by simp; omega
              clear hn hroom
              go_wp2_with fail
              refine (salive_true _).mono ?_
              rintro e wz ⟨rfl, hbz⟩
              go_wp2
              go_ret
              exact ⟨rfl, (by repeat (first | with_reducible exact Ab.refl _ | with_reducible assumption | with_reducible refine Ab.drew ?_ | with_reducible refine Ab.drewN ?_ _ | with_reducible refine Ab.alloc ?_ _ | with_reducible refine Ab.trans ?_ (by assumption) | with_reducible refine Ab.set ?_ (by first | (simp; done) | omega | (simp; omega)) _))⟩
            · obtain rfl : er = 0 := he
              obtain rfl : num = (k : Int) + 1 := hnum.trans hn
              have hp2 : (p.n != (k : Int) + 2) = false := by rw [hn9, hn]; simp; omega
              have HP9 := Lib.hid hP9
              have HC9 := Lib.hid hC9
              have HN9 := Lib.hid (show p.n = ((k + 1 : Nat) : Int) + 1 by rw [hn9, hn]; omega)
              have HL9 := Lib.hid (show Slots.load p = ((k : Int) + 1, xs[k].b, 0) by rw [hL9, hn])
              have HH := Lib.hid hH
              have HO := Lib.hid hO
              clear hn hP9 hn9 hC9 hL9 hH hO hnum hsv
              have S9 := H9
              obtain ⟨yq0, yq1, yq2, yq3, yq4, yq5, yq6, yq7, yq8, yg0, yg1, yg2, yg3, yg4, yg5, yg6, yg7, yg8⟩ := S9
              (try simp only [AM.nil, Slots.zero, Disk.zero, List.length_nil] at yq0 yq1 yq2 yq3 yq4 yq5 yq6 yq7 yq8)
              go_wp2_with fail
              refine (load_any m9 p _ hM9).mono ?_
              rintro e w6 ⟨n6, e6, b6, A6, c6, hr6, rfl, hA6, hc6, hl6, hb6⟩
              obtain ⟨f1, f2⟩ := Prod.mk.inj (hr6.out.trans HL9.out)
              obtain ⟨f3, f4⟩ := Prod.mk.inj f2
              obtain rfl : n6 = (k : Int) + 1 := f1
              obtain rfl : b6 = xs[k].b := f3
              obtain rfl : e6 = 0 := f4
              clear hr6 f2
              clear yq0 yq1 yq2 yq3 yq4 yq5 yq6 yq7 yq8 yg0 yg1 yg2 yg3 yg4 yg5 yg6 yg7 yg8
              have H9 := H9.ab hb6
              have hc := hb6.at hc
              have rA6 : RB w6 0 A6 xs[k].b := hA6.zero
              have rL6 : RB w6 0 xs[k].A xs[k].b := (hRB.ab bxy).ab hb6
              have S9 := H9
              obtain ⟨yq0, yq1, yq2, yq3, yq4, yq5, yq6, yq7, yq8, yg0, yg1, yg2, yg3, yg4, yg5, yg6, yg7, yg8⟩ := S9
              (try simp only [AM.nil, Slots.zero, Disk.zero, List.length_nil] at yq0 yq1 yq2 yq3 yq4 yq5 yq6 yq7 yq8)
              go_wp2_with fail
              refine (sameBytes_refl A6 xs[k].A c6 xs[k].c xs[k].b _ rA6 rL6 (by omega)).mono ?_
              rintro e wa ⟨rfl, na, rfl⟩
              clear yq0 yq1 yq2 yq3 yq4 yq5 yq6 yq7 yq8 yg0 yg1 yg2 yg3 yg4 yg5 yg6 yg7 yg8
              have bd : Ab w6 (w6.drewN na) := (Ab.refl _).drewN _
              have H9 := H9.ab bd
              have hc := bd.at hc
              have hM9 := (hM9.ab hb6).ab bd
              have hRB6 := rL6.ab bd
              have b6w : Ab wr (w6.drewN na) := (bwc.trans hb6).trans bd
              have H6 := ((H6.ab bxy).ab hb6).ab bd
              clear rA6 rL6 hb6 bd
              generalize w6.drewN na = wd at *
              go_upto_region 20 with fail
              go_cut [15, 16] (fun s15 s16 wy => ∃ (b15 : Nat) (m : AM), s15 = .pointer (some ⟨b15, 0, none⟩) ∧ s16 = .int .i64 0 ∧ SlB wy b15 m d ∧ SlM wy 0 m d ∧ Ab wd wy)
              case first =>
                refine wp_region_held_drew (by kernel_rfl) (S := fun w' => Ab wd w') ?_ (fun hHeld => ?_)
                · exact (by repeat (first | with_reducible exact Ab.refl _ | with_reducible assumption | with_reducible refine Ab.drew ?_ | with_reducible refine Ab.drewN ?_ _ | with_reducible refine Ab.alloc ?_ _ | with_reducible refine Ab.trans ?_ (by assumption) | with_reducible refine Ab.set ?_ (by first | (simp; done) | omega | (simp; omega)) _))
                (refine wpAnyH_take (i := 0) (v := ?_) rfl (by kernel_rfl) (by kernel_rfl) (by kernel_rfl) (fun _ _ _ h => h) (Or.inl ⟨by kernel_rfl, ?_⟩) (by assumption) ?_
                 rotate_left
                 · (intro w hSw
                    obtain ⟨xq0, xq1, xq2, xq3, xq4, xq5, xq6, xq7, xq8, xg0, xg1, xg2, xg3, xg4, xg5, xg6, xg7, xg8⟩ := (H9).ab hSw
                    go_simp
                    (try with_reducible rfl))
                 (try simp only [Act.put, List.setIfInBounds_toArray, List.set_cons_zero, List.set_cons_succ]))
                (refine wpAnyH_take (i := 1) (v := ?_) rfl (by kernel_rfl) (by kernel_rfl) (by kernel_rfl) (fun _ _ _ h => h) (Or.inl ⟨by kernel_rfl, ?_⟩) (by assumption) ?_
                 rotate_left
                 · (intro w hSw; (try dsimp only at hSw); go_simp; (try with_reducible rfl))
                 (try simp only [Act.put, List.setIfInBounds_toArray, List.set_cons_zero, List.set_cons_succ]))
                (refine wpAnyH_take (i := 2) (v := ?_) rfl (by kernel_rfl) (by kernel_rfl) (by kernel_rfl) (fun _ _ _ h => h) (Or.inl ⟨by kernel_rfl, ?_⟩) (by assumption) ?_
                 rotate_left
                 · (intro w hSw; (try dsimp only at hSw); go_simp; (try with_reducible rfl))
                 (try simp only [Act.put, List.setIfInBounds_toArray, List.set_cons_zero, List.set_cons_succ]))
                (refine wpAnyH_take (i := 3) (v := ?_) rfl (by kernel_rfl) (by kernel_rfl) (by kernel_rfl) (fun _ _ _ h => h) (Or.inl ⟨by kernel_rfl, ?_⟩) (by assumption) ?_
                 rotate_left
                 · (intro w hSw; (try dsimp only at hSw); go_simp; (try with_reducible rfl))
                 (try simp only [Act.put, List.setIfInBounds_toArray, List.set_cons_zero, List.set_cons_succ]))
                (refine wpAnyH_take (i := 4) (v := ?_) rfl (by kernel_rfl) (by kernel_rfl) (by kernel_rfl) (fun _ _ _ h => h) (Or.inl ⟨by kernel_rfl, ?_⟩) (by assumption) ?_
                 rotate_left
                 · (intro w hSw
                    have hrow := hSw.at hc
                    go_simp
                    (try with_reducible rfl))
                 (try simp only [Act.put, List.setIfInBounds_toArray, List.set_cons_zero, List.set_cons_succ]))
                (refine wpAnyH_ready (rs := [5, 9]) (by kernel_rfl) (by simp) ?_)
                refine AllReadyH.cons rfl (fun K hK => ?_) (AllReadyH.cons rfl (fun K hK => ?_) AllReadyH.nil)
                · (go_simp
                   (go_at_call 12
                    refine (shalf_any m9 p _ (hM9.ab (by repeat (first | with_reducible exact Ab.refl _ | with_reducible assumption | with_reducible refine Ab.drew ?_ | with_reducible refine Ab.drewN ?_ _ | with_reducible refine Ab.alloc ?_ _ | with_reducible refine Ab.trans ?_ (by assumption) | with_reducible refine Ab.set ?_ (by first | (simp; done) | omega | (simp; omega)) _))) xs[k].A xs[k].b xs[k].c (hRB6.ab (by repeat (first | with_reducible exact Ab.refl _ | with_reducible assumption | with_reducible refine Ab.drew ?_ | with_reducible refine Ab.drewN ?_ _ | with_reducible refine Ab.alloc ?_ _ | with_reducible refine Ab.trans ?_ (by assumption) | with_reducible refine Ab.set ?_ (by first | (simp; done) | omega | (simp; omega)) _))) hRc 0 0).mono ?_
                    rintro e w7 ⟨q7, e7, m7, hr7, rfl, hM7, hb7⟩)
                   (try go_wp2_with fail)
                   (refine hK.out _ _ ?_ (fun hHeld => ?_)
                    · (try dsimp only); exact (by repeat (first | with_reducible exact Ab.refl _ | with_reducible assumption | with_reducible refine Ab.drew ?_ | with_reducible refine Ab.drewN ?_ _ | with_reducible refine Ab.alloc ?_ _ | with_reducible refine Ab.trans ?_ (by assumption) | with_reducible refine Ab.set ?_ (by first | (simp; done) | omega | (simp; omega)) _))
                    clear hK K
                    (try simp only [Act.put, List.setIfInBounds_toArray, List.set_cons_zero, List.set_cons_succ])))
                  obtain ⟨f1, f2⟩ := Prod.mk.inj (hr7.out.trans HH.out)
                  obtain rfl : q7 = d := f1
                  obtain rfl : e7 = 0 := f2
                  (refine wpAnyH_take (i := 6) (v := ?_) rfl (by kernel_rfl) (by kernel_rfl) (by kernel_rfl) (fun _ _ _ h => h) (Or.inl ⟨by kernel_rfl, ?_⟩) (by assumption) ?_
                   rotate_left
                   · (intro w hSw; (try dsimp only at hSw); go_simp; (try with_reducible rfl))
                   (try simp only [Act.put, List.setIfInBounds_toArray, List.set_cons_zero, List.set_cons_succ]))
                  (refine wpAnyH_take (i := 7) (v := ?_) rfl (by kernel_rfl) (by kernel_rfl) (by kernel_rfl) (fun _ _ _ h => h) (Or.inl ⟨by kernel_rfl, ?_⟩) (by assumption) ?_
                   rotate_left
                   · (intro w hSw; (try dsimp only at hSw); go_simp; (try with_reducible rfl))
                   (try simp only [Act.put, List.setIfInBounds_toArray, List.set_cons_zero, List.set_cons_succ]))
                  (refine wpAnyH_take (i := 8) (v := ?_) rfl (by kernel_rfl) (by kernel_rfl) (by kernel_rfl) (fun _ _ _ h => h) (Or.inl ⟨by kernel_rfl, ?_⟩) (by assumption) ?_
                   rotate_left
                   · (intro w hSw; (try dsimp only at hSw); go_simp; (try with_reducible rfl))
                   (try simp only [Act.put, List.setIfInBounds_toArray, List.set_cons_zero, List.set_cons_succ]))
                  (refine wpAnyH_ready (rs := [9]) (by kernel_rfl) (by simp) ?_)
                  refine AllReadyH.cons rfl (fun K hK => ?_) AllReadyH.nil
                  (go_simp
                   (refine hK.out _ _ ?_ (fun hHeld => ?_)
                    · (try dsimp only); exact (by repeat (first | with_reducible exact Ab.refl _ | with_reducible assumption | with_reducible refine Ab.drew ?_ | with_reducible refine Ab.drewN ?_ _ | with_reducible refine Ab.alloc ?_ _ | with_reducible refine Ab.trans ?_ (by assumption) | with_reducible refine Ab.set ?_ (by first | (simp; done) | omega | (simp; omega)) _))
                    clear hK K
                    (try simp only [Act.put, List.setIfInBounds_toArray, List.set_cons_zero, List.set_cons_succ])))
                  (refine wpAnyH_ready (rs := [10]) (by kernel_rfl) (by simp) ?_)
                  refine AllReadyH.cons rfl (fun K hK => ?_) AllReadyH.nil
                  (go_simp
                   (refine hK.out _ _ ?_ (fun hHeld => ?_)
                    · (try dsimp only); exact (by repeat (first | with_reducible exact Ab.refl _ | with_reducible assumption | with_reducible refine Ab.drew ?_ | with_reducible refine Ab.drewN ?_ _ | with_reducible refine Ab.alloc ?_ _ | with_reducible refine Ab.trans ?_ (by assumption) | with_reducible refine Ab.set ?_ (by first | (simp; done) | omega | (simp; omega)) _))
                    clear hK K
                    (try simp only [Act.put, List.setIfInBounds_toArray, List.set_cons_zero, List.set_cons_succ])))
                  (refine wpAnyH_ready (rs := [11]) (by kernel_rfl) (by simp) ?_)
                  refine AllReadyH.cons rfl (fun K hK => ?_) AllReadyH.nil
                  (go_simp
                   (refine hK.out _ _ ?_ (fun hHeld => ?_)
                    · (try dsimp only); exact (by repeat (first | with_reducible exact Ab.refl _ | with_reducible assumption | with_reducible refine Ab.drew ?_ | with_reducible refine Ab.drewN ?_ _ | with_reducible refine Ab.alloc ?_ _ | with_reducible refine Ab.trans ?_ (by assumption) | with_reducible refine Ab.set ?_ (by first | (simp; done) | omega | (simp; omega)) _))
                    clear hK K
                    (try simp only [Act.put, List.setIfInBounds_toArray, List.set_cons_zero, List.set_cons_succ])))
                  refine wpAnyH_done (by kernel_rfl) ?_ _
                  go_wp2_with fail
                  go_meet
                  have bx7 : Ab wd w7 := ((Ab.refl wd).drew).trans hb7
                  exact ⟨w7.heap.size, m7, rfl, rfl, SlB.box (new_plain rfl), hM7.zero.ab ((Ab.refl w7).alloc _), bx7.alloc _⟩
                · (go_simp
                   (refine hK.out _ _ ?_ (fun hHeld => ?_)
                    · (try dsimp only); exact (by repeat (first | with_reducible exact Ab.refl _ | with_reducible assumption | with_reducible refine Ab.drew ?_ | with_reducible refine Ab.drewN ?_ _ | with_reducible refine Ab.alloc ?_ _ | with_reducible refine Ab.trans ?_ (by assumption) | with_reducible refine Ab.set ?_ (by first | (simp; done) | omega | (simp; omega)) _))
                    clear hK K
                    (try simp only [Act.put, List.setIfInBounds_toArray, List.set_cons_zero, List.set_cons_succ])))
                  (refine wpAnyH_ready (rs := [5]) (by kernel_rfl) (by simp) ?_)
                  refine AllReadyH.cons rfl (fun K hK => ?_) AllReadyH.nil
                  (go_simp
                   (go_at_call 12
                    refine (shalf_any m9 p _ (hM9.ab (by repeat (first | with_reducible exact Ab.refl _ | with_reducible assumption | with_reducible refine Ab.drew ?_ | with_reducible refine Ab.drewN ?_ _ | with_reducible refine Ab.alloc ?_ _ | with_reducible refine Ab.trans ?_ (by assumption) | with_reducible refine Ab.set ?_ (by first | (simp; done) | omega | (simp; omega)) _))) xs[k].A xs[k].b xs[k].c (hRB6.ab (by repeat (first | with_reducible exact Ab.refl _ | with_reducible assumption | with_reducible refine Ab.drew ?_ | with_reducible refine Ab.drewN ?_ _ | with_reducible refine Ab.alloc ?_ _ | with_reducible refine Ab.trans ?_ (by assumption) | with_reducible refine Ab.set ?_ (by first | (simp; done) | omega | (simp; omega)) _))) hRc 0 0).mono ?_
                    rintro e w7 ⟨q7, e7, m7, hr7, rfl, hM7, hb7⟩)
                   (try go_wp2_with fail)
                   (refine hK.out _ _ ?_ (fun hHeld => ?_)
                    · (try dsimp only); exact (by repeat (first | with_reducible exact Ab.refl _ | with_reducible assumption | with_reducible refine Ab.drew ?_ | with_reducible refine Ab.drewN ?_ _ | with_reducible refine Ab.alloc ?_ _ | with_reducible refine Ab.trans ?_ (by assumption) | with_reducible refine Ab.set ?_ (by first | (simp; done) | omega | (simp; omega)) _))
                    clear hK K
                    (try simp only [Act.put, List.setIfInBounds_toArray, List.set_cons_zero, List.set_cons_succ])))
                  obtain ⟨f1, f2⟩ := Prod.mk.inj (hr7.out.trans HH.out)
                  obtain rfl : q7 = d := f1
                  obtain rfl : e7 = 0 := f2
                  have hz7 : SlB w7 wd.heap.size AM.nil Slots.zero := (SlB.box (w := wd.drew.alloc (.cells #[.slice none 0 0, .slice none 0 0, .int .i64 0, .bool false, .slice none 0 0, .slice none 0 0, .int .i64 0, .bool false, .int .i64 0] 27)) (b := wd.heap.size) (m := AM.nil) (r := Slots.zero) (new_plain rfl)).ab hb7
                  have Z7 := hz7
                  obtain ⟨zq0, zq1, zq2, zq3, zq4, zq5, zq6, zq7, zq8, zg0, zg1, zg2, zg3, zg4, zg5, zg6, zg7, zg8⟩ := Z7
                  (try simp only [AM.nil, Slots.zero, Disk.zero, List.length_nil] at zq0 zq1 zq2 zq3 zq4 zq5 zq6 zq7 zq8)
                  (refine wpAnyH_take (i := 6) (v := ?_) rfl (by kernel_rfl) (by kernel_rfl) (by kernel_rfl) (fun _ _ _ h => h) (Or.inl ⟨by kernel_rfl, ?_⟩) (by assumption) ?_
                   rotate_left
                   · (intro w hSw; (try dsimp only at hSw); go_simp; (try with_reducible rfl))
                   (try simp only [Act.put, List.setIfInBounds_toArray, List.set_cons_zero, List.set_cons_succ]))
                  (refine wpAnyH_take (i := 7) (v := ?_) rfl (by kernel_rfl) (by kernel_rfl) (by kernel_rfl) (fun _ _ _ h => h) (Or.inl ⟨by kernel_rfl, ?_⟩) (by assumption) ?_
                   rotate_left
                   · (intro w hSw; (try dsimp only at hSw); go_simp; (try with_reducible rfl))
                   (try simp only [Act.put, List.setIfInBounds_toArray, List.set_cons_zero, List.set_cons_succ]))
                  (refine wpAnyH_take (i := 8) (v := ?_) rfl (by kernel_rfl) (by kernel_rfl) (by kernel_rfl) (fun _ _ _ h => h) (Or.inl ⟨by kernel_rfl, ?_⟩) (by assumption) ?_
                   rotate_left
                   · (intro w hSw; (try dsimp only at hSw); go_simp; (try with_reducible rfl))
                   (try simp only [Act.put, List.setIfInBounds_toArray, List.set_cons_zero, List.set_cons_succ]))
                  (refine wpAnyH_ready (rs := [10]) (by kernel_rfl) (by simp) ?_)
                  refine AllReadyH.cons rfl (fun K hK => ?_) AllReadyH.nil
                  (go_simp
                   (refine hK.out _ _ ?_ (fun hHeld => ?_)
                    · (try dsimp only); exact (by repeat (first | with_reducible exact Ab.refl _ | with_reducible assumption | with_reducible refine Ab.drew ?_ | with_reducible refine Ab.drewN ?_ _ | with_reducible refine Ab.alloc ?_ _ | with_reducible refine Ab.trans ?_ (by assumption) | with_reducible refine Ab.set ?_ (by first | (simp; done) | omega | (simp; omega)) _))
                    clear hK K
                    (try simp only [Act.put, List.setIfInBounds_toArray, List.set_cons_zero, List.set_cons_succ])))
                  (refine wpAnyH_ready (rs := [11]) (by kernel_rfl) (by simp) ?_)
                  refine AllReadyH.cons rfl (fun K hK => ?_) AllReadyH.nil
                  (go_simp
                   (refine hK.out _ _ ?_ (fun hHeld => ?_)
                    · (try dsimp only); exact (by repeat (first | with_reducible exact Ab.refl _ | with_reducible assumption | with_reducible refine Ab.drew ?_ | with_reducible refine Ab.drewN ?_ _ | with_reducible refine Ab.alloc ?_ _ | with_reducible refine Ab.trans ?_ (by assumption) | with_reducible refine Ab.set ?_ (by first | (simp; done) | omega | (simp; omega)) _))
                    clear hK K
                    (try simp only [Act.put, List.setIfInBounds_toArray, List.set_cons_zero, List.set_cons_succ])))
                  refine wpAnyH_done (by kernel_rfl) ?_ _
                  go_wp2_with fail
                  go_meet
                  have bx7 : Ab wd w7 := (((Ab.refl wd).drew).alloc _).trans hb7
                  exact ⟨wd.heap.size, m7, rfl, rfl, hz7.set9, hM7.zero.set9 hz7 _ _, bx7.set9 (Nat.le_refl _) _ _⟩
              case rest =>
                obtain ⟨b15, m15, rfl, rfl, H15, hM15, bdy⟩ := hcut
                rename World => we
                have H9 := H9.ab bdy
                have H6 := H6.ab bdy
                have hM9 := hM9.ab bdy
                have bwe : Ab wr we := b6w.trans bdy
                have S15 := H15
                obtain ⟨yq0, yq1, yq2, yq3, yq4, yq5, yq6, yq7, yq8, yg0, yg1, yg2, yg3, yg4, yg5, yg6, yg7, yg8⟩ := S15
                (try simp only [AM.nil, Slots.zero, Disk.zero, List.length_nil] at yq0 yq1 yq2 yq3 yq4 yq5 yq6 yq7 yq8)
                go_wp2_with fail
                refine (sopen_any m15 d _ hM15).mono ?_
                rintro e w8 ⟨r8, e8, m8, hr8, rfl, hM8, hb8⟩
                obtain ⟨f1, f2⟩ := Prod.mk.inj (hr8.out.trans HO.out)
                obtain rfl : p = r8 := f1.symm
                obtain rfl : e8 = 0 := f2
                clear hr8
                clear yq0 yq1 yq2 yq3 yq4 yq5 yq6 yq7 yq8 yg0 yg1 yg2 yg3 yg4 yg5 yg6 yg7 yg8
                have H9 := H9.ab hb8
                have H6 := H6.ab hb8
                have hM9 := hM9.ab hb8
                have bwf : Ab wr w8 := bwe.trans hb8
                have hal8 : Ab w8 (w8.alloc (.cells #[.slice m8.A p.a.s.length m8.ca, .slice m8.B p.a.t.length m8.cb, .int .i64 p.a.cap, .bool p.a.down, .slice m8.C p.b.s.length m8.cc, .slice m8.D p.b.t.length m8.cd, .int .i64 p.b.cap, .bool p.b.down, .int .i64 p.n] 27)) := (Ab.refl w8).alloc _
                have S9 := H9
                obtain ⟨yq0, yq1, yq2, yq3, yq4, yq5, yq6, yq7, yq8, yg0, yg1, yg2, yg3, yg4, yg5, yg6, yg7, yg8⟩ := S9
                (try simp only [AM.nil, Slots.zero, Disk.zero, List.length_nil] at yq0 yq1 yq2 yq3 yq4 yq5 yq6 yq7 yq8)
                have nya := fun (o : Obj) (j : Nat) => World.cell?_alloc_lt w8 o ⟨b9, j, none⟩ H9.lt
                have nyb := fun (o : Obj) (j : Nat) => ((Ab.refl w8).alloc o).frozen (p := ⟨b9, j, none⟩) H9.lt
                clear hb8
                go_wp2_with fail
                refine (ssame_true m8 m9 p _ (hM8.zero.ab hal8) (hM9.ab hal8)).mono ?_
                rintro e wg ⟨rfl, hbg⟩
                clear yq0 yq1 yq2 yq3 yq4 yq5 yq6 yq7 yq8 yg0 yg1 yg2 yg3 yg4 yg5 yg6 yg7 yg8
                have bg : Ab w8 wg := hal8.trans hbg
                have H9 := H9.ab bg
                have H6 := H6.ab bg
                have hM9 := hM9.ab bg
                have bwg : Ab wr wg := bwf.trans bg
                have S9 := H9
                have S6 := H6
                obtain ⟨yq0, yq1, yq2, yq3, yq4, yq5, yq6, yq7, yq8, yg0, yg1, yg2, yg3, yg4, yg5, yg6, yg7, yg8⟩ := S9
                (try simp only [AM.nil, Slots.zero, Disk.zero, List.length_nil] at yq0 yq1 yq2 yq3 yq4 yq5 yq6 yq7 yq8)
                obtain ⟨vq0, vq1, vq2, vq3, vq4, vq5, vq6, vq7, vq8, vg0, vg1, vg2, vg3, vg4, vg5, vg6, vg7, vg8⟩ := S6
                (try simp only [AM.nil, Slots.zero, Disk.zero, List.length_nil] at vq0 vq1 vq2 vq3 vq4 vq5 vq6 vq7 vq8)
                clear nya nyb hbg bg hal8
                go_wp2
                go_roundw
                case rel => exact ⟨k + 1, m9, p, by omega, by go_num, H6.set9, hM9.set9 H6 _ _, bwg.set9 hz1 _ _, HP9, HN9, HC9⟩
                case measure => simp [intOf]; omega
        · obtain rfl : k = xs.length := by omega
          go_wp2_with fail
          refine (salive_true _).mono ?_
          rintro e wz ⟨rfl, hbz⟩
          go_wp2
          go_ret
          exact ⟨rfl, (by repeat (first | with_reducible exact Ab.refl _ | with_reducible assumption | with_reducible refine Ab.drew ?_ | with_reducible refine Ab.drewN ?_ _ | with_reducible refine Ab.alloc ?_ _ | with_reducible refine Ab.trans ?_ (by assumption) | with_reducible refine Ab.set ?_ (by first | (simp; done) | omega | (simp; omega)) _))⟩
end Go.Proofs.Ytakgglpfgpkboaa
