/- One record by the reference, walked. Own work. -/
import Derived.Test.YtehagdpcegpbjaaFrRefC
import Derived.Test.YtehagdpcegpbjaaFrGet
set_option linter.unusedVariables false
set_option linter.unusedSimpArgs false
namespace Go.Proofs.Ytehagdpcegpbjaa
open Go.RowKit

theorem number_at (A : Option Addr) (b : List UInt8) (c n k m : Nat) (w : World) (hb : RB w 0 A b) (hc : b.length ≤ c) (h4 : k + 4 ≤ b.length) (ll : b.length ≤ 9223372036854775807) (hn : b.length - k = n) (hm : (Frame.rd b k).toNat = m) :
    Calls Try.prog 86 #[.slice (cutA A c k) n (c - k)] w fun e w' => e = .returned (.int .i64 (m : Int)) ∧ ∃ n, w' = w.drewN n := by
  have := number_any (cutA A c k) (b.drop k) (c - k) w (hb.cut k c hc) (by simp; omega) (by simp; omega)
  rw [rd_drop, hm, List.length_drop, hn] at this
  exact this

theorem cell_newc {W : World} {cs : Array Value} {T : TypeId} {fr : Nat × Nat} {n j : Nat} {v : Value} (h : W.heap.size = n) (hv : cs[j]? = some v) : (W.alloc (.cells cs T fr)).cell? ⟨n, j, none⟩ = some v := by
  unfold World.cell?
  rw [new_plain h]
  exact hv
theorem fr_drewN {W : World} {p : Addr} {k : Nat} (h : W.frozen? p = false) : (W.drewN k).frozen? p = false := h
theorem fr_drew {W : World} {p : Addr} (h : W.frozen? p = false) : W.drew.frozen? p = false := h
theorem fr_newc {W : World} {cs : Array Value} {T : TypeId} {n j : Nat} (h : W.heap.size = n) : (W.alloc (.cells cs T (0, 0))).frozen? ⟨n, j, none⟩ = false := by
  subst h; simp [go_sem]
theorem OR.setBox2 {lo : Nat} {w : World} {A : Option Addr} {c P : Nat} {l : List UInt8} {o : Array Value} {fr : Nat × Nat} (h : OR 5 lo w A c l) (hP : w.heap[P]? = some (.cells o 72 fr)) (u v : Value) :
    OR 5 lo ((w.setCell ⟨P, 0, none⟩ u).setCell ⟨P, 1, none⟩ v) A c l := by
  refine ⟨h.out.1, ?_⟩
  rcases h.out.2 with h0 | ⟨g, cap, cur, hv, hb, hh, r⟩
  · exact .inl h0
  · have hne : g ≠ P := by
      rintro rfl
      rw [hh] at hP
      injection hP with hP
      injection hP with _ hT
      exact absurd hT (by decide)
    refine .inr ⟨g, cap, cur, hv, hb, ?_, r⟩
    rw [Below.heap_setCell _ _ v g hne, Below.heap_setCell _ _ u g hne]
    exact hh
attribute [local irreducible] cutA
set_option maxHeartbeats 2000000 in
set_option maxRecDepth 4000 in
theorem one_any (A : Option Addr) (b : List UInt8) (c : Nat) (w : World) (hb : RB w 0 A b) (hc : b.length ≤ c) (lb : b.length ≤ 20000) :
    Calls Try.prog 80 #[.slice A b.length c] w (GotRec w b) := by
  by_cases h12 : b.length < 12
  · go_enter Try.func80, Try.ntmps80
    go_wp2
    refine bodyPost_ret (v := .tuple #[.agg #[.int .i64 0, .slice none 0 0], .bool false]) (by simp [results, Try.results80, go_sem]) rfl ?_
    exact GotRec.no rfl (Frame.no_short h12) (by repeat (first | with_reducible exact Ab.refl _ | with_reducible assumption | with_reducible refine Ab.drew ?_ | with_reducible refine Ab.drewN ?_ _ | with_reducible refine Ab.alloc ?_ _ | with_reducible refine Ab.trans ?_ (by assumption) | with_reducible refine Ab.set ?_ (by first | (simp; done) | omega | (simp; omega)) _))
  · have hc12 : 12 ≤ b.length := by omega
    generalize hn0 : (Frame.rd b 0).toNat = n0
    generalize hn4 : (Frame.rd b 4).toNat = n4
    have l0 : n0 ≤ 4294967295 := by have := (Frame.rd b 0).isLt; omega
    have l4 : n4 ≤ 4294967295 := by have := (Frame.rd b 4).isLt; omega
    have N0 := Lib.hid hn0
    have N4 := Lib.hid hn4
    have R0 : ∀ w', Ab w w' → Calls Try.prog 86 #[.slice A b.length c] w' (fun e w'' => e = .returned (.int .i64 (n0 : Int)) ∧ ∃ n, w'' = w'.drewN n) := fun w' h => by
      have := number_any A b c w' (hb.ab h) (by omega) (by omega)
      rw [hn0] at this
      exact this
    have R4 : ∀ w', Ab w w' → Calls Try.prog 86 #[.slice (cutA A c 4) (b.length - 4) (c - 4)] w' (fun e w'' => e = .returned (.int .i64 (n4 : Int)) ∧ ∃ n, w'' = w'.drewN n) := fun w' h =>
      number_at A b c (b.length - 4) 4 n4 w' (hb.ab h) hc (by omega) (by omega) rfl hn4
    clear hn0 hn4
    have hs4 : ∀ w, (Instr.slice 22 (.slice A (b.length) c) (some (.int .i64 4)) none none).run Try.prog w = .ok (.slice (cutA A c 4) (b.length - 4) (c - 4)) w := fun w => run_cut 4 .i64 A (b.length) c w (by omega)
    go_enter Try.func80, Try.ntmps80
    go_wp2_with fail
    refine (R0 _ (by repeat (first | with_reducible exact Ab.refl _ | with_reducible assumption | with_reducible refine Ab.drew ?_ | with_reducible refine Ab.drewN ?_ _ | with_reducible refine Ab.alloc ?_ _ | with_reducible refine Ab.trans ?_ (by assumption) | with_reducible refine Ab.set ?_ (by first | (simp; done) | omega | (simp; omega)) _))).mono ?_
    rintro e w1 ⟨rfl, n1, rfl⟩
    have hq : Ab (w.alloc (.cells #[.int .i64 0, .slice none 0 0] 72)) ((w.alloc (.cells #[.int .i64 0, .slice none 0 0] 72)).drewN n1) := (by repeat (first | with_reducible exact Ab.refl _ | with_reducible assumption | with_reducible refine Ab.drew ?_ | with_reducible refine Ab.drewN ?_ _ | with_reducible refine Ab.alloc ?_ _ | with_reducible refine Ab.trans ?_ (by assumption) | with_reducible refine Ab.set ?_ (by first | (simp; done) | omega | (simp; omega)) _))
    generalize ((w.alloc (.cells #[.int .i64 0, .slice none 0 0] 72)).drewN n1) = wq at *
    have zq0 := hq.at (p := ⟨w.heap.size, 0, none⟩) (v := .int .i64 0) (by simp [go_sem]); have zq1 := hq.at (p := ⟨w.heap.size, 1, none⟩) (v := .slice none 0 0) (by simp [go_sem])
    have zr0 : wq.frozen? ⟨w.heap.size, 0, none⟩ = false := (hq.frozen (p := ⟨w.heap.size, 0, none⟩) (by simp)).trans (by simp [go_sem]); have zr1 : wq.frozen? ⟨w.heap.size, 1, none⟩ = false := (hq.frozen (p := ⟨w.heap.size, 1, none⟩) (by simp)).trans (by simp [go_sem])
    have bq : Ab w wq := (by repeat (first | with_reducible exact Ab.refl _ | with_reducible assumption | with_reducible refine Ab.drew ?_ | with_reducible refine Ab.drewN ?_ _ | with_reducible refine Ab.alloc ?_ _ | with_reducible refine Ab.trans ?_ (by assumption) | with_reducible refine Ab.set ?_ (by first | (simp; done) | omega | (simp; omega)) _))
    clear hq R0
    by_cases h1 : 1000 < n0
    · go_wp2
      refine bodyPost_ret (v := .tuple #[.agg #[.int .i64 0, .slice none 0 0], .bool false]) (by simp [results, Try.results80, go_sem, zq0, zq1, zr0, zr1]) rfl ?_
      exact GotRec.no rfl (Frame.no_len (by rw [N0.out]; exact h1)) (by repeat (first | with_reducible exact Ab.refl _ | with_reducible assumption | with_reducible refine Ab.drew ?_ | with_reducible refine Ab.drewN ?_ _ | with_reducible refine Ab.alloc ?_ _ | with_reducible refine Ab.trans ?_ (by assumption) | with_reducible refine Ab.set ?_ (by first | (simp; done) | omega | (simp; omega)) _))
    · by_cases h3 : (b.length : Int) < 12 + (n0 : Int)
      · go_wp2
        refine bodyPost_ret (v := .tuple #[.agg #[.int .i64 0, .slice none 0 0], .bool false]) (by simp [results, Try.results80, go_sem, zq0, zq1, zr0, zr1]) rfl ?_
        exact GotRec.no rfl (Frame.no_room (by rw [N0.out]; omega)) (by repeat (first | with_reducible exact Ab.refl _ | with_reducible assumption | with_reducible refine Ab.drew ?_ | with_reducible refine Ab.drewN ?_ _ | with_reducible refine Ab.alloc ?_ _ | with_reducible refine Ab.trans ?_ (by assumption) | with_reducible refine Ab.set ?_ (by first | (simp; done) | omega | (simp; omega)) _))
      · have h3' : n0 + 12 ≤ b.length := by omega
        have hd12 : ∀ w, (Instr.slice 22 (.slice A b.length c) (some (.int .i64 12)) (some (.int .i64 (12 + (n0 : Int)))) none).run Try.prog w = .ok (.slice (cutA A c 12) n0 (c - 12)) w := fun w => by
          have := run_cuts 12 (12 + n0) .i64 .i64 A b.length c w (by omega) (by omega)
          rw [show 12 + n0 - 12 = n0 by omega] at this
          rw [← this]; norm_cast
        have hD0 : RB w 0 (cutA A c 12) ((b.drop 12).take n0) := (hb.cut 12 c hc).take n0
        have hDl : ((b.drop 12).take n0).length = n0 := by simp; omega
        have hPI : Hid (∀ r, Frame.Pre r b → r = ⟨(n4 : Int), (b.drop 12).take n0⟩) := Lib.hid (fun r h => by
          have := Frame.pre_is h
          rwa [N0.out, N4.out] at this)
        generalize (b.drop 12).take n0 = D at *
        have hsz := bq.size
        have hzz := cell_lt zq0
        simp only at hzz
        have hDc : D.length ≤ c - 12 := by omega
        have hsum := (IntWalk.i64_in (12 + (n0 : Int)) (by omega))
        go_wp2
        go_upto_region 6 with fail
        go_cut [5] (fun s wx => ∃ (p : Nat) (E : Option Addr) (ce : Nat) (dat : List UInt8), s = .pointer (some ⟨p, 0, none⟩) ∧ wx.cell? ⟨p, 0, none⟩ = some (.int .i64 (n4 : Int)) ∧ wx.cell? ⟨p, 1, none⟩ = some (.slice E dat.length ce) ∧
          Hid (dat = D) ∧ OR 5 (w.heap.size + 1) wx E ce dat ∧ Ab wq wx ∧ wq.heap.size ≤ p)
        case first =>
          refine wp_region_held_drew (by kernel_rfl) (S := fun _ => True) ?_ (fun hHeld => ?_)
          · try trivial
          (refine wpAnyH_take (i := 0) (v := ?_) rfl (by kernel_rfl) (by kernel_rfl) (by kernel_rfl) (fun _ _ _ h => h) (Or.inl ⟨by kernel_rfl, ?_⟩) (by assumption) ?_
           rotate_left
           · (intro w hSw; (try dsimp only at hSw); go_simp; (try with_reducible rfl))
           (try simp only [Act.put, List.setIfInBounds_toArray, List.set_cons_zero, List.set_cons_succ]))
          (refine wpAnyH_take (i := 1) (v := ?_) rfl (by kernel_rfl) (by kernel_rfl) (by kernel_rfl) (fun _ _ _ h => h) (Or.inl ⟨by kernel_rfl, ?_⟩) (by assumption) ?_
           rotate_left
           · (intro w hSw; (try dsimp only at hSw); go_simp; (try with_reducible rfl))
           (try simp only [Act.put, List.setIfInBounds_toArray, List.set_cons_zero, List.set_cons_succ]))
          (refine wpAnyH_take (i := 4) (v := ?_) rfl (by kernel_rfl) (by kernel_rfl) (by kernel_rfl) (fun _ _ _ h => h) (Or.inl ⟨by kernel_rfl, ?_⟩) (by assumption) ?_
           rotate_left
           · (intro w hSw; (try dsimp only at hSw); go_simp; (try with_reducible rfl))
           (try simp only [Act.put, List.setIfInBounds_toArray, List.set_cons_zero, List.set_cons_succ]))
          (refine wpAnyH_take (i := 5) (v := ?_) rfl (by kernel_rfl) (by kernel_rfl) (by kernel_rfl) (fun _ _ _ h => h) (Or.inl ⟨by kernel_rfl, ?_⟩) (by assumption) ?_
           rotate_left
           · (intro w hSw; (try dsimp only at hSw); go_simp; (try with_reducible rfl))
           (try simp only [Act.put, List.setIfInBounds_toArray, List.set_cons_zero, List.set_cons_succ]))
          (refine wpAnyH_take (i := 6) (v := ?_) rfl (by kernel_rfl) (by kernel_rfl) (by kernel_rfl) (fun _ _ _ h => h) (Or.inl ⟨by kernel_rfl, ?_⟩) (by assumption) ?_
           rotate_left
           · (intro w hSw; (try dsimp only at hSw); go_simp; (try with_reducible rfl))
           (try simp only [Act.put, List.setIfInBounds_toArray, List.set_cons_zero, List.set_cons_succ]))
          (refine wpAnyH_take (i := 7) (v := ?_) rfl (by kernel_rfl) (by kernel_rfl) (by kernel_rfl) (fun _ _ _ h => h) (Or.inl ⟨by kernel_rfl, ?_⟩) (by assumption) ?_
           rotate_left
           · (intro w hSw; (try dsimp only at hSw); go_simp; (try with_reducible rfl))
           (try simp only [Act.put, List.setIfInBounds_toArray, List.set_cons_zero, List.set_cons_succ]))
          (refine wpAnyH_ready (rs := [2, 3, 10]) (by kernel_rfl) (by simp) ?_)
          refine AllReadyH.cons rfl (fun K hK => ?_) (AllReadyH.cons rfl (fun K hK => ?_) (AllReadyH.cons rfl (fun K hK => ?_) AllReadyH.nil))
          · (go_simp
             ((go_at_call 86)
              refine (R4 _ (by repeat (first | with_reducible exact Ab.refl _ | with_reducible assumption | with_reducible refine Ab.drew ?_ | with_reducible refine Ab.drewN ?_ _ | with_reducible refine Ab.alloc ?_ _ | with_reducible refine Ab.trans ?_ (by assumption) | with_reducible refine Ab.set ?_ (by first | (simp; done) | omega | (simp; omega)) _))).mono ?_
              rintro e w4 ⟨rfl, m4, rfl⟩)
             (try go_wp2_with fail)
             (refine hK.out _ _ ?_ (fun hHeld => ?_)
              · (try dsimp only); try trivial
              clear hK K
              (try simp only [Act.put, List.setIfInBounds_toArray, List.set_cons_zero, List.set_cons_succ])))
            (refine wpAnyH_ready (rs := [3, 10]) (by kernel_rfl) (by simp) ?_)
            refine AllReadyH.cons rfl (fun K hK => ?_) (AllReadyH.cons rfl (fun K hK => ?_) AllReadyH.nil)
            · (go_simp
               (refine hK.out _ _ ?_ (fun hHeld => ?_)
                · (try dsimp only); try trivial
                clear hK K
                (try simp only [Act.put, List.setIfInBounds_toArray, List.set_cons_zero, List.set_cons_succ])))
              (refine wpAnyH_ready (rs := [8, 10]) (by kernel_rfl) (by simp) ?_)
              refine AllReadyH.cons rfl (fun K hK => ?_) (AllReadyH.cons rfl (fun K hK => ?_) AllReadyH.nil)
              · (refine stepLit (by rfl) _ _ (by rfl) (by rfl) (by rfl) (m := D) hDl (by repeat (first | exact new_plain (by first | (simp; done) | omega | (simp; omega)) | exact new_drewN (by first | (simp; done) | omega | (simp; omega)) | exact new_drew (by first | (simp; done) | omega | (simp; omega)) | with_reducible refine old_alloc ?_ | with_reducible refine old_drew ?_ | with_reducible refine old_drewN ?_ _ | with_reducible refine old_ab (by assumption) ?_)) (RB.ab hD0 (by repeat (first | with_reducible exact Ab.refl _ | with_reducible assumption | with_reducible refine Ab.drew ?_ | with_reducible refine Ab.drewN ?_ _ | with_reducible refine Ab.alloc ?_ _ | with_reducible refine Ab.trans ?_ (by assumption) | with_reducible refine Ab.set ?_ (by first | (simp; done) | omega | (simp; omega)) _))) hDc (by omega) ?_
                 intro A1 c1 w1 L1 e1 a1 o1
                 have p1 := o1 (w.heap.size + 1) (by first | (simp; done) | omega | (simp; omega)) (by first | (simp; done) | omega | (simp; omega))
                 clear o1
                 have za1 := a1.size
                 (try simp at za1)
                 (refine hK.out _ _ ?_ (fun hHeld => ?_)
                  · (try dsimp only); try trivial
                  clear hK K
                  (try simp only [Act.put, List.setIfInBounds_toArray, List.set_cons_zero, List.set_cons_succ])))
                (refine wpAnyH_take (i := 9) (v := ?_) rfl (by kernel_rfl) (by kernel_rfl) (by kernel_rfl) (fun _ _ _ h => h) (Or.inl ⟨by kernel_rfl, ?_⟩) (by assumption) ?_
                 rotate_left
                 · (intro w hSw; (try dsimp only at hSw); go_simp; (try with_reducible rfl))
                 (try simp only [Act.put, List.setIfInBounds_toArray, List.set_cons_zero, List.set_cons_succ]))
                (refine wpAnyH_ready (rs := [10]) (by kernel_rfl) (by simp) ?_)
                refine AllReadyH.cons rfl (fun K hK => ?_) AllReadyH.nil
                · (go_simp
                   (refine hK.out _ _ ?_ (fun hHeld => ?_)
                    · (try dsimp only); try trivial
                    clear hK K
                    (try simp only [Act.put, List.setIfInBounds_toArray, List.set_cons_zero, List.set_cons_succ])))
                  (refine wpAnyH_ready (rs := [11]) (by kernel_rfl) (by simp) ?_)
                  refine AllReadyH.cons rfl (fun K hK => ?_) AllReadyH.nil
                  (go_simp
                   (refine hK.out _ _ ?_ (fun hHeld => ?_)
                    · (try dsimp only); try trivial
                    clear hK K
                    (try simp only [Act.put, List.setIfInBounds_toArray, List.set_cons_zero, List.set_cons_succ])))
                  refine wpAnyH_done (by kernel_rfl) ?_ _
                  go_wp2_with fail
                  go_meet
                  exact ⟨w1.heap.size, A1, c1, L1, rfl, by simp [go_sem], by simp [go_sem], e1, (by (repeat (first | with_reducible exact OR.none_ | with_reducible assumption | with_reducible refine OR.drew ?_ | with_reducible refine OR.drewN ?_ _ | with_reducible refine OR.alloc ?_ _ | (with_reducible refine OR.setNew ?_ _ ?_ _; rotate_left; focus (first | (simp; done) | omega | (simp; omega))) | with_reducible refine OR.set ?_ (by first | (simp; done) | omega | (simp; omega)) _ | (with_reducible refine OR.keep ?_ (by assumption))))), (by repeat (first | with_reducible exact Ab.refl _ | with_reducible assumption | with_reducible refine Ab.drew ?_ | with_reducible refine Ab.drewN ?_ _ | with_reducible refine Ab.alloc ?_ _ | with_reducible refine Ab.trans ?_ (by assumption) | with_reducible refine Ab.set ?_ (by first | (simp; done) | omega | (simp; omega)) _)), (by first | (simp; done) | omega | (simp; omega))⟩
              · (go_simp
                 (refine hK.out _ _ ?_ (fun hHeld => ?_)
                  · (try dsimp only); try trivial
                  clear hK K
                  (try simp only [Act.put, List.setIfInBounds_toArray, List.set_cons_zero, List.set_cons_succ])))
                (refine wpAnyH_ready (rs := [8]) (by kernel_rfl) (by simp) ?_)
                refine AllReadyH.cons rfl (fun K hK => ?_) AllReadyH.nil
                · (refine stepLit (by rfl) _ _ (by rfl) (by rfl) (by rfl) (m := D) hDl (by repeat (first | exact new_plain (by first | (simp; done) | omega | (simp; omega)) | exact new_drewN (by first | (simp; done) | omega | (simp; omega)) | exact new_drew (by first | (simp; done) | omega | (simp; omega)) | with_reducible refine old_alloc ?_ | with_reducible refine old_drew ?_ | with_reducible refine old_drewN ?_ _ | with_reducible refine old_ab (by assumption) ?_)) (RB.ab hD0 (by repeat (first | with_reducible exact Ab.refl _ | with_reducible assumption | with_reducible refine Ab.drew ?_ | with_reducible refine Ab.drewN ?_ _ | with_reducible refine Ab.alloc ?_ _ | with_reducible refine Ab.trans ?_ (by assumption) | with_reducible refine Ab.set ?_ (by first | (simp; done) | omega | (simp; omega)) _))) hDc (by omega) ?_
                   intro A1 c1 w1 L1 e1 a1 o1
                   have p1 := o1 (w.heap.size + 1) (by first | (simp; done) | omega | (simp; omega)) (by first | (simp; done) | omega | (simp; omega))
                   clear o1
                   have za1 := a1.size
                   (try simp at za1)
                   have hP : w1.heap[wq.heap.size + 1]? = some (.cells #[.int .i64 0, .slice none 0 0] 72 (0, 0)) := (by repeat (first | exact new_plain (by first | (simp; done) | omega | (simp; omega)) | exact new_drewN (by first | (simp; done) | omega | (simp; omega)) | exact new_drew (by first | (simp; done) | omega | (simp; omega)) | with_reducible refine old_alloc ?_ | with_reducible refine old_drew ?_ | with_reducible refine old_drewN ?_ _ | with_reducible refine old_ab (by assumption) ?_))
                   have m0 := a1.at (p := ⟨wq.heap.size + 1, 0, none⟩) (v := .int .i64 0) (by repeat (first | with_reducible assumption | exact cell_newc (by first | (simp; done) | omega | (simp; omega)) rfl | with_reducible apply cell_alloc | with_reducible apply cell_drew | with_reducible apply cell_drewN))
                   have m1 := a1.at (p := ⟨wq.heap.size + 1, 1, none⟩) (v := .slice none 0 0) (by repeat (first | with_reducible assumption | exact cell_newc (by first | (simp; done) | omega | (simp; omega)) rfl | with_reducible apply cell_alloc | with_reducible apply cell_drew | with_reducible apply cell_drewN))
                   have m2 : w1.frozen? ⟨wq.heap.size + 1, 0, none⟩ = false := a1.fr (by first | (simp; done) | omega | (simp; omega)) (by repeat (first | with_reducible assumption | exact fr_newc (by first | (simp; done) | omega | (simp; omega)) | with_reducible refine fr_drewN ?_ | with_reducible refine fr_drew ?_ | (with_reducible refine fr_alloc ?_ ?_; focus (first | (simp; done) | omega | (simp; omega)))))
                   have m3 : w1.frozen? ⟨wq.heap.size + 1, 1, none⟩ = false := a1.fr (by first | (simp; done) | omega | (simp; omega)) (by repeat (first | with_reducible assumption | exact fr_newc (by first | (simp; done) | omega | (simp; omega)) | with_reducible refine fr_drewN ?_ | with_reducible refine fr_drew ?_ | (with_reducible refine fr_alloc ?_ ?_; focus (first | (simp; done) | omega | (simp; omega)))))
                   (refine hK.out _ _ ?_ (fun hHeld => ?_)
                    · (try dsimp only); try trivial
                    clear hK K
                    (try simp only [Act.put, List.setIfInBounds_toArray, List.set_cons_zero, List.set_cons_succ])))
                  (refine wpAnyH_take (i := 9) (v := ?_) rfl (by kernel_rfl) (by kernel_rfl) (by kernel_rfl) (fun _ _ _ h => h) (Or.inl ⟨by kernel_rfl, ?_⟩) (by assumption) ?_
                   rotate_left
                   · (intro w hSw; (try dsimp only at hSw); go_simp; (try with_reducible rfl))
                   (try simp only [Act.put, List.setIfInBounds_toArray, List.set_cons_zero, List.set_cons_succ]))
                  (refine wpAnyH_ready (rs := [11]) (by kernel_rfl) (by simp) ?_)
                  refine AllReadyH.cons rfl (fun K hK => ?_) AllReadyH.nil
                  (go_simp
                   (refine hK.out _ _ ?_ (fun hHeld => ?_)
                    · (try dsimp only); try trivial
                    clear hK K
                    (try simp only [Act.put, List.setIfInBounds_toArray, List.set_cons_zero, List.set_cons_succ])))
                  refine wpAnyH_done (by kernel_rfl) ?_ _
                  go_wp2_with fail
                  go_meet
                  exact ⟨wq.heap.size + 1, A1, c1, L1, rfl, (by first | (simp [go_sem, *]; done) | (simp [go_sem]; done)), (by first | (simp [go_sem, *]; done) | (simp [go_sem]; done)), e1, OR.setBox2 (P := wq.heap.size + 1) (show OR 5 (w.heap.size + 1) _ A1 c1 L1 from (by (repeat (first | with_reducible exact OR.none_ | with_reducible assumption | with_reducible refine OR.drew ?_ | with_reducible refine OR.drewN ?_ _ | with_reducible refine OR.alloc ?_ _ | (with_reducible refine OR.setNew ?_ _ ?_ _; rotate_left; focus (first | (simp; done) | omega | (simp; omega))) | with_reducible refine OR.set ?_ (by first | (simp; done) | omega | (simp; omega)) _ | (with_reducible refine OR.keep ?_ (by assumption)))))) hP _ _, (by repeat (first | with_reducible exact Ab.refl _ | with_reducible assumption | with_reducible refine Ab.drew ?_ | with_reducible refine Ab.drewN ?_ _ | with_reducible refine Ab.alloc ?_ _ | with_reducible refine Ab.trans ?_ (by assumption) | with_reducible refine Ab.set ?_ (by first | (simp; done) | omega | (simp; omega)) _)), (by first | (simp; done) | omega | (simp; omega))⟩
            · (go_simp
               (refine hK.out _ _ ?_ (fun hHeld => ?_)
                · (try dsimp only); try trivial
                clear hK K
                (try simp only [Act.put, List.setIfInBounds_toArray, List.set_cons_zero, List.set_cons_succ])))
              (refine wpAnyH_ready (rs := [3]) (by kernel_rfl) (by simp) ?_)
              refine AllReadyH.cons rfl (fun K hK => ?_) AllReadyH.nil
              · (go_simp
                 (refine hK.out _ _ ?_ (fun hHeld => ?_)
                  · (try dsimp only); try trivial
                  clear hK K
                  (try simp only [Act.put, List.setIfInBounds_toArray, List.set_cons_zero, List.set_cons_succ])))
                (refine wpAnyH_ready (rs := [8]) (by kernel_rfl) (by simp) ?_)
                refine AllReadyH.cons rfl (fun K hK => ?_) AllReadyH.nil
                · (refine stepLit (by rfl) _ _ (by rfl) (by rfl) (by rfl) (m := D) hDl (by repeat (first | exact new_plain (by first | (simp; done) | omega | (simp; omega)) | exact new_drewN (by first | (simp; done) | omega | (simp; omega)) | exact new_drew (by first | (simp; done) | omega | (simp; omega)) | with_reducible refine old_alloc ?_ | with_reducible refine old_drew ?_ | with_reducible refine old_drewN ?_ _ | with_reducible refine old_ab (by assumption) ?_)) (RB.ab hD0 (by repeat (first | with_reducible exact Ab.refl _ | with_reducible assumption | with_reducible refine Ab.drew ?_ | with_reducible refine Ab.drewN ?_ _ | with_reducible refine Ab.alloc ?_ _ | with_reducible refine Ab.trans ?_ (by assumption) | with_reducible refine Ab.set ?_ (by first | (simp; done) | omega | (simp; omega)) _))) hDc (by omega) ?_
                   intro A1 c1 w1 L1 e1 a1 o1
                   have p1 := o1 (w.heap.size + 1) (by first | (simp; done) | omega | (simp; omega)) (by first | (simp; done) | omega | (simp; omega))
                   clear o1
                   have za1 := a1.size
                   (try simp at za1)
                   have hP : w1.heap[wq.heap.size]? = some (.cells #[.int .i64 0, .slice none 0 0] 72 (0, 0)) := (by repeat (first | exact new_plain (by first | (simp; done) | omega | (simp; omega)) | exact new_drewN (by first | (simp; done) | omega | (simp; omega)) | exact new_drew (by first | (simp; done) | omega | (simp; omega)) | with_reducible refine old_alloc ?_ | with_reducible refine old_drew ?_ | with_reducible refine old_drewN ?_ _ | with_reducible refine old_ab (by assumption) ?_))
                   have m0 := a1.at (p := ⟨wq.heap.size, 0, none⟩) (v := .int .i64 0) (by repeat (first | with_reducible assumption | exact cell_newc (by first | (simp; done) | omega | (simp; omega)) rfl | with_reducible apply cell_alloc | with_reducible apply cell_drew | with_reducible apply cell_drewN))
                   have m1 := a1.at (p := ⟨wq.heap.size, 1, none⟩) (v := .slice none 0 0) (by repeat (first | with_reducible assumption | exact cell_newc (by first | (simp; done) | omega | (simp; omega)) rfl | with_reducible apply cell_alloc | with_reducible apply cell_drew | with_reducible apply cell_drewN))
                   have m2 : w1.frozen? ⟨wq.heap.size, 0, none⟩ = false := a1.fr (by first | (simp; done) | omega | (simp; omega)) (by repeat (first | with_reducible assumption | exact fr_newc (by first | (simp; done) | omega | (simp; omega)) | with_reducible refine fr_drewN ?_ | with_reducible refine fr_drew ?_ | (with_reducible refine fr_alloc ?_ ?_; focus (first | (simp; done) | omega | (simp; omega)))))
                   have m3 : w1.frozen? ⟨wq.heap.size, 1, none⟩ = false := a1.fr (by first | (simp; done) | omega | (simp; omega)) (by repeat (first | with_reducible assumption | exact fr_newc (by first | (simp; done) | omega | (simp; omega)) | with_reducible refine fr_drewN ?_ | with_reducible refine fr_drew ?_ | (with_reducible refine fr_alloc ?_ ?_; focus (first | (simp; done) | omega | (simp; omega)))))
                   (refine hK.out _ _ ?_ (fun hHeld => ?_)
                    · (try dsimp only); try trivial
                    clear hK K
                    (try simp only [Act.put, List.setIfInBounds_toArray, List.set_cons_zero, List.set_cons_succ])))
                  (refine wpAnyH_take (i := 9) (v := ?_) rfl (by kernel_rfl) (by kernel_rfl) (by kernel_rfl) (fun _ _ _ h => h) (Or.inl ⟨by kernel_rfl, ?_⟩) (by assumption) ?_
                   rotate_left
                   · (intro w hSw; (try dsimp only at hSw); go_simp; (try with_reducible rfl))
                   (try simp only [Act.put, List.setIfInBounds_toArray, List.set_cons_zero, List.set_cons_succ]))
                  (refine wpAnyH_ready (rs := [11]) (by kernel_rfl) (by simp) ?_)
                  refine AllReadyH.cons rfl (fun K hK => ?_) AllReadyH.nil
                  (go_simp
                   (refine hK.out _ _ ?_ (fun hHeld => ?_)
                    · (try dsimp only); try trivial
                    clear hK K
                    (try simp only [Act.put, List.setIfInBounds_toArray, List.set_cons_zero, List.set_cons_succ])))
                  refine wpAnyH_done (by kernel_rfl) ?_ _
                  go_wp2_with fail
                  go_meet
                  exact ⟨wq.heap.size, A1, c1, L1, rfl, (by first | (simp [go_sem, *]; done) | (simp [go_sem]; done)), (by first | (simp [go_sem, *]; done) | (simp [go_sem]; done)), e1, OR.setBox2 (P := wq.heap.size) (show OR 5 (w.heap.size + 1) _ A1 c1 L1 from (by (repeat (first | with_reducible exact OR.none_ | with_reducible assumption | with_reducible refine OR.drew ?_ | with_reducible refine OR.drewN ?_ _ | with_reducible refine OR.alloc ?_ _ | (with_reducible refine OR.setNew ?_ _ ?_ _; rotate_left; focus (first | (simp; done) | omega | (simp; omega))) | with_reducible refine OR.set ?_ (by first | (simp; done) | omega | (simp; omega)) _ | (with_reducible refine OR.keep ?_ (by assumption)))))) hP _ _, (by repeat (first | with_reducible exact Ab.refl _ | with_reducible assumption | with_reducible refine Ab.drew ?_ | with_reducible refine Ab.drewN ?_ _ | with_reducible refine Ab.alloc ?_ _ | with_reducible refine Ab.trans ?_ (by assumption) | with_reducible refine Ab.set ?_ (by first | (simp; done) | omega | (simp; omega)) _)), (by first | (simp; done) | omega | (simp; omega))⟩
          · (go_simp
             (refine hK.out _ _ ?_ (fun hHeld => ?_)
              · (try dsimp only); try trivial
              clear hK K
              (try simp only [Act.put, List.setIfInBounds_toArray, List.set_cons_zero, List.set_cons_succ])))
            (refine wpAnyH_ready (rs := [2, 10]) (by kernel_rfl) (by simp) ?_)
            refine AllReadyH.cons rfl (fun K hK => ?_) (AllReadyH.cons rfl (fun K hK => ?_) AllReadyH.nil)
            · (go_simp
               ((go_at_call 86)
                refine (R4 _ (by repeat (first | with_reducible exact Ab.refl _ | with_reducible assumption | with_reducible refine Ab.drew ?_ | with_reducible refine Ab.drewN ?_ _ | with_reducible refine Ab.alloc ?_ _ | with_reducible refine Ab.trans ?_ (by assumption) | with_reducible refine Ab.set ?_ (by first | (simp; done) | omega | (simp; omega)) _))).mono ?_
                rintro e w4 ⟨rfl, m4, rfl⟩)
               (try go_wp2_with fail)
               (refine hK.out _ _ ?_ (fun hHeld => ?_)
                · (try dsimp only); try trivial
                clear hK K
                (try simp only [Act.put, List.setIfInBounds_toArray, List.set_cons_zero, List.set_cons_succ])))
              (refine wpAnyH_ready (rs := [8, 10]) (by kernel_rfl) (by simp) ?_)
              refine AllReadyH.cons rfl (fun K hK => ?_) (AllReadyH.cons rfl (fun K hK => ?_) AllReadyH.nil)
              · (refine stepLit (by rfl) _ _ (by rfl) (by rfl) (by rfl) (m := D) hDl (by repeat (first | exact new_plain (by first | (simp; done) | omega | (simp; omega)) | exact new_drewN (by first | (simp; done) | omega | (simp; omega)) | exact new_drew (by first | (simp; done) | omega | (simp; omega)) | with_reducible refine old_alloc ?_ | with_reducible refine old_drew ?_ | with_reducible refine old_drewN ?_ _ | with_reducible refine old_ab (by assumption) ?_)) (RB.ab hD0 (by repeat (first | with_reducible exact Ab.refl _ | with_reducible assumption | with_reducible refine Ab.drew ?_ | with_reducible refine Ab.drewN ?_ _ | with_reducible refine Ab.alloc ?_ _ | with_reducible refine Ab.trans ?_ (by assumption) | with_reducible refine Ab.set ?_ (by first | (simp; done) | omega | (simp; omega)) _))) hDc (by omega) ?_
                 intro A1 c1 w1 L1 e1 a1 o1
                 have p1 := o1 (w.heap.size + 1) (by first | (simp; done) | omega | (simp; omega)) (by first | (simp; done) | omega | (simp; omega))
                 clear o1
                 have za1 := a1.size
                 (try simp at za1)
                 (refine hK.out _ _ ?_ (fun hHeld => ?_)
                  · (try dsimp only); try trivial
                  clear hK K
                  (try simp only [Act.put, List.setIfInBounds_toArray, List.set_cons_zero, List.set_cons_succ])))
                (refine wpAnyH_take (i := 9) (v := ?_) rfl (by kernel_rfl) (by kernel_rfl) (by kernel_rfl) (fun _ _ _ h => h) (Or.inl ⟨by kernel_rfl, ?_⟩) (by assumption) ?_
                 rotate_left
                 · (intro w hSw; (try dsimp only at hSw); go_simp; (try with_reducible rfl))
                 (try simp only [Act.put, List.setIfInBounds_toArray, List.set_cons_zero, List.set_cons_succ]))
                (refine wpAnyH_ready (rs := [10]) (by kernel_rfl) (by simp) ?_)
                refine AllReadyH.cons rfl (fun K hK => ?_) AllReadyH.nil
                · (go_simp
                   (refine hK.out _ _ ?_ (fun hHeld => ?_)
                    · (try dsimp only); try trivial
                    clear hK K
                    (try simp only [Act.put, List.setIfInBounds_toArray, List.set_cons_zero, List.set_cons_succ])))
                  (refine wpAnyH_ready (rs := [11]) (by kernel_rfl) (by simp) ?_)
                  refine AllReadyH.cons rfl (fun K hK => ?_) AllReadyH.nil
                  (go_simp
                   (refine hK.out _ _ ?_ (fun hHeld => ?_)
                    · (try dsimp only); try trivial
                    clear hK K
                    (try simp only [Act.put, List.setIfInBounds_toArray, List.set_cons_zero, List.set_cons_succ])))
                  refine wpAnyH_done (by kernel_rfl) ?_ _
                  go_wp2_with fail
                  go_meet
                  exact ⟨w1.heap.size, A1, c1, L1, rfl, by simp [go_sem], by simp [go_sem], e1, (by (repeat (first | with_reducible exact OR.none_ | with_reducible assumption | with_reducible refine OR.drew ?_ | with_reducible refine OR.drewN ?_ _ | with_reducible refine OR.alloc ?_ _ | (with_reducible refine OR.setNew ?_ _ ?_ _; rotate_left; focus (first | (simp; done) | omega | (simp; omega))) | with_reducible refine OR.set ?_ (by first | (simp; done) | omega | (simp; omega)) _ | (with_reducible refine OR.keep ?_ (by assumption))))), (by repeat (first | with_reducible exact Ab.refl _ | with_reducible assumption | with_reducible refine Ab.drew ?_ | with_reducible refine Ab.drewN ?_ _ | with_reducible refine Ab.alloc ?_ _ | with_reducible refine Ab.trans ?_ (by assumption) | with_reducible refine Ab.set ?_ (by first | (simp; done) | omega | (simp; omega)) _)), (by first | (simp; done) | omega | (simp; omega))⟩
              · (go_simp
                 (refine hK.out _ _ ?_ (fun hHeld => ?_)
                  · (try dsimp only); try trivial
                  clear hK K
                  (try simp only [Act.put, List.setIfInBounds_toArray, List.set_cons_zero, List.set_cons_succ])))
                (refine wpAnyH_ready (rs := [8]) (by kernel_rfl) (by simp) ?_)
                refine AllReadyH.cons rfl (fun K hK => ?_) AllReadyH.nil
                · (refine stepLit (by rfl) _ _ (by rfl) (by rfl) (by rfl) (m := D) hDl (by repeat (first | exact new_plain (by first | (simp; done) | omega | (simp; omega)) | exact new_drewN (by first | (simp; done) | omega | (simp; omega)) | exact new_drew (by first | (simp; done) | omega | (simp; omega)) | with_reducible refine old_alloc ?_ | with_reducible refine old_drew ?_ | with_reducible refine old_drewN ?_ _ | with_reducible refine old_ab (by assumption) ?_)) (RB.ab hD0 (by repeat (first | with_reducible exact Ab.refl _ | with_reducible assumption | with_reducible refine Ab.drew ?_ | with_reducible refine Ab.drewN ?_ _ | with_reducible refine Ab.alloc ?_ _ | with_reducible refine Ab.trans ?_ (by assumption) | with_reducible refine Ab.set ?_ (by first | (simp; done) | omega | (simp; omega)) _))) hDc (by omega) ?_
                   intro A1 c1 w1 L1 e1 a1 o1
                   have p1 := o1 (w.heap.size + 1) (by first | (simp; done) | omega | (simp; omega)) (by first | (simp; done) | omega | (simp; omega))
                   clear o1
                   have za1 := a1.size
                   (try simp at za1)
                   have hP : w1.heap[wq.heap.size + 1]? = some (.cells #[.int .i64 0, .slice none 0 0] 72 (0, 0)) := (by repeat (first | exact new_plain (by first | (simp; done) | omega | (simp; omega)) | exact new_drewN (by first | (simp; done) | omega | (simp; omega)) | exact new_drew (by first | (simp; done) | omega | (simp; omega)) | with_reducible refine old_alloc ?_ | with_reducible refine old_drew ?_ | with_reducible refine old_drewN ?_ _ | with_reducible refine old_ab (by assumption) ?_))
                   have m0 := a1.at (p := ⟨wq.heap.size + 1, 0, none⟩) (v := .int .i64 0) (by repeat (first | with_reducible assumption | exact cell_newc (by first | (simp; done) | omega | (simp; omega)) rfl | with_reducible apply cell_alloc | with_reducible apply cell_drew | with_reducible apply cell_drewN))
                   have m1 := a1.at (p := ⟨wq.heap.size + 1, 1, none⟩) (v := .slice none 0 0) (by repeat (first | with_reducible assumption | exact cell_newc (by first | (simp; done) | omega | (simp; omega)) rfl | with_reducible apply cell_alloc | with_reducible apply cell_drew | with_reducible apply cell_drewN))
                   have m2 : w1.frozen? ⟨wq.heap.size + 1, 0, none⟩ = false := a1.fr (by first | (simp; done) | omega | (simp; omega)) (by repeat (first | with_reducible assumption | exact fr_newc (by first | (simp; done) | omega | (simp; omega)) | with_reducible refine fr_drewN ?_ | with_reducible refine fr_drew ?_ | (with_reducible refine fr_alloc ?_ ?_; focus (first | (simp; done) | omega | (simp; omega)))))
                   have m3 : w1.frozen? ⟨wq.heap.size + 1, 1, none⟩ = false := a1.fr (by first | (simp; done) | omega | (simp; omega)) (by repeat (first | with_reducible assumption | exact fr_newc (by first | (simp; done) | omega | (simp; omega)) | with_reducible refine fr_drewN ?_ | with_reducible refine fr_drew ?_ | (with_reducible refine fr_alloc ?_ ?_; focus (first | (simp; done) | omega | (simp; omega)))))
                   (refine hK.out _ _ ?_ (fun hHeld => ?_)
                    · (try dsimp only); try trivial
                    clear hK K
                    (try simp only [Act.put, List.setIfInBounds_toArray, List.set_cons_zero, List.set_cons_succ])))
                  (refine wpAnyH_take (i := 9) (v := ?_) rfl (by kernel_rfl) (by kernel_rfl) (by kernel_rfl) (fun _ _ _ h => h) (Or.inl ⟨by kernel_rfl, ?_⟩) (by assumption) ?_
                   rotate_left
                   · (intro w hSw; (try dsimp only at hSw); go_simp; (try with_reducible rfl))
                   (try simp only [Act.put, List.setIfInBounds_toArray, List.set_cons_zero, List.set_cons_succ]))
                  (refine wpAnyH_ready (rs := [11]) (by kernel_rfl) (by simp) ?_)
                  refine AllReadyH.cons rfl (fun K hK => ?_) AllReadyH.nil
                  (go_simp
                   (refine hK.out _ _ ?_ (fun hHeld => ?_)
                    · (try dsimp only); try trivial
                    clear hK K
                    (try simp only [Act.put, List.setIfInBounds_toArray, List.set_cons_zero, List.set_cons_succ])))
                  refine wpAnyH_done (by kernel_rfl) ?_ _
                  go_wp2_with fail
                  go_meet
                  exact ⟨wq.heap.size + 1, A1, c1, L1, rfl, (by first | (simp [go_sem, *]; done) | (simp [go_sem]; done)), (by first | (simp [go_sem, *]; done) | (simp [go_sem]; done)), e1, OR.setBox2 (P := wq.heap.size + 1) (show OR 5 (w.heap.size + 1) _ A1 c1 L1 from (by (repeat (first | with_reducible exact OR.none_ | with_reducible assumption | with_reducible refine OR.drew ?_ | with_reducible refine OR.drewN ?_ _ | with_reducible refine OR.alloc ?_ _ | (with_reducible refine OR.setNew ?_ _ ?_ _; rotate_left; focus (first | (simp; done) | omega | (simp; omega))) | with_reducible refine OR.set ?_ (by first | (simp; done) | omega | (simp; omega)) _ | (with_reducible refine OR.keep ?_ (by assumption)))))) hP _ _, (by repeat (first | with_reducible exact Ab.refl _ | with_reducible assumption | with_reducible refine Ab.drew ?_ | with_reducible refine Ab.drewN ?_ _ | with_reducible refine Ab.alloc ?_ _ | with_reducible refine Ab.trans ?_ (by assumption) | with_reducible refine Ab.set ?_ (by first | (simp; done) | omega | (simp; omega)) _)), (by first | (simp; done) | omega | (simp; omega))⟩
            · (go_simp
               (refine hK.out _ _ ?_ (fun hHeld => ?_)
                · (try dsimp only); try trivial
                clear hK K
                (try simp only [Act.put, List.setIfInBounds_toArray, List.set_cons_zero, List.set_cons_succ])))
              (refine wpAnyH_ready (rs := [2]) (by kernel_rfl) (by simp) ?_)
              refine AllReadyH.cons rfl (fun K hK => ?_) AllReadyH.nil
              · (go_simp
                 ((go_at_call 86)
                  refine (R4 _ (by repeat (first | with_reducible exact Ab.refl _ | with_reducible assumption | with_reducible refine Ab.drew ?_ | with_reducible refine Ab.drewN ?_ _ | with_reducible refine Ab.alloc ?_ _ | with_reducible refine Ab.trans ?_ (by assumption) | with_reducible refine Ab.set ?_ (by first | (simp; done) | omega | (simp; omega)) _))).mono ?_
                  rintro e w4 ⟨rfl, m4, rfl⟩)
                 (try go_wp2_with fail)
                 (refine hK.out _ _ ?_ (fun hHeld => ?_)
                  · (try dsimp only); try trivial
                  clear hK K
                  (try simp only [Act.put, List.setIfInBounds_toArray, List.set_cons_zero, List.set_cons_succ])))
                (refine wpAnyH_ready (rs := [8]) (by kernel_rfl) (by simp) ?_)
                refine AllReadyH.cons rfl (fun K hK => ?_) AllReadyH.nil
                · (refine stepLit (by rfl) _ _ (by rfl) (by rfl) (by rfl) (m := D) hDl (by repeat (first | exact new_plain (by first | (simp; done) | omega | (simp; omega)) | exact new_drewN (by first | (simp; done) | omega | (simp; omega)) | exact new_drew (by first | (simp; done) | omega | (simp; omega)) | with_reducible refine old_alloc ?_ | with_reducible refine old_drew ?_ | with_reducible refine old_drewN ?_ _ | with_reducible refine old_ab (by assumption) ?_)) (RB.ab hD0 (by repeat (first | with_reducible exact Ab.refl _ | with_reducible assumption | with_reducible refine Ab.drew ?_ | with_reducible refine Ab.drewN ?_ _ | with_reducible refine Ab.alloc ?_ _ | with_reducible refine Ab.trans ?_ (by assumption) | with_reducible refine Ab.set ?_ (by first | (simp; done) | omega | (simp; omega)) _))) hDc (by omega) ?_
                   intro A1 c1 w1 L1 e1 a1 o1
                   have p1 := o1 (w.heap.size + 1) (by first | (simp; done) | omega | (simp; omega)) (by first | (simp; done) | omega | (simp; omega))
                   clear o1
                   have za1 := a1.size
                   (try simp at za1)
                   have hP : w1.heap[wq.heap.size + 1]? = some (.cells #[.int .i64 0, .slice none 0 0] 72 (0, 0)) := (by repeat (first | exact new_plain (by first | (simp; done) | omega | (simp; omega)) | exact new_drewN (by first | (simp; done) | omega | (simp; omega)) | exact new_drew (by first | (simp; done) | omega | (simp; omega)) | with_reducible refine old_alloc ?_ | with_reducible refine old_drew ?_ | with_reducible refine old_drewN ?_ _ | with_reducible refine old_ab (by assumption) ?_))
                   have m0 := a1.at (p := ⟨wq.heap.size + 1, 0, none⟩) (v := .int .i64 0) (by repeat (first | with_reducible assumption | exact cell_newc (by first | (simp; done) | omega | (simp; omega)) rfl | with_reducible apply cell_alloc | with_reducible apply cell_drew | with_reducible apply cell_drewN))
                   have m1 := a1.at (p := ⟨wq.heap.size + 1, 1, none⟩) (v := .slice none 0 0) (by repeat (first | with_reducible assumption | exact cell_newc (by first | (simp; done) | omega | (simp; omega)) rfl | with_reducible apply cell_alloc | with_reducible apply cell_drew | with_reducible apply cell_drewN))
                   have m2 : w1.frozen? ⟨wq.heap.size + 1, 0, none⟩ = false := a1.fr (by first | (simp; done) | omega | (simp; omega)) (by repeat (first | with_reducible assumption | exact fr_newc (by first | (simp; done) | omega | (simp; omega)) | with_reducible refine fr_drewN ?_ | with_reducible refine fr_drew ?_ | (with_reducible refine fr_alloc ?_ ?_; focus (first | (simp; done) | omega | (simp; omega)))))
                   have m3 : w1.frozen? ⟨wq.heap.size + 1, 1, none⟩ = false := a1.fr (by first | (simp; done) | omega | (simp; omega)) (by repeat (first | with_reducible assumption | exact fr_newc (by first | (simp; done) | omega | (simp; omega)) | with_reducible refine fr_drewN ?_ | with_reducible refine fr_drew ?_ | (with_reducible refine fr_alloc ?_ ?_; focus (first | (simp; done) | omega | (simp; omega)))))
                   (refine hK.out _ _ ?_ (fun hHeld => ?_)
                    · (try dsimp only); try trivial
                    clear hK K
                    (try simp only [Act.put, List.setIfInBounds_toArray, List.set_cons_zero, List.set_cons_succ])))
                  (refine wpAnyH_take (i := 9) (v := ?_) rfl (by kernel_rfl) (by kernel_rfl) (by kernel_rfl) (fun _ _ _ h => h) (Or.inl ⟨by kernel_rfl, ?_⟩) (by assumption) ?_
                   rotate_left
                   · (intro w hSw; (try dsimp only at hSw); go_simp; (try with_reducible rfl))
                   (try simp only [Act.put, List.setIfInBounds_toArray, List.set_cons_zero, List.set_cons_succ]))
                  (refine wpAnyH_ready (rs := [11]) (by kernel_rfl) (by simp) ?_)
                  refine AllReadyH.cons rfl (fun K hK => ?_) AllReadyH.nil
                  (go_simp
                   (refine hK.out _ _ ?_ (fun hHeld => ?_)
                    · (try dsimp only); try trivial
                    clear hK K
                    (try simp only [Act.put, List.setIfInBounds_toArray, List.set_cons_zero, List.set_cons_succ])))
                  refine wpAnyH_done (by kernel_rfl) ?_ _
                  go_wp2_with fail
                  go_meet
                  exact ⟨wq.heap.size + 1, A1, c1, L1, rfl, (by first | (simp [go_sem, *]; done) | (simp [go_sem]; done)), (by first | (simp [go_sem, *]; done) | (simp [go_sem]; done)), e1, OR.setBox2 (P := wq.heap.size + 1) (show OR 5 (w.heap.size + 1) _ A1 c1 L1 from (by (repeat (first | with_reducible exact OR.none_ | with_reducible assumption | with_reducible refine OR.drew ?_ | with_reducible refine OR.drewN ?_ _ | with_reducible refine OR.alloc ?_ _ | (with_reducible refine OR.setNew ?_ _ ?_ _; rotate_left; focus (first | (simp; done) | omega | (simp; omega))) | with_reducible refine OR.set ?_ (by first | (simp; done) | omega | (simp; omega)) _ | (with_reducible refine OR.keep ?_ (by assumption)))))) hP _ _, (by repeat (first | with_reducible exact Ab.refl _ | with_reducible assumption | with_reducible refine Ab.drew ?_ | with_reducible refine Ab.drewN ?_ _ | with_reducible refine Ab.alloc ?_ _ | with_reducible refine Ab.trans ?_ (by assumption) | with_reducible refine Ab.set ?_ (by first | (simp; done) | omega | (simp; omega)) _)), (by first | (simp; done) | omega | (simp; omega))⟩
          · (go_simp
             (refine hK.out _ _ ?_ (fun hHeld => ?_)
              · (try dsimp only); try trivial
              clear hK K
              (try simp only [Act.put, List.setIfInBounds_toArray, List.set_cons_zero, List.set_cons_succ])))
            (refine wpAnyH_ready (rs := [2, 3]) (by kernel_rfl) (by simp) ?_)
            refine AllReadyH.cons rfl (fun K hK => ?_) (AllReadyH.cons rfl (fun K hK => ?_) AllReadyH.nil)
            · (go_simp
               ((go_at_call 86)
                refine (R4 _ (by repeat (first | with_reducible exact Ab.refl _ | with_reducible assumption | with_reducible refine Ab.drew ?_ | with_reducible refine Ab.drewN ?_ _ | with_reducible refine Ab.alloc ?_ _ | with_reducible refine Ab.trans ?_ (by assumption) | with_reducible refine Ab.set ?_ (by first | (simp; done) | omega | (simp; omega)) _))).mono ?_
                rintro e w4 ⟨rfl, m4, rfl⟩)
               (try go_wp2_with fail)
               (refine hK.out _ _ ?_ (fun hHeld => ?_)
                · (try dsimp only); try trivial
                clear hK K
                (try simp only [Act.put, List.setIfInBounds_toArray, List.set_cons_zero, List.set_cons_succ])))
              (refine wpAnyH_ready (rs := [3]) (by kernel_rfl) (by simp) ?_)
              refine AllReadyH.cons rfl (fun K hK => ?_) AllReadyH.nil
              · (go_simp
                 (refine hK.out _ _ ?_ (fun hHeld => ?_)
                  · (try dsimp only); try trivial
                  clear hK K
                  (try simp only [Act.put, List.setIfInBounds_toArray, List.set_cons_zero, List.set_cons_succ])))
                (refine wpAnyH_ready (rs := [8]) (by kernel_rfl) (by simp) ?_)
                refine AllReadyH.cons rfl (fun K hK => ?_) AllReadyH.nil
                · (refine stepLit (by rfl) _ _ (by rfl) (by rfl) (by rfl) (m := D) hDl (by repeat (first | exact new_plain (by first | (simp; done) | omega | (simp; omega)) | exact new_drewN (by first | (simp; done) | omega | (simp; omega)) | exact new_drew (by first | (simp; done) | omega | (simp; omega)) | with_reducible refine old_alloc ?_ | with_reducible refine old_drew ?_ | with_reducible refine old_drewN ?_ _ | with_reducible refine old_ab (by assumption) ?_)) (RB.ab hD0 (by repeat (first | with_reducible exact Ab.refl _ | with_reducible assumption | with_reducible refine Ab.drew ?_ | with_reducible refine Ab.drewN ?_ _ | with_reducible refine Ab.alloc ?_ _ | with_reducible refine Ab.trans ?_ (by assumption) | with_reducible refine Ab.set ?_ (by first | (simp; done) | omega | (simp; omega)) _))) hDc (by omega) ?_
                   intro A1 c1 w1 L1 e1 a1 o1
                   have p1 := o1 (w.heap.size + 1) (by first | (simp; done) | omega | (simp; omega)) (by first | (simp; done) | omega | (simp; omega))
                   clear o1
                   have za1 := a1.size
                   (try simp at za1)
                   have hP : w1.heap[wq.heap.size]? = some (.cells #[.int .i64 0, .slice none 0 0] 72 (0, 0)) := (by repeat (first | exact new_plain (by first | (simp; done) | omega | (simp; omega)) | exact new_drewN (by first | (simp; done) | omega | (simp; omega)) | exact new_drew (by first | (simp; done) | omega | (simp; omega)) | with_reducible refine old_alloc ?_ | with_reducible refine old_drew ?_ | with_reducible refine old_drewN ?_ _ | with_reducible refine old_ab (by assumption) ?_))
                   have m0 := a1.at (p := ⟨wq.heap.size, 0, none⟩) (v := .int .i64 0) (by repeat (first | with_reducible assumption | exact cell_newc (by first | (simp; done) | omega | (simp; omega)) rfl | with_reducible apply cell_alloc | with_reducible apply cell_drew | with_reducible apply cell_drewN))
                   have m1 := a1.at (p := ⟨wq.heap.size, 1, none⟩) (v := .slice none 0 0) (by repeat (first | with_reducible assumption | exact cell_newc (by first | (simp; done) | omega | (simp; omega)) rfl | with_reducible apply cell_alloc | with_reducible apply cell_drew | with_reducible apply cell_drewN))
                   have m2 : w1.frozen? ⟨wq.heap.size, 0, none⟩ = false := a1.fr (by first | (simp; done) | omega | (simp; omega)) (by repeat (first | with_reducible assumption | exact fr_newc (by first | (simp; done) | omega | (simp; omega)) | with_reducible refine fr_drewN ?_ | with_reducible refine fr_drew ?_ | (with_reducible refine fr_alloc ?_ ?_; focus (first | (simp; done) | omega | (simp; omega)))))
                   have m3 : w1.frozen? ⟨wq.heap.size, 1, none⟩ = false := a1.fr (by first | (simp; done) | omega | (simp; omega)) (by repeat (first | with_reducible assumption | exact fr_newc (by first | (simp; done) | omega | (simp; omega)) | with_reducible refine fr_drewN ?_ | with_reducible refine fr_drew ?_ | (with_reducible refine fr_alloc ?_ ?_; focus (first | (simp; done) | omega | (simp; omega)))))
                   (refine hK.out _ _ ?_ (fun hHeld => ?_)
                    · (try dsimp only); try trivial
                    clear hK K
                    (try simp only [Act.put, List.setIfInBounds_toArray, List.set_cons_zero, List.set_cons_succ])))
                  (refine wpAnyH_take (i := 9) (v := ?_) rfl (by kernel_rfl) (by kernel_rfl) (by kernel_rfl) (fun _ _ _ h => h) (Or.inl ⟨by kernel_rfl, ?_⟩) (by assumption) ?_
                   rotate_left
                   · (intro w hSw; (try dsimp only at hSw); go_simp; (try with_reducible rfl))
                   (try simp only [Act.put, List.setIfInBounds_toArray, List.set_cons_zero, List.set_cons_succ]))
                  (refine wpAnyH_ready (rs := [11]) (by kernel_rfl) (by simp) ?_)
                  refine AllReadyH.cons rfl (fun K hK => ?_) AllReadyH.nil
                  (go_simp
                   (refine hK.out _ _ ?_ (fun hHeld => ?_)
                    · (try dsimp only); try trivial
                    clear hK K
                    (try simp only [Act.put, List.setIfInBounds_toArray, List.set_cons_zero, List.set_cons_succ])))
                  refine wpAnyH_done (by kernel_rfl) ?_ _
                  go_wp2_with fail
                  go_meet
                  exact ⟨wq.heap.size, A1, c1, L1, rfl, (by first | (simp [go_sem, *]; done) | (simp [go_sem]; done)), (by first | (simp [go_sem, *]; done) | (simp [go_sem]; done)), e1, OR.setBox2 (P := wq.heap.size) (show OR 5 (w.heap.size + 1) _ A1 c1 L1 from (by (repeat (first | with_reducible exact OR.none_ | with_reducible assumption | with_reducible refine OR.drew ?_ | with_reducible refine OR.drewN ?_ _ | with_reducible refine OR.alloc ?_ _ | (with_reducible refine OR.setNew ?_ _ ?_ _; rotate_left; focus (first | (simp; done) | omega | (simp; omega))) | with_reducible refine OR.set ?_ (by first | (simp; done) | omega | (simp; omega)) _ | (with_reducible refine OR.keep ?_ (by assumption)))))) hP _ _, (by repeat (first | with_reducible exact Ab.refl _ | with_reducible assumption | with_reducible refine Ab.drew ?_ | with_reducible refine Ab.drewN ?_ _ | with_reducible refine Ab.alloc ?_ _ | with_reducible refine Ab.trans ?_ (by assumption) | with_reducible refine Ab.set ?_ (by first | (simp; done) | omega | (simp; omega)) _)), (by first | (simp; done) | omega | (simp; omega))⟩
            · (go_simp
               (refine hK.out _ _ ?_ (fun hHeld => ?_)
                · (try dsimp only); try trivial
                clear hK K
                (try simp only [Act.put, List.setIfInBounds_toArray, List.set_cons_zero, List.set_cons_succ])))
              (refine wpAnyH_ready (rs := [2]) (by kernel_rfl) (by simp) ?_)
              refine AllReadyH.cons rfl (fun K hK => ?_) AllReadyH.nil
              · (go_simp
                 ((go_at_call 86)
                  refine (R4 _ (by repeat (first | with_reducible exact Ab.refl _ | with_reducible assumption | with_reducible refine Ab.drew ?_ | with_reducible refine Ab.drewN ?_ _ | with_reducible refine Ab.alloc ?_ _ | with_reducible refine Ab.trans ?_ (by assumption) | with_reducible refine Ab.set ?_ (by first | (simp; done) | omega | (simp; omega)) _))).mono ?_
                  rintro e w4 ⟨rfl, m4, rfl⟩)
                 (try go_wp2_with fail)
                 (refine hK.out _ _ ?_ (fun hHeld => ?_)
                  · (try dsimp only); try trivial
                  clear hK K
                  (try simp only [Act.put, List.setIfInBounds_toArray, List.set_cons_zero, List.set_cons_succ])))
                (refine wpAnyH_ready (rs := [8]) (by kernel_rfl) (by simp) ?_)
                refine AllReadyH.cons rfl (fun K hK => ?_) AllReadyH.nil
                · (refine stepLit (by rfl) _ _ (by rfl) (by rfl) (by rfl) (m := D) hDl (by repeat (first | exact new_plain (by first | (simp; done) | omega | (simp; omega)) | exact new_drewN (by first | (simp; done) | omega | (simp; omega)) | exact new_drew (by first | (simp; done) | omega | (simp; omega)) | with_reducible refine old_alloc ?_ | with_reducible refine old_drew ?_ | with_reducible refine old_drewN ?_ _ | with_reducible refine old_ab (by assumption) ?_)) (RB.ab hD0 (by repeat (first | with_reducible exact Ab.refl _ | with_reducible assumption | with_reducible refine Ab.drew ?_ | with_reducible refine Ab.drewN ?_ _ | with_reducible refine Ab.alloc ?_ _ | with_reducible refine Ab.trans ?_ (by assumption) | with_reducible refine Ab.set ?_ (by first | (simp; done) | omega | (simp; omega)) _))) hDc (by omega) ?_
                   intro A1 c1 w1 L1 e1 a1 o1
                   have p1 := o1 (w.heap.size + 1) (by first | (simp; done) | omega | (simp; omega)) (by first | (simp; done) | omega | (simp; omega))
                   clear o1
                   have za1 := a1.size
                   (try simp at za1)
                   have hP : w1.heap[wq.heap.size]? = some (.cells #[.int .i64 0, .slice none 0 0] 72 (0, 0)) := (by repeat (first | exact new_plain (by first | (simp; done) | omega | (simp; omega)) | exact new_drewN (by first | (simp; done) | omega | (simp; omega)) | exact new_drew (by first | (simp; done) | omega | (simp; omega)) | with_reducible refine old_alloc ?_ | with_reducible refine old_drew ?_ | with_reducible refine old_drewN ?_ _ | with_reducible refine old_ab (by assumption) ?_))
                   have m0 := a1.at (p := ⟨wq.heap.size, 0, none⟩) (v := .int .i64 0) (by repeat (first | with_reducible assumption | exact cell_newc (by first | (simp; done) | omega | (simp; omega)) rfl | with_reducible apply cell_alloc | with_reducible apply cell_drew | with_reducible apply cell_drewN))
                   have m1 := a1.at (p := ⟨wq.heap.size, 1, none⟩) (v := .slice none 0 0) (by repeat (first | with_reducible assumption | exact cell_newc (by first | (simp; done) | omega | (simp; omega)) rfl | with_reducible apply cell_alloc | with_reducible apply cell_drew | with_reducible apply cell_drewN))
                   have m2 : w1.frozen? ⟨wq.heap.size, 0, none⟩ = false := a1.fr (by first | (simp; done) | omega | (simp; omega)) (by repeat (first | with_reducible assumption | exact fr_newc (by first | (simp; done) | omega | (simp; omega)) | with_reducible refine fr_drewN ?_ | with_reducible refine fr_drew ?_ | (with_reducible refine fr_alloc ?_ ?_; focus (first | (simp; done) | omega | (simp; omega)))))
                   have m3 : w1.frozen? ⟨wq.heap.size, 1, none⟩ = false := a1.fr (by first | (simp; done) | omega | (simp; omega)) (by repeat (first | with_reducible assumption | exact fr_newc (by first | (simp; done) | omega | (simp; omega)) | with_reducible refine fr_drewN ?_ | with_reducible refine fr_drew ?_ | (with_reducible refine fr_alloc ?_ ?_; focus (first | (simp; done) | omega | (simp; omega)))))
                   (refine hK.out _ _ ?_ (fun hHeld => ?_)
                    · (try dsimp only); try trivial
                    clear hK K
                    (try simp only [Act.put, List.setIfInBounds_toArray, List.set_cons_zero, List.set_cons_succ])))
                  (refine wpAnyH_take (i := 9) (v := ?_) rfl (by kernel_rfl) (by kernel_rfl) (by kernel_rfl) (fun _ _ _ h => h) (Or.inl ⟨by kernel_rfl, ?_⟩) (by assumption) ?_
                   rotate_left
                   · (intro w hSw; (try dsimp only at hSw); go_simp; (try with_reducible rfl))
                   (try simp only [Act.put, List.setIfInBounds_toArray, List.set_cons_zero, List.set_cons_succ]))
                  (refine wpAnyH_ready (rs := [11]) (by kernel_rfl) (by simp) ?_)
                  refine AllReadyH.cons rfl (fun K hK => ?_) AllReadyH.nil
                  (go_simp
                   (refine hK.out _ _ ?_ (fun hHeld => ?_)
                    · (try dsimp only); try trivial
                    clear hK K
                    (try simp only [Act.put, List.setIfInBounds_toArray, List.set_cons_zero, List.set_cons_succ])))
                  refine wpAnyH_done (by kernel_rfl) ?_ _
                  go_wp2_with fail
                  go_meet
                  exact ⟨wq.heap.size, A1, c1, L1, rfl, (by first | (simp [go_sem, *]; done) | (simp [go_sem]; done)), (by first | (simp [go_sem, *]; done) | (simp [go_sem]; done)), e1, OR.setBox2 (P := wq.heap.size) (show OR 5 (w.heap.size + 1) _ A1 c1 L1 from (by (repeat (first | with_reducible exact OR.none_ | with_reducible assumption | with_reducible refine OR.drew ?_ | with_reducible refine OR.drewN ?_ _ | with_reducible refine OR.alloc ?_ _ | (with_reducible refine OR.setNew ?_ _ ?_ _; rotate_left; focus (first | (simp; done) | omega | (simp; omega))) | with_reducible refine OR.set ?_ (by first | (simp; done) | omega | (simp; omega)) _ | (with_reducible refine OR.keep ?_ (by assumption)))))) hP _ _, (by repeat (first | with_reducible exact Ab.refl _ | with_reducible assumption | with_reducible refine Ab.drew ?_ | with_reducible refine Ab.drewN ?_ _ | with_reducible refine Ab.alloc ?_ _ | with_reducible refine Ab.trans ?_ (by assumption) | with_reducible refine Ab.set ?_ (by first | (simp; done) | omega | (simp; omega)) _)), (by first | (simp; done) | omega | (simp; omega))⟩
        obtain ⟨p, E, ce, dat, rfl, p0, p1, eD, oE, bc, hpw⟩ := hcut
        replace zq0 := bc.at zq0
        replace zq1 := bc.at zq1
        replace zr0 := bc.fr (p := ⟨w.heap.size, 0, none⟩) hzz zr0
        replace zr1 := bc.fr (p := ⟨w.heap.size, 1, none⟩) hzz zr1
        have hsz2 := bc.size
        have hbw : Ab w wc := bq.trans bc
        have ldat : dat.length ≤ 1000 := by rw [eD.out, hDl]; omega
        have hoE := oE.rb
        have hlE := oE.le
        have hPre : ∀ r, Frame.Pre r b → r = ⟨(n4 : Int), dat⟩ := fun r h => by rw [hPI.out r h, eD.out]
        have HPI := Lib.hid hPre
        clear hd12 hsum hs4 R4 hPI hDc hDl hD0 eD hPre bc bq N0 N4
        have zzc := cell_lt zq0
        simp only at zzc
        go_upto_region 7 with fail
        cases hv : vB ⟨(n4 : Int), dat⟩
        · have HV := Lib.hid hv; clear hv
          refine wp_region_held_drew (by kernel_rfl) (S := fun w' => w'.cell? ⟨p, 0, none⟩ = some (.int .i64 (n4 : Int)) ∧ w'.cell? ⟨p, 1, none⟩ = some (.slice E dat.length ce)) ?_ (fun hHeld => ?_)
          · exact ⟨(by (repeat (first | with_reducible assumption | (simp [go_sem]; done) | with_reducible apply cell_alloc | with_reducible apply cell_drew | with_reducible apply cell_drewN | (with_reducible apply Ab.at; with_reducible assumption) | (with_reducible refine cell_set ?_ ?_; rotate_left; focus (first | (simp; done) | (simp; omega))) | (with_reducible refine cell_setb ?_ ?_; rotate_left; focus (first | omega | (simp only; omega) | (simp; omega)))))), (by (repeat (first | with_reducible assumption | (simp [go_sem]; done) | with_reducible apply cell_alloc | with_reducible apply cell_drew | with_reducible apply cell_drewN | (with_reducible apply Ab.at; with_reducible assumption) | (with_reducible refine cell_set ?_ ?_; rotate_left; focus (first | (simp; done) | (simp; omega))) | (with_reducible refine cell_setb ?_ ?_; rotate_left; focus (first | omega | (simp only; omega) | (simp; omega))))))⟩
          (refine wpAnyH_take (i := 0) (v := ?_) rfl (by kernel_rfl) (by kernel_rfl) (by kernel_rfl) (fun _ _ _ h => h) (Or.inl ⟨by kernel_rfl, ?_⟩) (by assumption) ?_
           rotate_left
           · (intro w hSw; (try dsimp only at hSw); go_simp; (try with_reducible rfl))
           (try simp only [Act.put, List.setIfInBounds_toArray, List.set_cons_zero, List.set_cons_succ]))
          (refine wpAnyH_take (i := 1) (v := ?_) rfl (by kernel_rfl) (by kernel_rfl) (by kernel_rfl) (fun _ _ _ h => h) (Or.inl ⟨by kernel_rfl, ?_⟩) (by assumption) ?_
           rotate_left
           · (intro w hSw; (try dsimp only at hSw); go_simp; (try with_reducible rfl))
           (try simp only [Act.put, List.setIfInBounds_toArray, List.set_cons_zero, List.set_cons_succ]))
          (refine wpAnyH_ready (rs := [2]) (by kernel_rfl) (by simp) ?_)
          refine AllReadyH.cons rfl (fun K hK => ?_) AllReadyH.nil
          (go_simp
           ((go_at_call 87)
            refine (valid_any (n4 : Int) E dat ce _).mono ?_
            rintro e w5 ⟨rfl, b5⟩
            rw [HV.out]
            have bw5 : Ab wc w5 := (by repeat (first | with_reducible exact Ab.refl _ | with_reducible assumption | with_reducible refine Ab.drew ?_ | with_reducible refine Ab.drewN ?_ _ | with_reducible refine Ab.alloc ?_ _ | with_reducible refine Ab.trans ?_ (by assumption) | with_reducible refine Ab.set ?_ (by first | (simp; done) | omega | (simp; omega)) _))
            have y0 := bw5.at zq0
            have y1 := bw5.at zq1
            have y2 := bw5.fr (p := ⟨w.heap.size, 0, none⟩) zzc zr0
            have y3 := bw5.fr (p := ⟨w.heap.size, 1, none⟩) zzc zr1)
           (try go_wp2_with fail)
           (refine hK.out _ _ ?_ (fun hHeld => ?_)
            · (try dsimp only); exact ⟨(by (repeat (first | with_reducible assumption | (simp [go_sem]; done) | with_reducible apply cell_alloc | with_reducible apply cell_drew | with_reducible apply cell_drewN | (with_reducible apply Ab.at; with_reducible assumption) | (with_reducible refine cell_set ?_ ?_; rotate_left; focus (first | (simp; done) | (simp; omega))) | (with_reducible refine cell_setb ?_ ?_; rotate_left; focus (first | omega | (simp only; omega) | (simp; omega)))))), (by (repeat (first | with_reducible assumption | (simp [go_sem]; done) | with_reducible apply cell_alloc | with_reducible apply cell_drew | with_reducible apply cell_drewN | (with_reducible apply Ab.at; with_reducible assumption) | (with_reducible refine cell_set ?_ ?_; rotate_left; focus (first | (simp; done) | (simp; omega))) | (with_reducible refine cell_setb ?_ ?_; rotate_left; focus (first | omega | (simp only; omega) | (simp; omega))))))⟩
            clear hK K
            (try simp only [Act.put, List.setIfInBounds_toArray, List.set_cons_zero, List.set_cons_succ])))
          (refine wpAnyH_take (i := 3) (v := ?_) rfl (by kernel_rfl) (by kernel_rfl) (by kernel_rfl) (fun _ _ _ h => h) (Or.inl ⟨by kernel_rfl, ?_⟩) (by assumption) ?_
           rotate_left
           · (intro w hSw; (try dsimp only at hSw); go_simp; (try with_reducible rfl))
           (try simp only [Act.put, List.setIfInBounds_toArray, List.set_cons_zero, List.set_cons_succ]))
          (refine wpAnyH_take (i := 4) (v := undef) rfl (by kernel_rfl) (by kernel_rfl) (by kernel_rfl) (fun _ _ _ h => h) (Or.inr ⟨by kernel_rfl, rfl⟩) (by assumption) ?_
           (try simp only [Act.put, List.setIfInBounds_toArray, List.set_cons_zero, List.set_cons_succ]))
          (refine wpAnyH_take (i := 5) (v := undef) rfl (by kernel_rfl) (by kernel_rfl) (by kernel_rfl) (fun _ _ _ h => h) (Or.inr ⟨by kernel_rfl, rfl⟩) (by assumption) ?_
           (try simp only [Act.put, List.setIfInBounds_toArray, List.set_cons_zero, List.set_cons_succ]))
          (refine wpAnyH_take (i := 6) (v := undef) rfl (by kernel_rfl) (by kernel_rfl) (by kernel_rfl) (fun _ _ _ h => h) (Or.inr ⟨by kernel_rfl, rfl⟩) (by assumption) ?_
           (try simp only [Act.put, List.setIfInBounds_toArray, List.set_cons_zero, List.set_cons_succ]))
          (refine wpAnyH_take (i := 7) (v := undef) rfl (by kernel_rfl) (by kernel_rfl) (by kernel_rfl) (fun _ _ _ h => h) (Or.inr ⟨by kernel_rfl, rfl⟩) (by assumption) ?_
           (try simp only [Act.put, List.setIfInBounds_toArray, List.set_cons_zero, List.set_cons_succ]))
          (refine wpAnyH_ready (rs := [8, 9]) (by kernel_rfl) (by simp) ?_)
          refine AllReadyH.cons rfl (fun K hK => ?_) (AllReadyH.cons rfl (fun K hK => ?_) AllReadyH.nil)
          · (go_simp
             (refine hK.out _ _ ?_ (fun hHeld => ?_)
              · (try dsimp only); exact ⟨(by (repeat (first | with_reducible assumption | (simp [go_sem]; done) | with_reducible apply cell_alloc | with_reducible apply cell_drew | with_reducible apply cell_drewN | (with_reducible apply Ab.at; with_reducible assumption) | (with_reducible refine cell_set ?_ ?_; rotate_left; focus (first | (simp; done) | (simp; omega))) | (with_reducible refine cell_setb ?_ ?_; rotate_left; focus (first | omega | (simp only; omega) | (simp; omega)))))), (by (repeat (first | with_reducible assumption | (simp [go_sem]; done) | with_reducible apply cell_alloc | with_reducible apply cell_drew | with_reducible apply cell_drewN | (with_reducible apply Ab.at; with_reducible assumption) | (with_reducible refine cell_set ?_ ?_; rotate_left; focus (first | (simp; done) | (simp; omega))) | (with_reducible refine cell_setb ?_ ?_; rotate_left; focus (first | omega | (simp only; omega) | (simp; omega))))))⟩
              clear hK K
              (try simp only [Act.put, List.setIfInBounds_toArray, List.set_cons_zero, List.set_cons_succ])))
            (refine wpAnyH_ready (rs := [9]) (by kernel_rfl) (by simp) ?_)
            refine AllReadyH.cons rfl (fun K hK => ?_) AllReadyH.nil
            (go_simp
             (refine hK.out _ _ ?_ (fun hHeld => ?_)
              · (try dsimp only); exact ⟨(by (repeat (first | with_reducible assumption | (simp [go_sem]; done) | with_reducible apply cell_alloc | with_reducible apply cell_drew | with_reducible apply cell_drewN | (with_reducible apply Ab.at; with_reducible assumption) | (with_reducible refine cell_set ?_ ?_; rotate_left; focus (first | (simp; done) | (simp; omega))) | (with_reducible refine cell_setb ?_ ?_; rotate_left; focus (first | omega | (simp only; omega) | (simp; omega)))))), (by (repeat (first | with_reducible assumption | (simp [go_sem]; done) | with_reducible apply cell_alloc | with_reducible apply cell_drew | with_reducible apply cell_drewN | (with_reducible apply Ab.at; with_reducible assumption) | (with_reducible refine cell_set ?_ ?_; rotate_left; focus (first | (simp; done) | (simp; omega))) | (with_reducible refine cell_setb ?_ ?_; rotate_left; focus (first | omega | (simp only; omega) | (simp; omega))))))⟩
              clear hK K
              (try simp only [Act.put, List.setIfInBounds_toArray, List.set_cons_zero, List.set_cons_succ])))
            (refine wpAnyH_ready (rs := [10]) (by kernel_rfl) (by simp) ?_)
            refine AllReadyH.cons rfl (fun K hK => ?_) AllReadyH.nil
            (go_simp
             (refine hK.out _ _ ?_ (fun hHeld => ?_)
              · (try dsimp only); exact ⟨(by (repeat (first | with_reducible assumption | (simp [go_sem]; done) | with_reducible apply cell_alloc | with_reducible apply cell_drew | with_reducible apply cell_drewN | (with_reducible apply Ab.at; with_reducible assumption) | (with_reducible refine cell_set ?_ ?_; rotate_left; focus (first | (simp; done) | (simp; omega))) | (with_reducible refine cell_setb ?_ ?_; rotate_left; focus (first | omega | (simp only; omega) | (simp; omega)))))), (by (repeat (first | with_reducible assumption | (simp [go_sem]; done) | with_reducible apply cell_alloc | with_reducible apply cell_drew | with_reducible apply cell_drewN | (with_reducible apply Ab.at; with_reducible assumption) | (with_reducible refine cell_set ?_ ?_; rotate_left; focus (first | (simp; done) | (simp; omega))) | (with_reducible refine cell_setb ?_ ?_; rotate_left; focus (first | omega | (simp only; omega) | (simp; omega))))))⟩
              clear hK K
              (try simp only [Act.put, List.setIfInBounds_toArray, List.set_cons_zero, List.set_cons_succ])))
            refine wpAnyH_done (by kernel_rfl) ?_ _
            go_wp2
            refine bodyPost_ret (v := .tuple #[.agg #[.int .i64 (n4 : Int), .slice E dat.length ce], .bool false]) (by simp [results, Try.results80, go_sem, y0, y1, y2, y3]) rfl ?_
            refine ⟨⟨n4, E, ce, dat⟩, false, rfl, Lib.hid (fun h => by cases h), Lib.hid (fun _ r hr => ?_), ⟨OR.rb (e := 5) (c := ce) (OR.mono (lo := w.heap.size + 1) (by (repeat (first | with_reducible exact OR.none_ | with_reducible assumption | with_reducible refine OR.drew ?_ | with_reducible refine OR.drewN ?_ _ | with_reducible refine OR.alloc ?_ _ | (with_reducible refine OR.setNew ?_ _ ?_ _; rotate_left; focus (first | (simp; done) | omega | (simp; omega))) | with_reducible refine OR.set ?_ (by first | (simp; done) | omega | (simp; omega)) _ | (with_reducible refine OR.keep ?_ (by assumption))))) (by omega)), hlE, by simp only; omega⟩, (by repeat (first | with_reducible exact Ab.refl _ | with_reducible assumption | with_reducible refine Ab.drew ?_ | with_reducible refine Ab.drewN ?_ _ | with_reducible refine Ab.alloc ?_ _ | with_reducible refine Ab.trans ?_ (by assumption) | with_reducible refine Ab.set ?_ (by first | (simp; done) | omega | (simp; omega)) _)), ldat⟩
            have := HPI.out r hr
            subst this
            exact vB_false.1 HV.out hr.1
          · (go_simp
             (refine hK.out _ _ ?_ (fun hHeld => ?_)
              · (try dsimp only); exact ⟨(by (repeat (first | with_reducible assumption | (simp [go_sem]; done) | with_reducible apply cell_alloc | with_reducible apply cell_drew | with_reducible apply cell_drewN | (with_reducible apply Ab.at; with_reducible assumption) | (with_reducible refine cell_set ?_ ?_; rotate_left; focus (first | (simp; done) | (simp; omega))) | (with_reducible refine cell_setb ?_ ?_; rotate_left; focus (first | omega | (simp only; omega) | (simp; omega)))))), (by (repeat (first | with_reducible assumption | (simp [go_sem]; done) | with_reducible apply cell_alloc | with_reducible apply cell_drew | with_reducible apply cell_drewN | (with_reducible apply Ab.at; with_reducible assumption) | (with_reducible refine cell_set ?_ ?_; rotate_left; focus (first | (simp; done) | (simp; omega))) | (with_reducible refine cell_setb ?_ ?_; rotate_left; focus (first | omega | (simp only; omega) | (simp; omega))))))⟩
              clear hK K
              (try simp only [Act.put, List.setIfInBounds_toArray, List.set_cons_zero, List.set_cons_succ])))
            (refine wpAnyH_ready (rs := [8]) (by kernel_rfl) (by simp) ?_)
            refine AllReadyH.cons rfl (fun K hK => ?_) AllReadyH.nil
            (go_simp
             (refine hK.out _ _ ?_ (fun hHeld => ?_)
              · (try dsimp only); exact ⟨(by (repeat (first | with_reducible assumption | (simp [go_sem]; done) | with_reducible apply cell_alloc | with_reducible apply cell_drew | with_reducible apply cell_drewN | (with_reducible apply Ab.at; with_reducible assumption) | (with_reducible refine cell_set ?_ ?_; rotate_left; focus (first | (simp; done) | (simp; omega))) | (with_reducible refine cell_setb ?_ ?_; rotate_left; focus (first | omega | (simp only; omega) | (simp; omega)))))), (by (repeat (first | with_reducible assumption | (simp [go_sem]; done) | with_reducible apply cell_alloc | with_reducible apply cell_drew | with_reducible apply cell_drewN | (with_reducible apply Ab.at; with_reducible assumption) | (with_reducible refine cell_set ?_ ?_; rotate_left; focus (first | (simp; done) | (simp; omega))) | (with_reducible refine cell_setb ?_ ?_; rotate_left; focus (first | omega | (simp only; omega) | (simp; omega))))))⟩
              clear hK K
              (try simp only [Act.put, List.setIfInBounds_toArray, List.set_cons_zero, List.set_cons_succ])))
            (refine wpAnyH_ready (rs := [10]) (by kernel_rfl) (by simp) ?_)
            refine AllReadyH.cons rfl (fun K hK => ?_) AllReadyH.nil
            (go_simp
             (refine hK.out _ _ ?_ (fun hHeld => ?_)
              · (try dsimp only); exact ⟨(by (repeat (first | with_reducible assumption | (simp [go_sem]; done) | with_reducible apply cell_alloc | with_reducible apply cell_drew | with_reducible apply cell_drewN | (with_reducible apply Ab.at; with_reducible assumption) | (with_reducible refine cell_set ?_ ?_; rotate_left; focus (first | (simp; done) | (simp; omega))) | (with_reducible refine cell_setb ?_ ?_; rotate_left; focus (first | omega | (simp only; omega) | (simp; omega)))))), (by (repeat (first | with_reducible assumption | (simp [go_sem]; done) | with_reducible apply cell_alloc | with_reducible apply cell_drew | with_reducible apply cell_drewN | (with_reducible apply Ab.at; with_reducible assumption) | (with_reducible refine cell_set ?_ ?_; rotate_left; focus (first | (simp; done) | (simp; omega))) | (with_reducible refine cell_setb ?_ ?_; rotate_left; focus (first | omega | (simp only; omega) | (simp; omega))))))⟩
              clear hK K
              (try simp only [Act.put, List.setIfInBounds_toArray, List.set_cons_zero, List.set_cons_succ])))
            refine wpAnyH_done (by kernel_rfl) ?_ _
            go_wp2
            refine bodyPost_ret (v := .tuple #[.agg #[.int .i64 (n4 : Int), .slice E dat.length ce], .bool false]) (by simp [results, Try.results80, go_sem, y0, y1, y2, y3]) rfl ?_
            refine ⟨⟨n4, E, ce, dat⟩, false, rfl, Lib.hid (fun h => by cases h), Lib.hid (fun _ r hr => ?_), ⟨OR.rb (e := 5) (c := ce) (OR.mono (lo := w.heap.size + 1) (by (repeat (first | with_reducible exact OR.none_ | with_reducible assumption | with_reducible refine OR.drew ?_ | with_reducible refine OR.drewN ?_ _ | with_reducible refine OR.alloc ?_ _ | (with_reducible refine OR.setNew ?_ _ ?_ _; rotate_left; focus (first | (simp; done) | omega | (simp; omega))) | with_reducible refine OR.set ?_ (by first | (simp; done) | omega | (simp; omega)) _ | (with_reducible refine OR.keep ?_ (by assumption))))) (by omega)), hlE, by simp only; omega⟩, (by repeat (first | with_reducible exact Ab.refl _ | with_reducible assumption | with_reducible refine Ab.drew ?_ | with_reducible refine Ab.drewN ?_ _ | with_reducible refine Ab.alloc ?_ _ | with_reducible refine Ab.trans ?_ (by assumption) | with_reducible refine Ab.set ?_ (by first | (simp; done) | omega | (simp; omega)) _)), ldat⟩
            have := HPI.out r hr
            subst this
            exact vB_false.1 HV.out hr.1
        · have HV := Lib.hid hv; clear hv
          refine wp_region_held_drew (by kernel_rfl) (S := fun w' => w'.cell? ⟨p, 0, none⟩ = some (.int .i64 (n4 : Int)) ∧ w'.cell? ⟨p, 1, none⟩ = some (.slice E dat.length ce)) ?_ (fun hHeld => ?_)
          · exact ⟨(by (repeat (first | with_reducible assumption | (simp [go_sem]; done) | with_reducible apply cell_alloc | with_reducible apply cell_drew | with_reducible apply cell_drewN | (with_reducible apply Ab.at; with_reducible assumption) | (with_reducible refine cell_set ?_ ?_; rotate_left; focus (first | (simp; done) | (simp; omega))) | (with_reducible refine cell_setb ?_ ?_; rotate_left; focus (first | omega | (simp only; omega) | (simp; omega)))))), (by (repeat (first | with_reducible assumption | (simp [go_sem]; done) | with_reducible apply cell_alloc | with_reducible apply cell_drew | with_reducible apply cell_drewN | (with_reducible apply Ab.at; with_reducible assumption) | (with_reducible refine cell_set ?_ ?_; rotate_left; focus (first | (simp; done) | (simp; omega))) | (with_reducible refine cell_setb ?_ ?_; rotate_left; focus (first | omega | (simp only; omega) | (simp; omega))))))⟩
          (refine wpAnyH_take (i := 0) (v := ?_) rfl (by kernel_rfl) (by kernel_rfl) (by kernel_rfl) (fun _ _ _ h => h) (Or.inl ⟨by kernel_rfl, ?_⟩) (by assumption) ?_
           rotate_left
           · (intro w hSw; (try dsimp only at hSw); go_simp; (try with_reducible rfl))
           (try simp only [Act.put, List.setIfInBounds_toArray, List.set_cons_zero, List.set_cons_succ]))
          (refine wpAnyH_take (i := 1) (v := ?_) rfl (by kernel_rfl) (by kernel_rfl) (by kernel_rfl) (fun _ _ _ h => h) (Or.inl ⟨by kernel_rfl, ?_⟩) (by assumption) ?_
           rotate_left
           · (intro w hSw; (try dsimp only at hSw); go_simp; (try with_reducible rfl))
           (try simp only [Act.put, List.setIfInBounds_toArray, List.set_cons_zero, List.set_cons_succ]))
          (refine wpAnyH_ready (rs := [2]) (by kernel_rfl) (by simp) ?_)
          refine AllReadyH.cons rfl (fun K hK => ?_) AllReadyH.nil
          (go_simp
           ((go_at_call 87)
            refine (valid_any (n4 : Int) E dat ce _).mono ?_
            rintro e w5 ⟨rfl, b5⟩
            rw [HV.out]
            have bw5 : Ab wc w5 := (by repeat (first | with_reducible exact Ab.refl _ | with_reducible assumption | with_reducible refine Ab.drew ?_ | with_reducible refine Ab.drewN ?_ _ | with_reducible refine Ab.alloc ?_ _ | with_reducible refine Ab.trans ?_ (by assumption) | with_reducible refine Ab.set ?_ (by first | (simp; done) | omega | (simp; omega)) _))
            have y0 := bw5.at zq0
            have y1 := bw5.at zq1
            have y2 := bw5.fr (p := ⟨w.heap.size, 0, none⟩) zzc zr0
            have y3 := bw5.fr (p := ⟨w.heap.size, 1, none⟩) zzc zr1)
           (try go_wp2_with fail)
           (refine hK.out _ _ ?_ (fun hHeld => ?_)
            · (try dsimp only); exact ⟨(by (repeat (first | with_reducible assumption | (simp [go_sem]; done) | with_reducible apply cell_alloc | with_reducible apply cell_drew | with_reducible apply cell_drewN | (with_reducible apply Ab.at; with_reducible assumption) | (with_reducible refine cell_set ?_ ?_; rotate_left; focus (first | (simp; done) | (simp; omega))) | (with_reducible refine cell_setb ?_ ?_; rotate_left; focus (first | omega | (simp only; omega) | (simp; omega)))))), (by (repeat (first | with_reducible assumption | (simp [go_sem]; done) | with_reducible apply cell_alloc | with_reducible apply cell_drew | with_reducible apply cell_drewN | (with_reducible apply Ab.at; with_reducible assumption) | (with_reducible refine cell_set ?_ ?_; rotate_left; focus (first | (simp; done) | (simp; omega))) | (with_reducible refine cell_setb ?_ ?_; rotate_left; focus (first | omega | (simp only; omega) | (simp; omega))))))⟩
            clear hK K
            (try simp only [Act.put, List.setIfInBounds_toArray, List.set_cons_zero, List.set_cons_succ])))
          (refine wpAnyH_take (i := 3) (v := ?_) rfl (by kernel_rfl) (by kernel_rfl) (by kernel_rfl) (fun _ _ _ h => h) (Or.inl ⟨by kernel_rfl, ?_⟩) (by assumption) ?_
           rotate_left
           · (intro w hSw; (try dsimp only at hSw); go_simp; (try with_reducible rfl))
           (try simp only [Act.put, List.setIfInBounds_toArray, List.set_cons_zero, List.set_cons_succ]))
          (refine wpAnyH_take (i := 4) (v := ?_) rfl (by kernel_rfl) (by kernel_rfl) (by kernel_rfl) (fun _ _ _ h => h) (Or.inl ⟨by kernel_rfl, ?_⟩) (by assumption) ?_
           rotate_left
           · (intro w hSw; (try dsimp only at hSw); go_simp; (try with_reducible rfl))
           (try simp only [Act.put, List.setIfInBounds_toArray, List.set_cons_zero, List.set_cons_succ]))
          (refine wpAnyH_take (i := 5) (v := ?_) rfl (by kernel_rfl) (by kernel_rfl) (by kernel_rfl) (fun _ _ _ h => h) (Or.inl ⟨by kernel_rfl, ?_⟩) (by assumption) ?_
           rotate_left
           · (intro w hSw; (try dsimp only at hSw); go_simp; (try with_reducible rfl))
           (try simp only [Act.put, List.setIfInBounds_toArray, List.set_cons_zero, List.set_cons_succ]))
          (refine wpAnyH_ready (rs := [6]) (by kernel_rfl) (by simp) ?_)
          refine AllReadyH.cons rfl (fun K hK => ?_) AllReadyH.nil
          (go_simp
           ((go_at_call 57)
            refine (bytes_any (n4 : Int) E dat ce _ (vB_true.1 HV.out) (RB.zero (hoE.ab (by repeat (first | with_reducible exact Ab.refl _ | with_reducible assumption | with_reducible refine Ab.drew ?_ | with_reducible refine Ab.drewN ?_ _ | with_reducible refine Ab.alloc ?_ _ | with_reducible refine Ab.trans ?_ (by assumption) | with_reducible refine Ab.set ?_ (by first | (simp; done) | omega | (simp; omega)) _)))) hlE).mono ?_
            rintro e w6 ⟨A6, c6, L6, e6, rfl, o6, b6⟩
            have l6 : L6.length ≤ 2000 := by rw [e6.out, Frame.enc_length]; simp only; omega)
           (try go_wp2_with fail)
           (refine hK.out _ _ ?_ (fun hHeld => ?_)
            · (try dsimp only); exact ⟨(by (repeat (first | with_reducible assumption | (simp [go_sem]; done) | with_reducible apply cell_alloc | with_reducible apply cell_drew | with_reducible apply cell_drewN | (with_reducible apply Ab.at; with_reducible assumption) | (with_reducible refine cell_set ?_ ?_; rotate_left; focus (first | (simp; done) | (simp; omega))) | (with_reducible refine cell_setb ?_ ?_; rotate_left; focus (first | omega | (simp only; omega) | (simp; omega)))))), (by (repeat (first | with_reducible assumption | (simp [go_sem]; done) | with_reducible apply cell_alloc | with_reducible apply cell_drew | with_reducible apply cell_drewN | (with_reducible apply Ab.at; with_reducible assumption) | (with_reducible refine cell_set ?_ ?_; rotate_left; focus (first | (simp; done) | (simp; omega))) | (with_reducible refine cell_setb ?_ ?_; rotate_left; focus (first | omega | (simp only; omega) | (simp; omega))))))⟩
            clear hK K
            (try simp only [Act.put, List.setIfInBounds_toArray, List.set_cons_zero, List.set_cons_succ])))
          (refine wpAnyH_ready (rs := [7]) (by kernel_rfl) (by simp) ?_)
          refine AllReadyH.cons rfl (fun K hK => ?_) AllReadyH.nil
          (go_simp
           ((go_at_call 88)
            refine (starts_any A A6 c c6 b L6 _ (hb.ab (by repeat (first | with_reducible exact Ab.refl _ | with_reducible assumption | with_reducible refine Ab.drew ?_ | with_reducible refine Ab.drewN ?_ _ | with_reducible refine Ab.alloc ?_ _ | with_reducible refine Ab.trans ?_ (by assumption) | with_reducible refine Ab.set ?_ (by first | (simp; done) | omega | (simp; omega)) _))) (o6.rb.zero.ab (by repeat (first | with_reducible exact Ab.refl _ | with_reducible assumption | with_reducible refine Ab.drew ?_ | with_reducible refine Ab.drewN ?_ _ | with_reducible refine Ab.alloc ?_ _ | with_reducible refine Ab.trans ?_ (by assumption) | with_reducible refine Ab.set ?_ (by first | (simp; done) | omega | (simp; omega)) _))) hc (by omega) (by omega)).mono ?_
            rintro e w7 ⟨v, hv7, rfl, b7⟩
            have bw7 : Ab wc w7 := (by repeat (first | with_reducible exact Ab.refl _ | with_reducible assumption | with_reducible refine Ab.drew ?_ | with_reducible refine Ab.drewN ?_ _ | with_reducible refine Ab.alloc ?_ _ | with_reducible refine Ab.trans ?_ (by assumption) | with_reducible refine Ab.set ?_ (by first | (simp; done) | omega | (simp; omega)) _))
            replace y0 := bw7.at zq0
            replace y1 := bw7.at zq1
            replace y2 := bw7.fr (p := ⟨w.heap.size, 0, none⟩) zzc zr0
            replace y3 := bw7.fr (p := ⟨w.heap.size, 1, none⟩) zzc zr1)
           (try go_wp2_with fail)
           (refine hK.out _ _ ?_ (fun hHeld => ?_)
            · (try dsimp only); exact ⟨(by (repeat (first | with_reducible assumption | (simp [go_sem]; done) | with_reducible apply cell_alloc | with_reducible apply cell_drew | with_reducible apply cell_drewN | (with_reducible apply Ab.at; with_reducible assumption) | (with_reducible refine cell_set ?_ ?_; rotate_left; focus (first | (simp; done) | (simp; omega))) | (with_reducible refine cell_setb ?_ ?_; rotate_left; focus (first | omega | (simp only; omega) | (simp; omega)))))), (by (repeat (first | with_reducible assumption | (simp [go_sem]; done) | with_reducible apply cell_alloc | with_reducible apply cell_drew | with_reducible apply cell_drewN | (with_reducible apply Ab.at; with_reducible assumption) | (with_reducible refine cell_set ?_ ?_; rotate_left; focus (first | (simp; done) | (simp; omega))) | (with_reducible refine cell_setb ?_ ?_; rotate_left; focus (first | omega | (simp only; omega) | (simp; omega))))))⟩
            clear hK K
            (try simp only [Act.put, List.setIfInBounds_toArray, List.set_cons_zero, List.set_cons_succ])))
          (refine wpAnyH_ready (rs := [8, 9]) (by kernel_rfl) (by simp) ?_)
          refine AllReadyH.cons rfl (fun K hK => ?_) (AllReadyH.cons rfl (fun K hK => ?_) AllReadyH.nil)
          · (go_simp
             (refine hK.out _ _ ?_ (fun hHeld => ?_)
              · (try dsimp only); exact ⟨(by (repeat (first | with_reducible assumption | (simp [go_sem]; done) | with_reducible apply cell_alloc | with_reducible apply cell_drew | with_reducible apply cell_drewN | (with_reducible apply Ab.at; with_reducible assumption) | (with_reducible refine cell_set ?_ ?_; rotate_left; focus (first | (simp; done) | (simp; omega))) | (with_reducible refine cell_setb ?_ ?_; rotate_left; focus (first | omega | (simp only; omega) | (simp; omega)))))), (by (repeat (first | with_reducible assumption | (simp [go_sem]; done) | with_reducible apply cell_alloc | with_reducible apply cell_drew | with_reducible apply cell_drewN | (with_reducible apply Ab.at; with_reducible assumption) | (with_reducible refine cell_set ?_ ?_; rotate_left; focus (first | (simp; done) | (simp; omega))) | (with_reducible refine cell_setb ?_ ?_; rotate_left; focus (first | omega | (simp only; omega) | (simp; omega))))))⟩
              clear hK K
              (try simp only [Act.put, List.setIfInBounds_toArray, List.set_cons_zero, List.set_cons_succ])))
            (refine wpAnyH_ready (rs := [9]) (by kernel_rfl) (by simp) ?_)
            refine AllReadyH.cons rfl (fun K hK => ?_) AllReadyH.nil
            (go_simp
             (refine hK.out _ _ ?_ (fun hHeld => ?_)
              · (try dsimp only); exact ⟨(by (repeat (first | with_reducible assumption | (simp [go_sem]; done) | with_reducible apply cell_alloc | with_reducible apply cell_drew | with_reducible apply cell_drewN | (with_reducible apply Ab.at; with_reducible assumption) | (with_reducible refine cell_set ?_ ?_; rotate_left; focus (first | (simp; done) | (simp; omega))) | (with_reducible refine cell_setb ?_ ?_; rotate_left; focus (first | omega | (simp only; omega) | (simp; omega)))))), (by (repeat (first | with_reducible assumption | (simp [go_sem]; done) | with_reducible apply cell_alloc | with_reducible apply cell_drew | with_reducible apply cell_drewN | (with_reducible apply Ab.at; with_reducible assumption) | (with_reducible refine cell_set ?_ ?_; rotate_left; focus (first | (simp; done) | (simp; omega))) | (with_reducible refine cell_setb ?_ ?_; rotate_left; focus (first | omega | (simp only; omega) | (simp; omega))))))⟩
              clear hK K
              (try simp only [Act.put, List.setIfInBounds_toArray, List.set_cons_zero, List.set_cons_succ])))
            (refine wpAnyH_ready (rs := [10]) (by kernel_rfl) (by simp) ?_)
            refine AllReadyH.cons rfl (fun K hK => ?_) AllReadyH.nil
            (go_simp
             (refine hK.out _ _ ?_ (fun hHeld => ?_)
              · (try dsimp only); exact ⟨(by (repeat (first | with_reducible assumption | (simp [go_sem]; done) | with_reducible apply cell_alloc | with_reducible apply cell_drew | with_reducible apply cell_drewN | (with_reducible apply Ab.at; with_reducible assumption) | (with_reducible refine cell_set ?_ ?_; rotate_left; focus (first | (simp; done) | (simp; omega))) | (with_reducible refine cell_setb ?_ ?_; rotate_left; focus (first | omega | (simp only; omega) | (simp; omega)))))), (by (repeat (first | with_reducible assumption | (simp [go_sem]; done) | with_reducible apply cell_alloc | with_reducible apply cell_drew | with_reducible apply cell_drewN | (with_reducible apply Ab.at; with_reducible assumption) | (with_reducible refine cell_set ?_ ?_; rotate_left; focus (first | (simp; done) | (simp; omega))) | (with_reducible refine cell_setb ?_ ?_; rotate_left; focus (first | omega | (simp only; omega) | (simp; omega))))))⟩
              clear hK K
              (try simp only [Act.put, List.setIfInBounds_toArray, List.set_cons_zero, List.set_cons_succ])))
            refine wpAnyH_done (by kernel_rfl) ?_ _
            go_wp2
            refine bodyPost_ret (v := .tuple #[.agg #[.int .i64 (n4 : Int), .slice E dat.length ce], .bool v]) (by simp [results, Try.results80, go_sem, y0, y1, y2, y3]) rfl ?_
            refine ⟨⟨n4, E, ce, dat⟩, v, rfl, Lib.hid (fun h => ?_), Lib.hid (fun h r hr => ?_), ⟨OR.rb (e := 5) (c := ce) (OR.mono (lo := w.heap.size + 1) (OR.set (OR.set (oE.keep bw7) (by first | (simp; done) | omega | (simp; omega)) _) (by first | (simp; done) | omega | (simp; omega)) _) (by omega)), hlE, by simp only; omega⟩, (by repeat (first | with_reducible exact Ab.refl _ | with_reducible assumption | with_reducible refine Ab.drew ?_ | with_reducible refine Ab.drewN ?_ _ | with_reducible refine Ab.alloc ?_ _ | with_reducible refine Ab.trans ?_ (by assumption) | with_reducible refine Ab.set ?_ (by first | (simp; done) | omega | (simp; omega)) _)), ldat⟩
            · have h9 := hv7.out.1 h
              rw [e6.out] at h9
              exact ⟨vB_true.1 HV.out, h9⟩
            · have h8 := HPI.out r hr
              subst h8
              have h9 := hr.2
              have h10 := hv7.out.2 (by rw [e6.out]; exact h9)
              rw [h] at h10
              cases h10
          · (go_simp
             (refine hK.out _ _ ?_ (fun hHeld => ?_)
              · (try dsimp only); exact ⟨(by (repeat (first | with_reducible assumption | (simp [go_sem]; done) | with_reducible apply cell_alloc | with_reducible apply cell_drew | with_reducible apply cell_drewN | (with_reducible apply Ab.at; with_reducible assumption) | (with_reducible refine cell_set ?_ ?_; rotate_left; focus (first | (simp; done) | (simp; omega))) | (with_reducible refine cell_setb ?_ ?_; rotate_left; focus (first | omega | (simp only; omega) | (simp; omega)))))), (by (repeat (first | with_reducible assumption | (simp [go_sem]; done) | with_reducible apply cell_alloc | with_reducible apply cell_drew | with_reducible apply cell_drewN | (with_reducible apply Ab.at; with_reducible assumption) | (with_reducible refine cell_set ?_ ?_; rotate_left; focus (first | (simp; done) | (simp; omega))) | (with_reducible refine cell_setb ?_ ?_; rotate_left; focus (first | omega | (simp only; omega) | (simp; omega))))))⟩
              clear hK K
              (try simp only [Act.put, List.setIfInBounds_toArray, List.set_cons_zero, List.set_cons_succ])))
            (refine wpAnyH_ready (rs := [8]) (by kernel_rfl) (by simp) ?_)
            refine AllReadyH.cons rfl (fun K hK => ?_) AllReadyH.nil
            (go_simp
             (refine hK.out _ _ ?_ (fun hHeld => ?_)
              · (try dsimp only); exact ⟨(by (repeat (first | with_reducible assumption | (simp [go_sem]; done) | with_reducible apply cell_alloc | with_reducible apply cell_drew | with_reducible apply cell_drewN | (with_reducible apply Ab.at; with_reducible assumption) | (with_reducible refine cell_set ?_ ?_; rotate_left; focus (first | (simp; done) | (simp; omega))) | (with_reducible refine cell_setb ?_ ?_; rotate_left; focus (first | omega | (simp only; omega) | (simp; omega)))))), (by (repeat (first | with_reducible assumption | (simp [go_sem]; done) | with_reducible apply cell_alloc | with_reducible apply cell_drew | with_reducible apply cell_drewN | (with_reducible apply Ab.at; with_reducible assumption) | (with_reducible refine cell_set ?_ ?_; rotate_left; focus (first | (simp; done) | (simp; omega))) | (with_reducible refine cell_setb ?_ ?_; rotate_left; focus (first | omega | (simp only; omega) | (simp; omega))))))⟩
              clear hK K
              (try simp only [Act.put, List.setIfInBounds_toArray, List.set_cons_zero, List.set_cons_succ])))
            (refine wpAnyH_ready (rs := [10]) (by kernel_rfl) (by simp) ?_)
            refine AllReadyH.cons rfl (fun K hK => ?_) AllReadyH.nil
            (go_simp
             (refine hK.out _ _ ?_ (fun hHeld => ?_)
              · (try dsimp only); exact ⟨(by (repeat (first | with_reducible assumption | (simp [go_sem]; done) | with_reducible apply cell_alloc | with_reducible apply cell_drew | with_reducible apply cell_drewN | (with_reducible apply Ab.at; with_reducible assumption) | (with_reducible refine cell_set ?_ ?_; rotate_left; focus (first | (simp; done) | (simp; omega))) | (with_reducible refine cell_setb ?_ ?_; rotate_left; focus (first | omega | (simp only; omega) | (simp; omega)))))), (by (repeat (first | with_reducible assumption | (simp [go_sem]; done) | with_reducible apply cell_alloc | with_reducible apply cell_drew | with_reducible apply cell_drewN | (with_reducible apply Ab.at; with_reducible assumption) | (with_reducible refine cell_set ?_ ?_; rotate_left; focus (first | (simp; done) | (simp; omega))) | (with_reducible refine cell_setb ?_ ?_; rotate_left; focus (first | omega | (simp only; omega) | (simp; omega))))))⟩
              clear hK K
              (try simp only [Act.put, List.setIfInBounds_toArray, List.set_cons_zero, List.set_cons_succ])))
            refine wpAnyH_done (by kernel_rfl) ?_ _
            go_wp2
            refine bodyPost_ret (v := .tuple #[.agg #[.int .i64 (n4 : Int), .slice E dat.length ce], .bool v]) (by simp [results, Try.results80, go_sem, y0, y1, y2, y3]) rfl ?_
            refine ⟨⟨n4, E, ce, dat⟩, v, rfl, Lib.hid (fun h => ?_), Lib.hid (fun h r hr => ?_), ⟨OR.rb (e := 5) (c := ce) (OR.mono (lo := w.heap.size + 1) (OR.set (OR.set (oE.keep bw7) (by first | (simp; done) | omega | (simp; omega)) _) (by first | (simp; done) | omega | (simp; omega)) _) (by omega)), hlE, by simp only; omega⟩, (by repeat (first | with_reducible exact Ab.refl _ | with_reducible assumption | with_reducible refine Ab.drew ?_ | with_reducible refine Ab.drewN ?_ _ | with_reducible refine Ab.alloc ?_ _ | with_reducible refine Ab.trans ?_ (by assumption) | with_reducible refine Ab.set ?_ (by first | (simp; done) | omega | (simp; omega)) _)), ldat⟩
            · have h9 := hv7.out.1 h
              rw [e6.out] at h9
              exact ⟨vB_true.1 HV.out, h9⟩
            · have h8 := HPI.out r hr
              subst h8
              have h9 := hr.2
              have h10 := hv7.out.2 (by rw [e6.out]; exact h9)
              rw [h] at h10
              cases h10
end Go.Proofs.Ytehagdpcegpbjaa
