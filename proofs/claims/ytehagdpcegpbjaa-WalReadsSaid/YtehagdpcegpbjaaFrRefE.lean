/- Found and Scan of the reference, walked. Own work. -/
import Derived.Test.YtehagdpcegpbjaaFrRefD
import Derived.Test.YtehagdpcegpbjaaFrScan
set_option linter.unusedVariables false
set_option linter.unusedSimpArgs false
namespace Go.Proofs.Ytehagdpcegpbjaa
open Go.RowKit

set_option maxHeartbeats 1600000 in
theorem found_any (A : Option Addr) (b : List UInt8) (c : Nat) (w : World) (hb : RB w 0 A b) (hc : b.length ≤ c) (hle : b.length ≤ 20000) :
    Calls Try.prog 72 #[.slice A b.length c] w fun e w' => ∃ B d xs u, Hid (Frame.IsScan b (recs xs) u) ∧ e = .returned (.tuple #[.slice B xs.length d, .int .i64 (u : Int)]) ∧
      OwnRecs w.heap.size w' B d xs ∧ Ab w w' := by
  go_enter Try.func72, Try.ntmps72
  go_wp2
  go_loopw [4, 5] (fun f t wr => ∃ (B : Option Addr) (d : Nat) (xs : List RecM) (u : Nat), f = .slice B xs.length d ∧ t = .int .i64 u ∧ Hid (Along b (recs xs) u) ∧ OwnRecs w.heap.size wr B d xs ∧ Ab w wr ∧ 12 * xs.length ≤ u) (fun _ t _ => b.length - (intOf t).toNat)
  case atStart => exact ⟨none, 0, [], 0, rfl, rfl, Lib.hid (Along.nil b), OwnRecs.nil, Ab.refl _, Nat.le_refl _⟩
  case round =>
    obtain ⟨B, d, xs, u, rfl, rfl, hA, ho, hb', h12⟩ := hrel
    have hu := hA.out.le
    have hs := fun w => run_cut u .i64 A b.length c w hu
    have G0 : ∀ w', Ab w w' → Calls Try.prog 80 #[.slice (cutA A c u) (b.length - u) (c - u)] w' (GotRec w' (b.drop u)) := fun w' h => by
      have := one_any (cutA A c u) (b.drop u) (c - u) w' ((hb.ab h).cut u c hc) (by simp; omega) (by simp; omega)
      rw [List.length_drop] at this
      exact this
    go_wp2_with fail
    refine (G0 _ (by repeat (first | with_reducible exact Ab.refl _ | with_reducible assumption | with_reducible refine Ab.drew ?_ | with_reducible refine Ab.drewN ?_ _ | with_reducible refine Ab.alloc ?_ _ | with_reducible refine Ab.trans ?_ (by assumption) | with_reducible refine Ab.set ?_ (by first | (simp; done) | omega | (simp; omega)) _))).mono ?_
    rintro e w1 ⟨x, ok, rfl, hP, hN, hL, hb1, hx1⟩
    have HW := ho.ab hb1
    cases ok with
    | false =>
      go_wp2_with fail
      go_quiet (fail)
      go_wp2
      go_ret2
      exact ⟨B, d, xs, u, Lib.hid (hA.out.stop (fun r hr => absurd hr (hN.out (by trivial) r))), rfl, HW.ab (by repeat (first | with_reducible exact Ab.refl _ | with_reducible assumption | with_reducible refine Ab.drew ?_ | with_reducible refine Ab.drewN ?_ _ | with_reducible refine Ab.alloc ?_ _ | with_reducible refine Ab.trans ?_ (by assumption) | with_reducible refine Ab.set ?_ (by first | (simp; done) | omega | (simp; omega)) _)), (by repeat (first | with_reducible exact Ab.refl _ | with_reducible assumption | with_reducible refine Ab.drew ?_ | with_reducible refine Ab.drewN ?_ _ | with_reducible refine Ab.alloc ?_ _ | with_reducible refine Ab.trans ?_ (by assumption) | with_reducible refine Ab.set ?_ (by first | (simp; done) | omega | (simp; omega)) _))⟩
    | true =>
      have HP := Lib.hid (hP.out (by trivial))
      clear hP hN hs G0
      have hroom : u + (12 + x.b.length) ≤ b.length := by
        have h1 : 12 + x.b.length ≤ (b.drop u).length := (Frame.pre_facts HP.out).1
        rw [List.length_drop] at h1; omega
      have hrg := ho.1.rng
      have hxA : ∀ p q, B = some p → x.A = some q → 0 < x.b.length → q.block ≠ p.block := fun p q hp hq hl => by
        obtain ⟨ad, h1, h2, _⟩ := hL.1 hl
        rw [hq] at h1
        obtain rfl := Option.some.inj h1
        have := (hrg p hp).2
        omega
      have hsz := hb'.size
      have hsz1 := hb1.size
      have hL0 : Laid w1 w.heap.size x := hL.mono hsz
      have hrow : ∀ g, B.map (·.block) = some g → w.heap.size ≤ g := fun g hg => by
        obtain ⟨a, ha, rfl⟩ := map_blk hg
        exact (hrg a ha).1
      have hfar : ∀ a, B = some a → a.block ≠ w1.heap.size := fun a ha => by have := (hrg a ha).2; omega
      go_wp2_with fail
      have hb2 : Ab w1 (w1.alloc (.cells #[.int .i64 x.num, .slice x.A x.b.length x.c] 72)) := (by repeat (first | with_reducible exact Ab.refl _ | with_reducible assumption | with_reducible refine Ab.drew ?_ | with_reducible refine Ab.drewN ?_ _ | with_reducible refine Ab.alloc ?_ _ | with_reducible refine Ab.trans ?_ (by assumption) | with_reducible refine Ab.set ?_ (by first | (simp; done) | omega | (simp; omega)) _))
      have xq0 : (w1.alloc (.cells #[.int .i64 x.num, .slice x.A x.b.length x.c] 72)).cell? ⟨w1.heap.size, 0, none⟩ = some (.int .i64 x.num) := by simp [go_sem]
      have xq1 : (w1.alloc (.cells #[.int .i64 x.num, .slice x.A x.b.length x.c] 72)).cell? ⟨w1.heap.size, 1, none⟩ = some (.slice x.A x.b.length x.c) := by simp [go_sem]
      generalize (w1.alloc (.cells #[.int .i64 x.num, .slice x.A x.b.length x.c] 72)) = w2 at *
      by_cases hx0 : xs = []
      · have hnext := Lib.hid (show Frame.Next (recs xs) x.r by subst hx0; exact next_nil _)
        have hl0 : xs.length = 0 := by subst hx0; rfl
        go_quiet (fail)
        have hb3 : Ab w2 (w2.drewN nq) := (by repeat (first | with_reducible exact Ab.refl _ | with_reducible assumption | with_reducible refine Ab.drew ?_ | with_reducible refine Ab.drewN ?_ _ | with_reducible refine Ab.alloc ?_ _ | with_reducible refine Ab.trans ?_ (by assumption) | with_reducible refine Ab.set ?_ (by first | (simp; done) | omega | (simp; omega)) _))
        generalize (w2.drewN nq) = w3 at *
        replace xq0 := hb3.at xq0
        replace xq1 := hb3.at xq1
        have hHW := HW.ab (hb2.trans hb3)
        have hLW := hL0.ab (hb2.trans hb3)
        have hbW : Ab w w3 := (by repeat (first | with_reducible exact Ab.refl _ | with_reducible assumption | with_reducible refine Ab.drew ?_ | with_reducible refine Ab.drewN ?_ _ | with_reducible refine Ab.alloc ?_ _ | with_reducible refine Ab.trans ?_ (by assumption) | with_reducible refine Ab.set ?_ (by first | (simp; done) | omega | (simp; omega)) _))
        have hsz3 := (hb2.trans hb3).size
        go_wp2_with ((at_builtin
                      refine listAppR (x := x) (fr := (0, 0)) rfl _ _ rfl rfl rfl (hHW.ab (by repeat (first | with_reducible exact Ab.refl _ | with_reducible assumption | with_reducible refine Ab.drew ?_ | with_reducible refine Ab.drewN ?_ _ | with_reducible refine Ab.alloc ?_ _ | with_reducible refine Ab.trans ?_ (by assumption) | with_reducible refine Ab.set ?_ (by first | (simp; done) | omega | (simp; omega)) _))) (by first | (simp; done) | omega | (simp; omega)) (by (repeat (first | exact new_plain (by first | (simp; done) | omega | (simp; omega)) | with_reducible refine old_alloc ?_ | with_reducible refine old_drew ?_ | with_reducible refine old_set ?_ (by first | (simp; done) | omega | (simp; omega)) | with_reducible refine old_ab (by assumption) ?_))) (hLW.ab (by repeat (first | with_reducible exact Ab.refl _ | with_reducible assumption | with_reducible refine Ab.drew ?_ | with_reducible refine Ab.drewN ?_ _ | with_reducible refine Ab.alloc ?_ _ | with_reducible refine Ab.trans ?_ (by assumption) | with_reducible refine Ab.set ?_ (by first | (simp; done) | omega | (simp; omega)) _))) hxA (by omega) ?_
                      intro g' c' w4 ys hys hown hgr hgk
                      have xr1 := grown_cell (b := w1.heap.size) (o := 1) (v := .slice x.A x.b.length x.c) hgr (by (repeat (first | with_reducible assumption | (simp [go_sem]; done) | with_reducible apply cell_alloc | with_reducible apply cell_drew | with_reducible apply cell_drewN | (with_reducible apply Ab.at; with_reducible assumption) | (with_reducible refine cell_set ?_ ?_; rotate_left; focus (first | (simp; done) | (simp; omega))) | (with_reducible refine cell_setb ?_ ?_; rotate_left; focus (first | omega | (simp only; omega) | (simp; omega)))))) hfar
                      have hbZ : Ab w w4 := grown_ab (hbW.alloc _) hgr hrow))
        go_roundw
        case rel => exact ⟨some ⟨g', 0, none⟩, c', ys, u + (12 + x.b.length), rfl, by go_num, Lib.hid (by rw [hys.out, recs_append]; exact hA.out.snoc HP.out hnext.out), hown, hbZ, by rw [hys.out, List.length_append]; simp; omega⟩
        case measure => simp only [intOf]; omega
      · obtain ⟨k, hk⟩ : ∃ k, xs.length = k + 1 := ⟨xs.length - 1, by have := List.length_pos_iff.2 hx0; omega⟩
        have hk3 : k < xs.length := by omega
        have hni := Lib.hid (next_iff xs k hk x.r)
        have hvk := (hA.out.1 k (by rw [recs_length]; omega)).1
        rw [recs_get xs k (by omega)] at hvk
        obtain ⟨a, hBa, _, c0, _, _⟩ := (HW.ab hb2).recs.at_ hk3
        have hy1 := hvk.1
        have hy2 := hvk.2.1
        change 0 ≤ xs[k].num at hy1
        change xs[k].num ≤ 1000000000 at hy2
        clear hvk
        generalize xs[k].num = y at *
        have hsum : IntKind.i64.wrap (y + 1) = y + 1 := IntWalk.i64_in _ (by omega)
        have hidx : IntKind.i64.wrap ((xs.length : Int) - 1) = (k : Int) := by rw [IntWalk.i64_in _ (by omega)]; omega
        have hp0 : (0 : Int) < (xs.length : Int) := by omega
        have hp1 : 0 < xs.length := by omega
        have hk1 : (k : Int) < (xs.length : Int) := by omega
        have hk2 : (0 : Int) ≤ (k : Int) := by omega
        have hk' := Nat.le_of_eq hk
        have hkn := Lib.hid hk
        clear hk
        by_cases hnx : x.num = y + 1
        · have hnext := Lib.hid (hni.out.2 hnx)
          subst hBa
          go_quiet (fail)
          clear hsum hidx hnx
          have hb3 : Ab w2 (w2.drewN nq) := (by repeat (first | with_reducible exact Ab.refl _ | with_reducible assumption | with_reducible refine Ab.drew ?_ | with_reducible refine Ab.drewN ?_ _ | with_reducible refine Ab.alloc ?_ _ | with_reducible refine Ab.trans ?_ (by assumption) | with_reducible refine Ab.set ?_ (by first | (simp; done) | omega | (simp; omega)) _))
          generalize (w2.drewN nq) = w3 at *
          replace xq0 := hb3.at xq0
          replace xq1 := hb3.at xq1
          have hHW := HW.ab (hb2.trans hb3)
          have hLW := hL0.ab (hb2.trans hb3)
          have hbW : Ab w w3 := (by repeat (first | with_reducible exact Ab.refl _ | with_reducible assumption | with_reducible refine Ab.drew ?_ | with_reducible refine Ab.drewN ?_ _ | with_reducible refine Ab.alloc ?_ _ | with_reducible refine Ab.trans ?_ (by assumption) | with_reducible refine Ab.set ?_ (by first | (simp; done) | omega | (simp; omega)) _))
          have hsz3 := (hb2.trans hb3).size
          go_wp2_with ((at_builtin
                        refine listAppR (x := x) (fr := (0, 0)) rfl _ _ rfl rfl rfl (hHW.ab (by repeat (first | with_reducible exact Ab.refl _ | with_reducible assumption | with_reducible refine Ab.drew ?_ | with_reducible refine Ab.drewN ?_ _ | with_reducible refine Ab.alloc ?_ _ | with_reducible refine Ab.trans ?_ (by assumption) | with_reducible refine Ab.set ?_ (by first | (simp; done) | omega | (simp; omega)) _))) (by first | (simp; done) | omega | (simp; omega)) (by (repeat (first | exact new_plain (by first | (simp; done) | omega | (simp; omega)) | with_reducible refine old_alloc ?_ | with_reducible refine old_drew ?_ | with_reducible refine old_set ?_ (by first | (simp; done) | omega | (simp; omega)) | with_reducible refine old_ab (by assumption) ?_))) (hLW.ab (by repeat (first | with_reducible exact Ab.refl _ | with_reducible assumption | with_reducible refine Ab.drew ?_ | with_reducible refine Ab.drewN ?_ _ | with_reducible refine Ab.alloc ?_ _ | with_reducible refine Ab.trans ?_ (by assumption) | with_reducible refine Ab.set ?_ (by first | (simp; done) | omega | (simp; omega)) _))) hxA (by omega) ?_
                        intro g' c' w4 ys hys hown hgr hgk
                        have xr1 := grown_cell (b := w1.heap.size) (o := 1) (v := .slice x.A x.b.length x.c) hgr (by (repeat (first | with_reducible assumption | (simp [go_sem]; done) | with_reducible apply cell_alloc | with_reducible apply cell_drew | with_reducible apply cell_drewN | (with_reducible apply Ab.at; with_reducible assumption) | (with_reducible refine cell_set ?_ ?_; rotate_left; focus (first | (simp; done) | (simp; omega))) | (with_reducible refine cell_setb ?_ ?_; rotate_left; focus (first | omega | (simp only; omega) | (simp; omega)))))) hfar
                        have hbZ : Ab w w4 := grown_ab (hbW.alloc _) hgr hrow))
          go_roundw
          case rel => exact ⟨some ⟨g', 0, none⟩, c', ys, u + (12 + x.b.length), rfl, by go_num, Lib.hid (by rw [hys.out, recs_append]; exact hA.out.snoc HP.out hnext.out), hown, hbZ, by rw [hys.out, List.length_append]; simp; omega⟩
          case measure => simp only [intOf]; omega
        · have hnn : Hid (¬ Frame.Next (recs xs) x.r) := Lib.hid (fun h => hnx (hni.out.1 h))
          subst hBa
          go_quiet (fail)
          clear hsum hidx
          go_wp2
          go_ret2
          exact ⟨_, d, xs, u, Lib.hid (hA.out.stop (fun r hr => by rw [← Frame.pre_unique HP.out hr]; exact hnn.out)), rfl, HW.ab (by repeat (first | with_reducible exact Ab.refl _ | with_reducible assumption | with_reducible refine Ab.drew ?_ | with_reducible refine Ab.drewN ?_ _ | with_reducible refine Ab.alloc ?_ _ | with_reducible refine Ab.trans ?_ (by assumption) | with_reducible refine Ab.set ?_ (by first | (simp; done) | omega | (simp; omega)) _)), (by repeat (first | with_reducible exact Ab.refl _ | with_reducible assumption | with_reducible refine Ab.drew ?_ | with_reducible refine Ab.drewN ?_ _ | with_reducible refine Ab.alloc ?_ _ | with_reducible refine Ab.trans ?_ (by assumption) | with_reducible refine Ab.set ?_ (by first | (simp; done) | omega | (simp; omega)) _))⟩

end Go.Proofs.Ytehagdpcegpbjaa
