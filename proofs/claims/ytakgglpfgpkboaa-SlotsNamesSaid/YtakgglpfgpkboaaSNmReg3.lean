/- SlotsNames: its three drawn regions, each over a frame kept as a letter. Written by genslots.py. Own work. -/
import Derived.Test.YtakgglpfgpkboaaSNmReg
set_option linter.unusedVariables false
set_option linter.unusedSimpArgs false
namespace Go.Proofs.Ytakgglpfgpkboaa
open Go.RowKit

/-- Behind region 3. -/
def SK3 (w : World) (act : Act) (wx : World) : Prop :=
  act.defers = [] ∧ act.tmps.size = 309 ∧ act.tmps.getD 2 undef = .int .i64 2 ∧ act.tmps.getD 5 undef = .int .i64 4 ∧ act.tmps.getD 8 undef = .int .i64 18 ∧ Ab w wx
noncomputable def scode3 : Code := ((Try.f3.body.bind (findR 3)).getD .skip)
set_option maxRecDepth 1000000 in
set_option maxHeartbeats 9600000 in
theorem sreg3 (w wr : World) (HA : Ab w wr) (T : Array Value) (hsT : T.size = 309) (f2 : T.getD 2 undef = .int .i64 2) (f5 : T.getD 5 undef = .int .i64 4) (K' : Act → World → Prop) (P0 : Ending → World → Prop) (hK : ∀ a' w', SK3 w a' w' → K' a' w') :
    Code.wp Try.prog scode3 (Exit.then K' (bodyPost Try.prog Try.f3 P0)) ⟨T, []⟩ wr := by
  obtain ⟨ZZ1, b1, kk1, _, mm1, yy1⟩ := make_bytes 89 (by omega) 89 rfl
  have gsT := opq_set
  have zr := HA.size
  skip
  conv => arg 2; whnf
  refine wp_region_held_drew (by kernel_rfl) (S := fun _ => True) ?_ (fun hHeld => ?_)
  · try trivial
  (refine wpAnyH_ready (rs := [0, 1, 7]) (by kernel_rfl) (by simp) ?_)
  refine (AllReadyH.cons rfl (fun K hK => ?_) (AllReadyH.cons rfl (fun K hK => ?_) (AllReadyH.cons rfl (fun K hK => ?_) AllReadyH.nil)))
  ·
    go_simp
    (go_at_call 11)
    refine (sgiven_any _).mono ?_
    rintro e wa ⟨ma, rfl, hMa, hba⟩
    have za := hba.size
    (try simp at za)
    (try go_wp2_with fail)
    (refine hK.out _ _ ?_ (fun hHeld => ?_)
     · (try dsimp only); try trivial
     clear hK K
     (try simp only [Act.put, List.setIfInBounds_toArray, List.set_cons_zero, List.set_cons_succ]))
    (refine wpAnyH_ready (rs := [1, 7]) (by kernel_rfl) (by simp) ?_)
    refine (AllReadyH.cons rfl (fun K hK => ?_) (AllReadyH.cons rfl (fun K hK => ?_) AllReadyH.nil))
    ·
      (go_simp
       (refine hK.out _ _ ?_ (fun hHeld => ?_)
        · (try dsimp only); try trivial
        clear hK K
        (try simp only [Act.put, List.setIfInBounds_toArray, List.set_cons_zero, List.set_cons_succ])))
      (refine wpAnyH_ready (rs := [2, 7]) (by kernel_rfl) (by simp) ?_)
      refine (AllReadyH.cons rfl (fun K hK => ?_) (AllReadyH.cons rfl (fun K hK => ?_) AllReadyH.nil))
      ·
        go_simp
        (go_at_call 10)
        refine (ssave_n ma Slots.G2 _ (hMa.ab (by repeat (first | with_reducible exact Ab.refl _ | with_reducible assumption | with_reducible refine Ab.drew ?_ | with_reducible refine Ab.drewN ?_ _ | with_reducible refine Ab.alloc ?_ _ | with_reducible refine Ab.trans ?_ (by assumption) | with_reducible refine Ab.set ?_ (by first | (simp; done) | omega | (simp; omega)) _))) (some ⟨wa.heap.size, 0, none⟩) b1 89 kk1.out 89 ((yy1.out _ _ (0, 0) (by (repeat (first | exact new_plain (by first | (simp; done) | omega | (simp; omega)) | with_reducible refine old_alloc ?_ | with_reducible refine old_drew ?_ | with_reducible refine old_set ?_ (by first | (simp; done) | omega | (simp; omega)) | with_reducible refine old_ab (by assumption) ?_))))) (by omega)).mono ?_
        rintro e wb ⟨rb, nb, eb, mb, hb, rfl, hMb, hbb⟩
        have hmb := (Prod.mk.inj (hb.out.trans (Slots.nm_full b1 kk1.out))).2
        obtain ⟨rfl, rfl⟩ := Prod.mk.inj hmb
        clear hb hmb hMb
        have zb := hbb.size
        (try simp at zb)
        (try go_wp2_with fail)
        (refine hK.out _ _ ?_ (fun hHeld => ?_)
         · (try dsimp only); try trivial
         clear hK K
         (try simp only [Act.put, List.setIfInBounds_toArray, List.set_cons_zero, List.set_cons_succ]))
        (refine wpAnyH_take (i := 3) (v := ?_) rfl (by kernel_rfl) (by kernel_rfl) (by kernel_rfl) (fun _ _ _ h => h) (Or.inl ⟨by kernel_rfl, ?_⟩) (by assumption) ?_
         rotate_left
         · (intro w hSw; (try dsimp only at hSw); go_simp; (try with_reducible rfl))
         (try simp only [Act.put, List.setIfInBounds_toArray, List.set_cons_zero, List.set_cons_succ]))
        (refine wpAnyH_take (i := 4) (v := ?_) rfl (by kernel_rfl) (by kernel_rfl) (by kernel_rfl) (fun _ _ _ h => h) (Or.inl ⟨by kernel_rfl, ?_⟩) (by assumption) ?_
         rotate_left
         · (intro w hSw; (try dsimp only at hSw); go_simp; (try with_reducible rfl))
         (try simp only [Act.put, List.setIfInBounds_toArray, List.set_cons_zero, List.set_cons_succ]))
        (refine wpAnyH_take (i := 5) (v := ?_) rfl (by kernel_rfl) (by kernel_rfl) (by kernel_rfl) (fun _ _ _ h => h) (Or.inl ⟨by kernel_rfl, ?_⟩) (by assumption) ?_
         rotate_left
         · (intro w hSw; (try dsimp only at hSw); go_simp; (try with_reducible rfl))
         (try simp only [Act.put, List.setIfInBounds_toArray, List.set_cons_zero, List.set_cons_succ]))
        (refine wpAnyH_take (i := 6) (v := ?_) rfl (by kernel_rfl) (by kernel_rfl) (by kernel_rfl) (fun _ _ _ h => h) (Or.inl ⟨by kernel_rfl, ?_⟩) (by assumption) ?_
         rotate_left
         · (intro w hSw; (try dsimp only at hSw); go_simp; (try with_reducible rfl))
         (try simp only [Act.put, List.setIfInBounds_toArray, List.set_cons_zero, List.set_cons_succ]))
        (refine wpAnyH_ready (rs := [7]) (by kernel_rfl) (by simp) ?_)
        refine AllReadyH.cons rfl (fun K hK => ?_) AllReadyH.nil
        (go_simp
         (refine hK.out _ _ ?_ (fun hHeld => ?_)
          · (try dsimp only); try trivial
          clear hK K
          (try simp only [Act.put, List.setIfInBounds_toArray, List.set_cons_zero, List.set_cons_succ])))
        (refine wpAnyH_ready (rs := [8]) (by kernel_rfl) (by simp) ?_)
        refine AllReadyH.cons rfl (fun K hK => ?_) AllReadyH.nil
        (go_simp
         (refine hK.out _ _ ?_ (fun hHeld => ?_)
          · (try dsimp only); try trivial
          clear hK K
          (try simp only [Act.put, List.setIfInBounds_toArray, List.set_cons_zero, List.set_cons_succ])))
        (refine wpAnyH_ready (rs := [9]) (by kernel_rfl) (by simp) ?_)
        refine AllReadyH.cons rfl (fun K hK => ?_) AllReadyH.nil
        (go_simp
         (refine hK.out _ _ ?_ (fun hHeld => ?_)
          · (try dsimp only); try trivial
          clear hK K
          (try simp only [Act.put, List.setIfInBounds_toArray, List.set_cons_zero, List.set_cons_succ])))
        (refine wpAnyH_ready (rs := [10]) (by kernel_rfl) (by simp) ?_)
        refine AllReadyH.cons rfl (fun K hK => ?_) AllReadyH.nil
        (go_simp
         (refine hK.out _ _ ?_ (fun hHeld => ?_)
          · (try dsimp only); try trivial
          clear hK K
          (try simp only [Act.put, List.setIfInBounds_toArray, List.set_cons_zero, List.set_cons_succ])))
        refine wpAnyH_done (by kernel_rfl) ?_ _
        refine hK _ _ ?_
        refine ⟨rfl, ?_, ?_, ?_, ?_, ?_⟩
        · dsimp only; (repeat rw [Array.size_setIfInBounds]); exact hsT
        · dsimp only; (repeat rw [opq_ne _ _ _ _ _ (by decide)]); exact f2
        · dsimp only; (repeat rw [opq_ne _ _ _ _ _ (by decide)]); exact f5
        · dsimp only; (repeat rw [opq_ne _ _ _ _ _ (by decide)]); rw [opq_at _ _ 309 _ _ (by (repeat rw [Array.size_setIfInBounds]); exact hsT) (by decide)]
        · exact (by repeat (first | with_reducible exact Ab.refl _ | with_reducible assumption | with_reducible refine Ab.drew ?_ | with_reducible refine Ab.drewN ?_ _ | with_reducible refine Ab.alloc ?_ _ | with_reducible refine Ab.trans ?_ (by assumption) | with_reducible refine Ab.set ?_ (by first | (simp; done) | omega | (simp; omega)) _))
      ·
        (go_simp
         (refine hK.out _ _ ?_ (fun hHeld => ?_)
          · (try dsimp only); try trivial
          clear hK K
          (try simp only [Act.put, List.setIfInBounds_toArray, List.set_cons_zero, List.set_cons_succ])))
        (refine wpAnyH_ready (rs := [2]) (by kernel_rfl) (by simp) ?_)
        refine (AllReadyH.cons rfl (fun K hK => ?_) AllReadyH.nil)
        ·
          go_simp
          (go_at_call 10)
          refine (ssave_n ma Slots.G2 _ (hMa.ab (by repeat (first | with_reducible exact Ab.refl _ | with_reducible assumption | with_reducible refine Ab.drew ?_ | with_reducible refine Ab.drewN ?_ _ | with_reducible refine Ab.alloc ?_ _ | with_reducible refine Ab.trans ?_ (by assumption) | with_reducible refine Ab.set ?_ (by first | (simp; done) | omega | (simp; omega)) _))) (some ⟨wa.heap.size, 0, none⟩) b1 89 kk1.out 89 ((yy1.out _ _ (0, 0) (by (repeat (first | exact new_plain (by first | (simp; done) | omega | (simp; omega)) | with_reducible refine old_alloc ?_ | with_reducible refine old_drew ?_ | with_reducible refine old_set ?_ (by first | (simp; done) | omega | (simp; omega)) | with_reducible refine old_ab (by assumption) ?_))))) (by omega)).mono ?_
          rintro e wb ⟨rb, nb, eb, mb, hb, rfl, hMb, hbb⟩
          have hmb := (Prod.mk.inj (hb.out.trans (Slots.nm_full b1 kk1.out))).2
          obtain ⟨rfl, rfl⟩ := Prod.mk.inj hmb
          clear hb hmb hMb
          have zb := hbb.size
          (try simp at zb)
          have xq0 : wb.cell? ⟨wa.heap.size + 1, 0, none⟩ = some (.slice none 0 0) := hbb.at (by (repeat (first | with_reducible assumption | (simp [go_sem]; done) | with_reducible apply cell_alloc | with_reducible apply cell_drew | with_reducible apply cell_drewN | (with_reducible apply Ab.at; with_reducible assumption) | (with_reducible refine cell_set ?_ ?_; rotate_left; focus (first | (simp; done) | (simp; omega))) | (with_reducible refine cell_setb ?_ ?_; rotate_left; focus (first | omega | (simp only; omega) | (simp; omega)))))); have xq1 : wb.cell? ⟨wa.heap.size + 1, 1, none⟩ = some (.slice none 0 0) := hbb.at (by (repeat (first | with_reducible assumption | (simp [go_sem]; done) | with_reducible apply cell_alloc | with_reducible apply cell_drew | with_reducible apply cell_drewN | (with_reducible apply Ab.at; with_reducible assumption) | (with_reducible refine cell_set ?_ ?_; rotate_left; focus (first | (simp; done) | (simp; omega))) | (with_reducible refine cell_setb ?_ ?_; rotate_left; focus (first | omega | (simp only; omega) | (simp; omega)))))); have xq2 : wb.cell? ⟨wa.heap.size + 1, 2, none⟩ = some (.int .i64 0) := hbb.at (by (repeat (first | with_reducible assumption | (simp [go_sem]; done) | with_reducible apply cell_alloc | with_reducible apply cell_drew | with_reducible apply cell_drewN | (with_reducible apply Ab.at; with_reducible assumption) | (with_reducible refine cell_set ?_ ?_; rotate_left; focus (first | (simp; done) | (simp; omega))) | (with_reducible refine cell_setb ?_ ?_; rotate_left; focus (first | omega | (simp only; omega) | (simp; omega)))))); have xq3 : wb.cell? ⟨wa.heap.size + 1, 3, none⟩ = some (.bool false) := hbb.at (by (repeat (first | with_reducible assumption | (simp [go_sem]; done) | with_reducible apply cell_alloc | with_reducible apply cell_drew | with_reducible apply cell_drewN | (with_reducible apply Ab.at; with_reducible assumption) | (with_reducible refine cell_set ?_ ?_; rotate_left; focus (first | (simp; done) | (simp; omega))) | (with_reducible refine cell_setb ?_ ?_; rotate_left; focus (first | omega | (simp only; omega) | (simp; omega)))))); have xq4 : wb.cell? ⟨wa.heap.size + 1, 4, none⟩ = some (.slice none 0 0) := hbb.at (by (repeat (first | with_reducible assumption | (simp [go_sem]; done) | with_reducible apply cell_alloc | with_reducible apply cell_drew | with_reducible apply cell_drewN | (with_reducible apply Ab.at; with_reducible assumption) | (with_reducible refine cell_set ?_ ?_; rotate_left; focus (first | (simp; done) | (simp; omega))) | (with_reducible refine cell_setb ?_ ?_; rotate_left; focus (first | omega | (simp only; omega) | (simp; omega)))))); have xq5 : wb.cell? ⟨wa.heap.size + 1, 5, none⟩ = some (.slice none 0 0) := hbb.at (by (repeat (first | with_reducible assumption | (simp [go_sem]; done) | with_reducible apply cell_alloc | with_reducible apply cell_drew | with_reducible apply cell_drewN | (with_reducible apply Ab.at; with_reducible assumption) | (with_reducible refine cell_set ?_ ?_; rotate_left; focus (first | (simp; done) | (simp; omega))) | (with_reducible refine cell_setb ?_ ?_; rotate_left; focus (first | omega | (simp only; omega) | (simp; omega)))))); have xq6 : wb.cell? ⟨wa.heap.size + 1, 6, none⟩ = some (.int .i64 0) := hbb.at (by (repeat (first | with_reducible assumption | (simp [go_sem]; done) | with_reducible apply cell_alloc | with_reducible apply cell_drew | with_reducible apply cell_drewN | (with_reducible apply Ab.at; with_reducible assumption) | (with_reducible refine cell_set ?_ ?_; rotate_left; focus (first | (simp; done) | (simp; omega))) | (with_reducible refine cell_setb ?_ ?_; rotate_left; focus (first | omega | (simp only; omega) | (simp; omega)))))); have xq7 : wb.cell? ⟨wa.heap.size + 1, 7, none⟩ = some (.bool false) := hbb.at (by (repeat (first | with_reducible assumption | (simp [go_sem]; done) | with_reducible apply cell_alloc | with_reducible apply cell_drew | with_reducible apply cell_drewN | (with_reducible apply Ab.at; with_reducible assumption) | (with_reducible refine cell_set ?_ ?_; rotate_left; focus (first | (simp; done) | (simp; omega))) | (with_reducible refine cell_setb ?_ ?_; rotate_left; focus (first | omega | (simp only; omega) | (simp; omega)))))); have xq8 : wb.cell? ⟨wa.heap.size + 1, 8, none⟩ = some (.int .i64 0) := hbb.at (by (repeat (first | with_reducible assumption | (simp [go_sem]; done) | with_reducible apply cell_alloc | with_reducible apply cell_drew | with_reducible apply cell_drewN | (with_reducible apply Ab.at; with_reducible assumption) | (with_reducible refine cell_set ?_ ?_; rotate_left; focus (first | (simp; done) | (simp; omega))) | (with_reducible refine cell_setb ?_ ?_; rotate_left; focus (first | omega | (simp only; omega) | (simp; omega))))))
          have xr0 : wb.frozen? ⟨wa.heap.size + 1, 0, none⟩ = false := (hbb.frozen (p := ⟨wa.heap.size + 1, 0, none⟩) (by first | (simp; done) | omega | (simp; omega))).trans (by (repeat (first | with_reducible assumption | (simp [go_sem]; done) | (with_reducible refine fr_alloc ?_ ?_; focus (first | (simp; done) | omega | (simp; omega))) | (with_reducible refine Ab.fr (by assumption) ?_ ?_; focus (first | (simp; done) | omega | (simp; omega)))))); have xr1 : wb.frozen? ⟨wa.heap.size + 1, 1, none⟩ = false := (hbb.frozen (p := ⟨wa.heap.size + 1, 1, none⟩) (by first | (simp; done) | omega | (simp; omega))).trans (by (repeat (first | with_reducible assumption | (simp [go_sem]; done) | (with_reducible refine fr_alloc ?_ ?_; focus (first | (simp; done) | omega | (simp; omega))) | (with_reducible refine Ab.fr (by assumption) ?_ ?_; focus (first | (simp; done) | omega | (simp; omega)))))); have xr2 : wb.frozen? ⟨wa.heap.size + 1, 2, none⟩ = false := (hbb.frozen (p := ⟨wa.heap.size + 1, 2, none⟩) (by first | (simp; done) | omega | (simp; omega))).trans (by (repeat (first | with_reducible assumption | (simp [go_sem]; done) | (with_reducible refine fr_alloc ?_ ?_; focus (first | (simp; done) | omega | (simp; omega))) | (with_reducible refine Ab.fr (by assumption) ?_ ?_; focus (first | (simp; done) | omega | (simp; omega)))))); have xr3 : wb.frozen? ⟨wa.heap.size + 1, 3, none⟩ = false := (hbb.frozen (p := ⟨wa.heap.size + 1, 3, none⟩) (by first | (simp; done) | omega | (simp; omega))).trans (by (repeat (first | with_reducible assumption | (simp [go_sem]; done) | (with_reducible refine fr_alloc ?_ ?_; focus (first | (simp; done) | omega | (simp; omega))) | (with_reducible refine Ab.fr (by assumption) ?_ ?_; focus (first | (simp; done) | omega | (simp; omega)))))); have xr4 : wb.frozen? ⟨wa.heap.size + 1, 4, none⟩ = false := (hbb.frozen (p := ⟨wa.heap.size + 1, 4, none⟩) (by first | (simp; done) | omega | (simp; omega))).trans (by (repeat (first | with_reducible assumption | (simp [go_sem]; done) | (with_reducible refine fr_alloc ?_ ?_; focus (first | (simp; done) | omega | (simp; omega))) | (with_reducible refine Ab.fr (by assumption) ?_ ?_; focus (first | (simp; done) | omega | (simp; omega)))))); have xr5 : wb.frozen? ⟨wa.heap.size + 1, 5, none⟩ = false := (hbb.frozen (p := ⟨wa.heap.size + 1, 5, none⟩) (by first | (simp; done) | omega | (simp; omega))).trans (by (repeat (first | with_reducible assumption | (simp [go_sem]; done) | (with_reducible refine fr_alloc ?_ ?_; focus (first | (simp; done) | omega | (simp; omega))) | (with_reducible refine Ab.fr (by assumption) ?_ ?_; focus (first | (simp; done) | omega | (simp; omega)))))); have xr6 : wb.frozen? ⟨wa.heap.size + 1, 6, none⟩ = false := (hbb.frozen (p := ⟨wa.heap.size + 1, 6, none⟩) (by first | (simp; done) | omega | (simp; omega))).trans (by (repeat (first | with_reducible assumption | (simp [go_sem]; done) | (with_reducible refine fr_alloc ?_ ?_; focus (first | (simp; done) | omega | (simp; omega))) | (with_reducible refine Ab.fr (by assumption) ?_ ?_; focus (first | (simp; done) | omega | (simp; omega)))))); have xr7 : wb.frozen? ⟨wa.heap.size + 1, 7, none⟩ = false := (hbb.frozen (p := ⟨wa.heap.size + 1, 7, none⟩) (by first | (simp; done) | omega | (simp; omega))).trans (by (repeat (first | with_reducible assumption | (simp [go_sem]; done) | (with_reducible refine fr_alloc ?_ ?_; focus (first | (simp; done) | omega | (simp; omega))) | (with_reducible refine Ab.fr (by assumption) ?_ ?_; focus (first | (simp; done) | omega | (simp; omega)))))); have xr8 : wb.frozen? ⟨wa.heap.size + 1, 8, none⟩ = false := (hbb.frozen (p := ⟨wa.heap.size + 1, 8, none⟩) (by first | (simp; done) | omega | (simp; omega))).trans (by (repeat (first | with_reducible assumption | (simp [go_sem]; done) | (with_reducible refine fr_alloc ?_ ?_; focus (first | (simp; done) | omega | (simp; omega))) | (with_reducible refine Ab.fr (by assumption) ?_ ?_; focus (first | (simp; done) | omega | (simp; omega))))))
          have xna := fun (o : Obj) (j : Nat) => World.cell?_alloc_lt wb o ⟨wa.heap.size + 1, j, none⟩ (by first | (simp; done) | omega | (simp; omega))
          have xnb := fun (o : Obj) (j : Nat) => ((Ab.refl wb).alloc o).frozen (p := ⟨wa.heap.size + 1, j, none⟩) (by first | (simp; done) | omega | (simp; omega))
          (try go_wp2_with fail)
          (refine hK.out _ _ ?_ (fun hHeld => ?_)
           · (try dsimp only); try trivial
           clear hK K
           (try simp only [Act.put, List.setIfInBounds_toArray, List.set_cons_zero, List.set_cons_succ]))
          (refine wpAnyH_take (i := 3) (v := ?_) rfl (by kernel_rfl) (by kernel_rfl) (by kernel_rfl) (fun _ _ _ h => h) (Or.inl ⟨by kernel_rfl, ?_⟩) (by assumption) ?_
           rotate_left
           · (intro w hSw; (try dsimp only at hSw); go_simp; (try with_reducible rfl))
           (try simp only [Act.put, List.setIfInBounds_toArray, List.set_cons_zero, List.set_cons_succ]))
          (refine wpAnyH_take (i := 4) (v := ?_) rfl (by kernel_rfl) (by kernel_rfl) (by kernel_rfl) (fun _ _ _ h => h) (Or.inl ⟨by kernel_rfl, ?_⟩) (by assumption) ?_
           rotate_left
           · (intro w hSw; (try dsimp only at hSw); go_simp; (try with_reducible rfl))
           (try simp only [Act.put, List.setIfInBounds_toArray, List.set_cons_zero, List.set_cons_succ]))
          (refine wpAnyH_take (i := 5) (v := ?_) rfl (by kernel_rfl) (by kernel_rfl) (by kernel_rfl) (fun _ _ _ h => h) (Or.inl ⟨by kernel_rfl, ?_⟩) (by assumption) ?_
           rotate_left
           · (intro w hSw; (try dsimp only at hSw); go_simp; (try with_reducible rfl))
           (try simp only [Act.put, List.setIfInBounds_toArray, List.set_cons_zero, List.set_cons_succ]))
          (refine wpAnyH_take (i := 6) (v := ?_) rfl (by kernel_rfl) (by kernel_rfl) (by kernel_rfl) (fun _ _ _ h => h) (Or.inl ⟨by kernel_rfl, ?_⟩) (by assumption) ?_
           rotate_left
           · (intro w hSw; (try dsimp only at hSw); go_simp; (try with_reducible rfl))
           (try simp only [Act.put, List.setIfInBounds_toArray, List.set_cons_zero, List.set_cons_succ]))
          (refine wpAnyH_ready (rs := [8]) (by kernel_rfl) (by simp) ?_)
          refine AllReadyH.cons rfl (fun K hK => ?_) AllReadyH.nil
          (go_simp
           (refine hK.out _ _ ?_ (fun hHeld => ?_)
            · (try dsimp only); try trivial
            clear hK K
            (try simp only [Act.put, List.setIfInBounds_toArray, List.set_cons_zero, List.set_cons_succ])))
          (refine wpAnyH_ready (rs := [9]) (by kernel_rfl) (by simp) ?_)
          refine AllReadyH.cons rfl (fun K hK => ?_) AllReadyH.nil
          (go_simp
           (refine hK.out _ _ ?_ (fun hHeld => ?_)
            · (try dsimp only); try trivial
            clear hK K
            (try simp only [Act.put, List.setIfInBounds_toArray, List.set_cons_zero, List.set_cons_succ])))
          (refine wpAnyH_ready (rs := [10]) (by kernel_rfl) (by simp) ?_)
          refine AllReadyH.cons rfl (fun K hK => ?_) AllReadyH.nil
          (go_simp
           (refine hK.out _ _ ?_ (fun hHeld => ?_)
            · (try dsimp only); try trivial
            clear hK K
            (try simp only [Act.put, List.setIfInBounds_toArray, List.set_cons_zero, List.set_cons_succ])))
          refine wpAnyH_done (by kernel_rfl) ?_ _
          refine hK _ _ ?_
          refine ⟨rfl, ?_, ?_, ?_, ?_, ?_⟩
          · dsimp only; (repeat rw [Array.size_setIfInBounds]); exact hsT
          · dsimp only; (repeat rw [opq_ne _ _ _ _ _ (by decide)]); exact f2
          · dsimp only; (repeat rw [opq_ne _ _ _ _ _ (by decide)]); exact f5
          · dsimp only; (repeat rw [opq_ne _ _ _ _ _ (by decide)]); rw [opq_at _ _ 309 _ _ (by (repeat rw [Array.size_setIfInBounds]); exact hsT) (by decide)]
          · exact (by repeat (first | with_reducible exact Ab.refl _ | with_reducible assumption | with_reducible refine Ab.drew ?_ | with_reducible refine Ab.drewN ?_ _ | with_reducible refine Ab.alloc ?_ _ | with_reducible refine Ab.trans ?_ (by assumption) | with_reducible refine Ab.set ?_ (by first | (simp; done) | omega | (simp; omega)) _))
    ·
      (go_simp
       (refine hK.out _ _ ?_ (fun hHeld => ?_)
        · (try dsimp only); try trivial
        clear hK K
        (try simp only [Act.put, List.setIfInBounds_toArray, List.set_cons_zero, List.set_cons_succ])))
      (refine wpAnyH_ready (rs := [1]) (by kernel_rfl) (by simp) ?_)
      refine (AllReadyH.cons rfl (fun K hK => ?_) AllReadyH.nil)
      ·
        (go_simp
         (refine hK.out _ _ ?_ (fun hHeld => ?_)
          · (try dsimp only); try trivial
          clear hK K
          (try simp only [Act.put, List.setIfInBounds_toArray, List.set_cons_zero, List.set_cons_succ])))
        (refine wpAnyH_ready (rs := [2]) (by kernel_rfl) (by simp) ?_)
        refine (AllReadyH.cons rfl (fun K hK => ?_) AllReadyH.nil)
        ·
          go_simp
          (go_at_call 10)
          refine (ssave_n ma Slots.G2 _ (hMa.ab (by repeat (first | with_reducible exact Ab.refl _ | with_reducible assumption | with_reducible refine Ab.drew ?_ | with_reducible refine Ab.drewN ?_ _ | with_reducible refine Ab.alloc ?_ _ | with_reducible refine Ab.trans ?_ (by assumption) | with_reducible refine Ab.set ?_ (by first | (simp; done) | omega | (simp; omega)) _))) (some ⟨wa.heap.size + 1, 0, none⟩) b1 89 kk1.out 89 ((yy1.out _ _ (0, 0) (by (repeat (first | exact new_plain (by first | (simp; done) | omega | (simp; omega)) | with_reducible refine old_alloc ?_ | with_reducible refine old_drew ?_ | with_reducible refine old_set ?_ (by first | (simp; done) | omega | (simp; omega)) | with_reducible refine old_ab (by assumption) ?_))))) (by omega)).mono ?_
          rintro e wb ⟨rb, nb, eb, mb, hb, rfl, hMb, hbb⟩
          have hmb := (Prod.mk.inj (hb.out.trans (Slots.nm_full b1 kk1.out))).2
          obtain ⟨rfl, rfl⟩ := Prod.mk.inj hmb
          clear hb hmb hMb
          have zb := hbb.size
          (try simp at zb)
          have xq0 : wb.cell? ⟨wa.heap.size, 0, none⟩ = some (.slice none 0 0) := hbb.at (by (repeat (first | with_reducible assumption | (simp [go_sem]; done) | with_reducible apply cell_alloc | with_reducible apply cell_drew | with_reducible apply cell_drewN | (with_reducible apply Ab.at; with_reducible assumption) | (with_reducible refine cell_set ?_ ?_; rotate_left; focus (first | (simp; done) | (simp; omega))) | (with_reducible refine cell_setb ?_ ?_; rotate_left; focus (first | omega | (simp only; omega) | (simp; omega)))))); have xq1 : wb.cell? ⟨wa.heap.size, 1, none⟩ = some (.slice none 0 0) := hbb.at (by (repeat (first | with_reducible assumption | (simp [go_sem]; done) | with_reducible apply cell_alloc | with_reducible apply cell_drew | with_reducible apply cell_drewN | (with_reducible apply Ab.at; with_reducible assumption) | (with_reducible refine cell_set ?_ ?_; rotate_left; focus (first | (simp; done) | (simp; omega))) | (with_reducible refine cell_setb ?_ ?_; rotate_left; focus (first | omega | (simp only; omega) | (simp; omega)))))); have xq2 : wb.cell? ⟨wa.heap.size, 2, none⟩ = some (.int .i64 0) := hbb.at (by (repeat (first | with_reducible assumption | (simp [go_sem]; done) | with_reducible apply cell_alloc | with_reducible apply cell_drew | with_reducible apply cell_drewN | (with_reducible apply Ab.at; with_reducible assumption) | (with_reducible refine cell_set ?_ ?_; rotate_left; focus (first | (simp; done) | (simp; omega))) | (with_reducible refine cell_setb ?_ ?_; rotate_left; focus (first | omega | (simp only; omega) | (simp; omega)))))); have xq3 : wb.cell? ⟨wa.heap.size, 3, none⟩ = some (.bool false) := hbb.at (by (repeat (first | with_reducible assumption | (simp [go_sem]; done) | with_reducible apply cell_alloc | with_reducible apply cell_drew | with_reducible apply cell_drewN | (with_reducible apply Ab.at; with_reducible assumption) | (with_reducible refine cell_set ?_ ?_; rotate_left; focus (first | (simp; done) | (simp; omega))) | (with_reducible refine cell_setb ?_ ?_; rotate_left; focus (first | omega | (simp only; omega) | (simp; omega)))))); have xq4 : wb.cell? ⟨wa.heap.size, 4, none⟩ = some (.slice none 0 0) := hbb.at (by (repeat (first | with_reducible assumption | (simp [go_sem]; done) | with_reducible apply cell_alloc | with_reducible apply cell_drew | with_reducible apply cell_drewN | (with_reducible apply Ab.at; with_reducible assumption) | (with_reducible refine cell_set ?_ ?_; rotate_left; focus (first | (simp; done) | (simp; omega))) | (with_reducible refine cell_setb ?_ ?_; rotate_left; focus (first | omega | (simp only; omega) | (simp; omega)))))); have xq5 : wb.cell? ⟨wa.heap.size, 5, none⟩ = some (.slice none 0 0) := hbb.at (by (repeat (first | with_reducible assumption | (simp [go_sem]; done) | with_reducible apply cell_alloc | with_reducible apply cell_drew | with_reducible apply cell_drewN | (with_reducible apply Ab.at; with_reducible assumption) | (with_reducible refine cell_set ?_ ?_; rotate_left; focus (first | (simp; done) | (simp; omega))) | (with_reducible refine cell_setb ?_ ?_; rotate_left; focus (first | omega | (simp only; omega) | (simp; omega)))))); have xq6 : wb.cell? ⟨wa.heap.size, 6, none⟩ = some (.int .i64 0) := hbb.at (by (repeat (first | with_reducible assumption | (simp [go_sem]; done) | with_reducible apply cell_alloc | with_reducible apply cell_drew | with_reducible apply cell_drewN | (with_reducible apply Ab.at; with_reducible assumption) | (with_reducible refine cell_set ?_ ?_; rotate_left; focus (first | (simp; done) | (simp; omega))) | (with_reducible refine cell_setb ?_ ?_; rotate_left; focus (first | omega | (simp only; omega) | (simp; omega)))))); have xq7 : wb.cell? ⟨wa.heap.size, 7, none⟩ = some (.bool false) := hbb.at (by (repeat (first | with_reducible assumption | (simp [go_sem]; done) | with_reducible apply cell_alloc | with_reducible apply cell_drew | with_reducible apply cell_drewN | (with_reducible apply Ab.at; with_reducible assumption) | (with_reducible refine cell_set ?_ ?_; rotate_left; focus (first | (simp; done) | (simp; omega))) | (with_reducible refine cell_setb ?_ ?_; rotate_left; focus (first | omega | (simp only; omega) | (simp; omega)))))); have xq8 : wb.cell? ⟨wa.heap.size, 8, none⟩ = some (.int .i64 0) := hbb.at (by (repeat (first | with_reducible assumption | (simp [go_sem]; done) | with_reducible apply cell_alloc | with_reducible apply cell_drew | with_reducible apply cell_drewN | (with_reducible apply Ab.at; with_reducible assumption) | (with_reducible refine cell_set ?_ ?_; rotate_left; focus (first | (simp; done) | (simp; omega))) | (with_reducible refine cell_setb ?_ ?_; rotate_left; focus (first | omega | (simp only; omega) | (simp; omega))))))
          have xr0 : wb.frozen? ⟨wa.heap.size, 0, none⟩ = false := (hbb.frozen (p := ⟨wa.heap.size, 0, none⟩) (by first | (simp; done) | omega | (simp; omega))).trans (by (repeat (first | with_reducible assumption | (simp [go_sem]; done) | (with_reducible refine fr_alloc ?_ ?_; focus (first | (simp; done) | omega | (simp; omega))) | (with_reducible refine Ab.fr (by assumption) ?_ ?_; focus (first | (simp; done) | omega | (simp; omega)))))); have xr1 : wb.frozen? ⟨wa.heap.size, 1, none⟩ = false := (hbb.frozen (p := ⟨wa.heap.size, 1, none⟩) (by first | (simp; done) | omega | (simp; omega))).trans (by (repeat (first | with_reducible assumption | (simp [go_sem]; done) | (with_reducible refine fr_alloc ?_ ?_; focus (first | (simp; done) | omega | (simp; omega))) | (with_reducible refine Ab.fr (by assumption) ?_ ?_; focus (first | (simp; done) | omega | (simp; omega)))))); have xr2 : wb.frozen? ⟨wa.heap.size, 2, none⟩ = false := (hbb.frozen (p := ⟨wa.heap.size, 2, none⟩) (by first | (simp; done) | omega | (simp; omega))).trans (by (repeat (first | with_reducible assumption | (simp [go_sem]; done) | (with_reducible refine fr_alloc ?_ ?_; focus (first | (simp; done) | omega | (simp; omega))) | (with_reducible refine Ab.fr (by assumption) ?_ ?_; focus (first | (simp; done) | omega | (simp; omega)))))); have xr3 : wb.frozen? ⟨wa.heap.size, 3, none⟩ = false := (hbb.frozen (p := ⟨wa.heap.size, 3, none⟩) (by first | (simp; done) | omega | (simp; omega))).trans (by (repeat (first | with_reducible assumption | (simp [go_sem]; done) | (with_reducible refine fr_alloc ?_ ?_; focus (first | (simp; done) | omega | (simp; omega))) | (with_reducible refine Ab.fr (by assumption) ?_ ?_; focus (first | (simp; done) | omega | (simp; omega)))))); have xr4 : wb.frozen? ⟨wa.heap.size, 4, none⟩ = false := (hbb.frozen (p := ⟨wa.heap.size, 4, none⟩) (by first | (simp; done) | omega | (simp; omega))).trans (by (repeat (first | with_reducible assumption | (simp [go_sem]; done) | (with_reducible refine fr_alloc ?_ ?_; focus (first | (simp; done) | omega | (simp; omega))) | (with_reducible refine Ab.fr (by assumption) ?_ ?_; focus (first | (simp; done) | omega | (simp; omega)))))); have xr5 : wb.frozen? ⟨wa.heap.size, 5, none⟩ = false := (hbb.frozen (p := ⟨wa.heap.size, 5, none⟩) (by first | (simp; done) | omega | (simp; omega))).trans (by (repeat (first | with_reducible assumption | (simp [go_sem]; done) | (with_reducible refine fr_alloc ?_ ?_; focus (first | (simp; done) | omega | (simp; omega))) | (with_reducible refine Ab.fr (by assumption) ?_ ?_; focus (first | (simp; done) | omega | (simp; omega)))))); have xr6 : wb.frozen? ⟨wa.heap.size, 6, none⟩ = false := (hbb.frozen (p := ⟨wa.heap.size, 6, none⟩) (by first | (simp; done) | omega | (simp; omega))).trans (by (repeat (first | with_reducible assumption | (simp [go_sem]; done) | (with_reducible refine fr_alloc ?_ ?_; focus (first | (simp; done) | omega | (simp; omega))) | (with_reducible refine Ab.fr (by assumption) ?_ ?_; focus (first | (simp; done) | omega | (simp; omega)))))); have xr7 : wb.frozen? ⟨wa.heap.size, 7, none⟩ = false := (hbb.frozen (p := ⟨wa.heap.size, 7, none⟩) (by first | (simp; done) | omega | (simp; omega))).trans (by (repeat (first | with_reducible assumption | (simp [go_sem]; done) | (with_reducible refine fr_alloc ?_ ?_; focus (first | (simp; done) | omega | (simp; omega))) | (with_reducible refine Ab.fr (by assumption) ?_ ?_; focus (first | (simp; done) | omega | (simp; omega)))))); have xr8 : wb.frozen? ⟨wa.heap.size, 8, none⟩ = false := (hbb.frozen (p := ⟨wa.heap.size, 8, none⟩) (by first | (simp; done) | omega | (simp; omega))).trans (by (repeat (first | with_reducible assumption | (simp [go_sem]; done) | (with_reducible refine fr_alloc ?_ ?_; focus (first | (simp; done) | omega | (simp; omega))) | (with_reducible refine Ab.fr (by assumption) ?_ ?_; focus (first | (simp; done) | omega | (simp; omega))))))
          have xna := fun (o : Obj) (j : Nat) => World.cell?_alloc_lt wb o ⟨wa.heap.size, j, none⟩ (by first | (simp; done) | omega | (simp; omega))
          have xnb := fun (o : Obj) (j : Nat) => ((Ab.refl wb).alloc o).frozen (p := ⟨wa.heap.size, j, none⟩) (by first | (simp; done) | omega | (simp; omega))
          (try go_wp2_with fail)
          (refine hK.out _ _ ?_ (fun hHeld => ?_)
           · (try dsimp only); try trivial
           clear hK K
           (try simp only [Act.put, List.setIfInBounds_toArray, List.set_cons_zero, List.set_cons_succ]))
          (refine wpAnyH_take (i := 3) (v := ?_) rfl (by kernel_rfl) (by kernel_rfl) (by kernel_rfl) (fun _ _ _ h => h) (Or.inl ⟨by kernel_rfl, ?_⟩) (by assumption) ?_
           rotate_left
           · (intro w hSw; (try dsimp only at hSw); go_simp; (try with_reducible rfl))
           (try simp only [Act.put, List.setIfInBounds_toArray, List.set_cons_zero, List.set_cons_succ]))
          (refine wpAnyH_take (i := 4) (v := ?_) rfl (by kernel_rfl) (by kernel_rfl) (by kernel_rfl) (fun _ _ _ h => h) (Or.inl ⟨by kernel_rfl, ?_⟩) (by assumption) ?_
           rotate_left
           · (intro w hSw; (try dsimp only at hSw); go_simp; (try with_reducible rfl))
           (try simp only [Act.put, List.setIfInBounds_toArray, List.set_cons_zero, List.set_cons_succ]))
          (refine wpAnyH_take (i := 5) (v := ?_) rfl (by kernel_rfl) (by kernel_rfl) (by kernel_rfl) (fun _ _ _ h => h) (Or.inl ⟨by kernel_rfl, ?_⟩) (by assumption) ?_
           rotate_left
           · (intro w hSw; (try dsimp only at hSw); go_simp; (try with_reducible rfl))
           (try simp only [Act.put, List.setIfInBounds_toArray, List.set_cons_zero, List.set_cons_succ]))
          (refine wpAnyH_take (i := 6) (v := ?_) rfl (by kernel_rfl) (by kernel_rfl) (by kernel_rfl) (fun _ _ _ h => h) (Or.inl ⟨by kernel_rfl, ?_⟩) (by assumption) ?_
           rotate_left
           · (intro w hSw; (try dsimp only at hSw); go_simp; (try with_reducible rfl))
           (try simp only [Act.put, List.setIfInBounds_toArray, List.set_cons_zero, List.set_cons_succ]))
          (refine wpAnyH_ready (rs := [8]) (by kernel_rfl) (by simp) ?_)
          refine AllReadyH.cons rfl (fun K hK => ?_) AllReadyH.nil
          (go_simp
           (refine hK.out _ _ ?_ (fun hHeld => ?_)
            · (try dsimp only); try trivial
            clear hK K
            (try simp only [Act.put, List.setIfInBounds_toArray, List.set_cons_zero, List.set_cons_succ])))
          (refine wpAnyH_ready (rs := [9]) (by kernel_rfl) (by simp) ?_)
          refine AllReadyH.cons rfl (fun K hK => ?_) AllReadyH.nil
          (go_simp
           (refine hK.out _ _ ?_ (fun hHeld => ?_)
            · (try dsimp only); try trivial
            clear hK K
            (try simp only [Act.put, List.setIfInBounds_toArray, List.set_cons_zero, List.set_cons_succ])))
          (refine wpAnyH_ready (rs := [10]) (by kernel_rfl) (by simp) ?_)
          refine AllReadyH.cons rfl (fun K hK => ?_) AllReadyH.nil
          (go_simp
           (refine hK.out _ _ ?_ (fun hHeld => ?_)
            · (try dsimp only); try trivial
            clear hK K
            (try simp only [Act.put, List.setIfInBounds_toArray, List.set_cons_zero, List.set_cons_succ])))
          refine wpAnyH_done (by kernel_rfl) ?_ _
          refine hK _ _ ?_
          refine ⟨rfl, ?_, ?_, ?_, ?_, ?_⟩
          · dsimp only; (repeat rw [Array.size_setIfInBounds]); exact hsT
          · dsimp only; (repeat rw [opq_ne _ _ _ _ _ (by decide)]); exact f2
          · dsimp only; (repeat rw [opq_ne _ _ _ _ _ (by decide)]); exact f5
          · dsimp only; (repeat rw [opq_ne _ _ _ _ _ (by decide)]); rw [opq_at _ _ 309 _ _ (by (repeat rw [Array.size_setIfInBounds]); exact hsT) (by decide)]
          · exact (by repeat (first | with_reducible exact Ab.refl _ | with_reducible assumption | with_reducible refine Ab.drew ?_ | with_reducible refine Ab.drewN ?_ _ | with_reducible refine Ab.alloc ?_ _ | with_reducible refine Ab.trans ?_ (by assumption) | with_reducible refine Ab.set ?_ (by first | (simp; done) | omega | (simp; omega)) _))
  ·
    (go_simp
     (refine hK.out _ _ ?_ (fun hHeld => ?_)
      · (try dsimp only); try trivial
      clear hK K
      (try simp only [Act.put, List.setIfInBounds_toArray, List.set_cons_zero, List.set_cons_succ])))
    (refine wpAnyH_ready (rs := [0, 7]) (by kernel_rfl) (by simp) ?_)
    refine (AllReadyH.cons rfl (fun K hK => ?_) (AllReadyH.cons rfl (fun K hK => ?_) AllReadyH.nil))
    ·
      go_simp
      (go_at_call 11)
      refine (sgiven_any _).mono ?_
      rintro e wa ⟨ma, rfl, hMa, hba⟩
      have za := hba.size
      (try simp at za)
      (try go_wp2_with fail)
      (refine hK.out _ _ ?_ (fun hHeld => ?_)
       · (try dsimp only); try trivial
       clear hK K
       (try simp only [Act.put, List.setIfInBounds_toArray, List.set_cons_zero, List.set_cons_succ]))
      (refine wpAnyH_ready (rs := [2, 7]) (by kernel_rfl) (by simp) ?_)
      refine (AllReadyH.cons rfl (fun K hK => ?_) (AllReadyH.cons rfl (fun K hK => ?_) AllReadyH.nil))
      ·
        go_simp
        (go_at_call 10)
        refine (ssave_n ma Slots.G2 _ (hMa.ab (by repeat (first | with_reducible exact Ab.refl _ | with_reducible assumption | with_reducible refine Ab.drew ?_ | with_reducible refine Ab.drewN ?_ _ | with_reducible refine Ab.alloc ?_ _ | with_reducible refine Ab.trans ?_ (by assumption) | with_reducible refine Ab.set ?_ (by first | (simp; done) | omega | (simp; omega)) _))) (some ⟨wr.heap.size, 0, none⟩) b1 89 kk1.out 89 ((yy1.out _ _ (0, 0) (by (repeat (first | exact new_plain (by first | (simp; done) | omega | (simp; omega)) | with_reducible refine old_alloc ?_ | with_reducible refine old_drew ?_ | with_reducible refine old_set ?_ (by first | (simp; done) | omega | (simp; omega)) | with_reducible refine old_ab (by assumption) ?_))))) (by omega)).mono ?_
        rintro e wb ⟨rb, nb, eb, mb, hb, rfl, hMb, hbb⟩
        have hmb := (Prod.mk.inj (hb.out.trans (Slots.nm_full b1 kk1.out))).2
        obtain ⟨rfl, rfl⟩ := Prod.mk.inj hmb
        clear hb hmb hMb
        have zb := hbb.size
        (try simp at zb)
        (try go_wp2_with fail)
        (refine hK.out _ _ ?_ (fun hHeld => ?_)
         · (try dsimp only); try trivial
         clear hK K
         (try simp only [Act.put, List.setIfInBounds_toArray, List.set_cons_zero, List.set_cons_succ]))
        (refine wpAnyH_take (i := 3) (v := ?_) rfl (by kernel_rfl) (by kernel_rfl) (by kernel_rfl) (fun _ _ _ h => h) (Or.inl ⟨by kernel_rfl, ?_⟩) (by assumption) ?_
         rotate_left
         · (intro w hSw; (try dsimp only at hSw); go_simp; (try with_reducible rfl))
         (try simp only [Act.put, List.setIfInBounds_toArray, List.set_cons_zero, List.set_cons_succ]))
        (refine wpAnyH_take (i := 4) (v := ?_) rfl (by kernel_rfl) (by kernel_rfl) (by kernel_rfl) (fun _ _ _ h => h) (Or.inl ⟨by kernel_rfl, ?_⟩) (by assumption) ?_
         rotate_left
         · (intro w hSw; (try dsimp only at hSw); go_simp; (try with_reducible rfl))
         (try simp only [Act.put, List.setIfInBounds_toArray, List.set_cons_zero, List.set_cons_succ]))
        (refine wpAnyH_take (i := 5) (v := ?_) rfl (by kernel_rfl) (by kernel_rfl) (by kernel_rfl) (fun _ _ _ h => h) (Or.inl ⟨by kernel_rfl, ?_⟩) (by assumption) ?_
         rotate_left
         · (intro w hSw; (try dsimp only at hSw); go_simp; (try with_reducible rfl))
         (try simp only [Act.put, List.setIfInBounds_toArray, List.set_cons_zero, List.set_cons_succ]))
        (refine wpAnyH_take (i := 6) (v := ?_) rfl (by kernel_rfl) (by kernel_rfl) (by kernel_rfl) (fun _ _ _ h => h) (Or.inl ⟨by kernel_rfl, ?_⟩) (by assumption) ?_
         rotate_left
         · (intro w hSw; (try dsimp only at hSw); go_simp; (try with_reducible rfl))
         (try simp only [Act.put, List.setIfInBounds_toArray, List.set_cons_zero, List.set_cons_succ]))
        (refine wpAnyH_ready (rs := [7]) (by kernel_rfl) (by simp) ?_)
        refine AllReadyH.cons rfl (fun K hK => ?_) AllReadyH.nil
        (go_simp
         (refine hK.out _ _ ?_ (fun hHeld => ?_)
          · (try dsimp only); try trivial
          clear hK K
          (try simp only [Act.put, List.setIfInBounds_toArray, List.set_cons_zero, List.set_cons_succ])))
        (refine wpAnyH_ready (rs := [8]) (by kernel_rfl) (by simp) ?_)
        refine AllReadyH.cons rfl (fun K hK => ?_) AllReadyH.nil
        (go_simp
         (refine hK.out _ _ ?_ (fun hHeld => ?_)
          · (try dsimp only); try trivial
          clear hK K
          (try simp only [Act.put, List.setIfInBounds_toArray, List.set_cons_zero, List.set_cons_succ])))
        (refine wpAnyH_ready (rs := [9]) (by kernel_rfl) (by simp) ?_)
        refine AllReadyH.cons rfl (fun K hK => ?_) AllReadyH.nil
        (go_simp
         (refine hK.out _ _ ?_ (fun hHeld => ?_)
          · (try dsimp only); try trivial
          clear hK K
          (try simp only [Act.put, List.setIfInBounds_toArray, List.set_cons_zero, List.set_cons_succ])))
        (refine wpAnyH_ready (rs := [10]) (by kernel_rfl) (by simp) ?_)
        refine AllReadyH.cons rfl (fun K hK => ?_) AllReadyH.nil
        (go_simp
         (refine hK.out _ _ ?_ (fun hHeld => ?_)
          · (try dsimp only); try trivial
          clear hK K
          (try simp only [Act.put, List.setIfInBounds_toArray, List.set_cons_zero, List.set_cons_succ])))
        refine wpAnyH_done (by kernel_rfl) ?_ _
        refine hK _ _ ?_
        refine ⟨rfl, ?_, ?_, ?_, ?_, ?_⟩
        · dsimp only; (repeat rw [Array.size_setIfInBounds]); exact hsT
        · dsimp only; (repeat rw [opq_ne _ _ _ _ _ (by decide)]); exact f2
        · dsimp only; (repeat rw [opq_ne _ _ _ _ _ (by decide)]); exact f5
        · dsimp only; (repeat rw [opq_ne _ _ _ _ _ (by decide)]); rw [opq_at _ _ 309 _ _ (by (repeat rw [Array.size_setIfInBounds]); exact hsT) (by decide)]
        · exact (by repeat (first | with_reducible exact Ab.refl _ | with_reducible assumption | with_reducible refine Ab.drew ?_ | with_reducible refine Ab.drewN ?_ _ | with_reducible refine Ab.alloc ?_ _ | with_reducible refine Ab.trans ?_ (by assumption) | with_reducible refine Ab.set ?_ (by first | (simp; done) | omega | (simp; omega)) _))
      ·
        (go_simp
         (refine hK.out _ _ ?_ (fun hHeld => ?_)
          · (try dsimp only); try trivial
          clear hK K
          (try simp only [Act.put, List.setIfInBounds_toArray, List.set_cons_zero, List.set_cons_succ])))
        (refine wpAnyH_ready (rs := [2]) (by kernel_rfl) (by simp) ?_)
        refine (AllReadyH.cons rfl (fun K hK => ?_) AllReadyH.nil)
        ·
          go_simp
          (go_at_call 10)
          refine (ssave_n ma Slots.G2 _ (hMa.ab (by repeat (first | with_reducible exact Ab.refl _ | with_reducible assumption | with_reducible refine Ab.drew ?_ | with_reducible refine Ab.drewN ?_ _ | with_reducible refine Ab.alloc ?_ _ | with_reducible refine Ab.trans ?_ (by assumption) | with_reducible refine Ab.set ?_ (by first | (simp; done) | omega | (simp; omega)) _))) (some ⟨wr.heap.size, 0, none⟩) b1 89 kk1.out 89 ((yy1.out _ _ (0, 0) (by (repeat (first | exact new_plain (by first | (simp; done) | omega | (simp; omega)) | with_reducible refine old_alloc ?_ | with_reducible refine old_drew ?_ | with_reducible refine old_set ?_ (by first | (simp; done) | omega | (simp; omega)) | with_reducible refine old_ab (by assumption) ?_))))) (by omega)).mono ?_
          rintro e wb ⟨rb, nb, eb, mb, hb, rfl, hMb, hbb⟩
          have hmb := (Prod.mk.inj (hb.out.trans (Slots.nm_full b1 kk1.out))).2
          obtain ⟨rfl, rfl⟩ := Prod.mk.inj hmb
          clear hb hmb hMb
          have zb := hbb.size
          (try simp at zb)
          have xq0 : wb.cell? ⟨wa.heap.size, 0, none⟩ = some (.slice none 0 0) := hbb.at (by (repeat (first | with_reducible assumption | (simp [go_sem]; done) | with_reducible apply cell_alloc | with_reducible apply cell_drew | with_reducible apply cell_drewN | (with_reducible apply Ab.at; with_reducible assumption) | (with_reducible refine cell_set ?_ ?_; rotate_left; focus (first | (simp; done) | (simp; omega))) | (with_reducible refine cell_setb ?_ ?_; rotate_left; focus (first | omega | (simp only; omega) | (simp; omega)))))); have xq1 : wb.cell? ⟨wa.heap.size, 1, none⟩ = some (.slice none 0 0) := hbb.at (by (repeat (first | with_reducible assumption | (simp [go_sem]; done) | with_reducible apply cell_alloc | with_reducible apply cell_drew | with_reducible apply cell_drewN | (with_reducible apply Ab.at; with_reducible assumption) | (with_reducible refine cell_set ?_ ?_; rotate_left; focus (first | (simp; done) | (simp; omega))) | (with_reducible refine cell_setb ?_ ?_; rotate_left; focus (first | omega | (simp only; omega) | (simp; omega)))))); have xq2 : wb.cell? ⟨wa.heap.size, 2, none⟩ = some (.int .i64 0) := hbb.at (by (repeat (first | with_reducible assumption | (simp [go_sem]; done) | with_reducible apply cell_alloc | with_reducible apply cell_drew | with_reducible apply cell_drewN | (with_reducible apply Ab.at; with_reducible assumption) | (with_reducible refine cell_set ?_ ?_; rotate_left; focus (first | (simp; done) | (simp; omega))) | (with_reducible refine cell_setb ?_ ?_; rotate_left; focus (first | omega | (simp only; omega) | (simp; omega)))))); have xq3 : wb.cell? ⟨wa.heap.size, 3, none⟩ = some (.bool false) := hbb.at (by (repeat (first | with_reducible assumption | (simp [go_sem]; done) | with_reducible apply cell_alloc | with_reducible apply cell_drew | with_reducible apply cell_drewN | (with_reducible apply Ab.at; with_reducible assumption) | (with_reducible refine cell_set ?_ ?_; rotate_left; focus (first | (simp; done) | (simp; omega))) | (with_reducible refine cell_setb ?_ ?_; rotate_left; focus (first | omega | (simp only; omega) | (simp; omega)))))); have xq4 : wb.cell? ⟨wa.heap.size, 4, none⟩ = some (.slice none 0 0) := hbb.at (by (repeat (first | with_reducible assumption | (simp [go_sem]; done) | with_reducible apply cell_alloc | with_reducible apply cell_drew | with_reducible apply cell_drewN | (with_reducible apply Ab.at; with_reducible assumption) | (with_reducible refine cell_set ?_ ?_; rotate_left; focus (first | (simp; done) | (simp; omega))) | (with_reducible refine cell_setb ?_ ?_; rotate_left; focus (first | omega | (simp only; omega) | (simp; omega)))))); have xq5 : wb.cell? ⟨wa.heap.size, 5, none⟩ = some (.slice none 0 0) := hbb.at (by (repeat (first | with_reducible assumption | (simp [go_sem]; done) | with_reducible apply cell_alloc | with_reducible apply cell_drew | with_reducible apply cell_drewN | (with_reducible apply Ab.at; with_reducible assumption) | (with_reducible refine cell_set ?_ ?_; rotate_left; focus (first | (simp; done) | (simp; omega))) | (with_reducible refine cell_setb ?_ ?_; rotate_left; focus (first | omega | (simp only; omega) | (simp; omega)))))); have xq6 : wb.cell? ⟨wa.heap.size, 6, none⟩ = some (.int .i64 0) := hbb.at (by (repeat (first | with_reducible assumption | (simp [go_sem]; done) | with_reducible apply cell_alloc | with_reducible apply cell_drew | with_reducible apply cell_drewN | (with_reducible apply Ab.at; with_reducible assumption) | (with_reducible refine cell_set ?_ ?_; rotate_left; focus (first | (simp; done) | (simp; omega))) | (with_reducible refine cell_setb ?_ ?_; rotate_left; focus (first | omega | (simp only; omega) | (simp; omega)))))); have xq7 : wb.cell? ⟨wa.heap.size, 7, none⟩ = some (.bool false) := hbb.at (by (repeat (first | with_reducible assumption | (simp [go_sem]; done) | with_reducible apply cell_alloc | with_reducible apply cell_drew | with_reducible apply cell_drewN | (with_reducible apply Ab.at; with_reducible assumption) | (with_reducible refine cell_set ?_ ?_; rotate_left; focus (first | (simp; done) | (simp; omega))) | (with_reducible refine cell_setb ?_ ?_; rotate_left; focus (first | omega | (simp only; omega) | (simp; omega)))))); have xq8 : wb.cell? ⟨wa.heap.size, 8, none⟩ = some (.int .i64 0) := hbb.at (by (repeat (first | with_reducible assumption | (simp [go_sem]; done) | with_reducible apply cell_alloc | with_reducible apply cell_drew | with_reducible apply cell_drewN | (with_reducible apply Ab.at; with_reducible assumption) | (with_reducible refine cell_set ?_ ?_; rotate_left; focus (first | (simp; done) | (simp; omega))) | (with_reducible refine cell_setb ?_ ?_; rotate_left; focus (first | omega | (simp only; omega) | (simp; omega))))))
          have xr0 : wb.frozen? ⟨wa.heap.size, 0, none⟩ = false := (hbb.frozen (p := ⟨wa.heap.size, 0, none⟩) (by first | (simp; done) | omega | (simp; omega))).trans (by (repeat (first | with_reducible assumption | (simp [go_sem]; done) | (with_reducible refine fr_alloc ?_ ?_; focus (first | (simp; done) | omega | (simp; omega))) | (with_reducible refine Ab.fr (by assumption) ?_ ?_; focus (first | (simp; done) | omega | (simp; omega)))))); have xr1 : wb.frozen? ⟨wa.heap.size, 1, none⟩ = false := (hbb.frozen (p := ⟨wa.heap.size, 1, none⟩) (by first | (simp; done) | omega | (simp; omega))).trans (by (repeat (first | with_reducible assumption | (simp [go_sem]; done) | (with_reducible refine fr_alloc ?_ ?_; focus (first | (simp; done) | omega | (simp; omega))) | (with_reducible refine Ab.fr (by assumption) ?_ ?_; focus (first | (simp; done) | omega | (simp; omega)))))); have xr2 : wb.frozen? ⟨wa.heap.size, 2, none⟩ = false := (hbb.frozen (p := ⟨wa.heap.size, 2, none⟩) (by first | (simp; done) | omega | (simp; omega))).trans (by (repeat (first | with_reducible assumption | (simp [go_sem]; done) | (with_reducible refine fr_alloc ?_ ?_; focus (first | (simp; done) | omega | (simp; omega))) | (with_reducible refine Ab.fr (by assumption) ?_ ?_; focus (first | (simp; done) | omega | (simp; omega)))))); have xr3 : wb.frozen? ⟨wa.heap.size, 3, none⟩ = false := (hbb.frozen (p := ⟨wa.heap.size, 3, none⟩) (by first | (simp; done) | omega | (simp; omega))).trans (by (repeat (first | with_reducible assumption | (simp [go_sem]; done) | (with_reducible refine fr_alloc ?_ ?_; focus (first | (simp; done) | omega | (simp; omega))) | (with_reducible refine Ab.fr (by assumption) ?_ ?_; focus (first | (simp; done) | omega | (simp; omega)))))); have xr4 : wb.frozen? ⟨wa.heap.size, 4, none⟩ = false := (hbb.frozen (p := ⟨wa.heap.size, 4, none⟩) (by first | (simp; done) | omega | (simp; omega))).trans (by (repeat (first | with_reducible assumption | (simp [go_sem]; done) | (with_reducible refine fr_alloc ?_ ?_; focus (first | (simp; done) | omega | (simp; omega))) | (with_reducible refine Ab.fr (by assumption) ?_ ?_; focus (first | (simp; done) | omega | (simp; omega)))))); have xr5 : wb.frozen? ⟨wa.heap.size, 5, none⟩ = false := (hbb.frozen (p := ⟨wa.heap.size, 5, none⟩) (by first | (simp; done) | omega | (simp; omega))).trans (by (repeat (first | with_reducible assumption | (simp [go_sem]; done) | (with_reducible refine fr_alloc ?_ ?_; focus (first | (simp; done) | omega | (simp; omega))) | (with_reducible refine Ab.fr (by assumption) ?_ ?_; focus (first | (simp; done) | omega | (simp; omega)))))); have xr6 : wb.frozen? ⟨wa.heap.size, 6, none⟩ = false := (hbb.frozen (p := ⟨wa.heap.size, 6, none⟩) (by first | (simp; done) | omega | (simp; omega))).trans (by (repeat (first | with_reducible assumption | (simp [go_sem]; done) | (with_reducible refine fr_alloc ?_ ?_; focus (first | (simp; done) | omega | (simp; omega))) | (with_reducible refine Ab.fr (by assumption) ?_ ?_; focus (first | (simp; done) | omega | (simp; omega)))))); have xr7 : wb.frozen? ⟨wa.heap.size, 7, none⟩ = false := (hbb.frozen (p := ⟨wa.heap.size, 7, none⟩) (by first | (simp; done) | omega | (simp; omega))).trans (by (repeat (first | with_reducible assumption | (simp [go_sem]; done) | (with_reducible refine fr_alloc ?_ ?_; focus (first | (simp; done) | omega | (simp; omega))) | (with_reducible refine Ab.fr (by assumption) ?_ ?_; focus (first | (simp; done) | omega | (simp; omega)))))); have xr8 : wb.frozen? ⟨wa.heap.size, 8, none⟩ = false := (hbb.frozen (p := ⟨wa.heap.size, 8, none⟩) (by first | (simp; done) | omega | (simp; omega))).trans (by (repeat (first | with_reducible assumption | (simp [go_sem]; done) | (with_reducible refine fr_alloc ?_ ?_; focus (first | (simp; done) | omega | (simp; omega))) | (with_reducible refine Ab.fr (by assumption) ?_ ?_; focus (first | (simp; done) | omega | (simp; omega))))))
          have xna := fun (o : Obj) (j : Nat) => World.cell?_alloc_lt wb o ⟨wa.heap.size, j, none⟩ (by first | (simp; done) | omega | (simp; omega))
          have xnb := fun (o : Obj) (j : Nat) => ((Ab.refl wb).alloc o).frozen (p := ⟨wa.heap.size, j, none⟩) (by first | (simp; done) | omega | (simp; omega))
          (try go_wp2_with fail)
          (refine hK.out _ _ ?_ (fun hHeld => ?_)
           · (try dsimp only); try trivial
           clear hK K
           (try simp only [Act.put, List.setIfInBounds_toArray, List.set_cons_zero, List.set_cons_succ]))
          (refine wpAnyH_take (i := 3) (v := ?_) rfl (by kernel_rfl) (by kernel_rfl) (by kernel_rfl) (fun _ _ _ h => h) (Or.inl ⟨by kernel_rfl, ?_⟩) (by assumption) ?_
           rotate_left
           · (intro w hSw; (try dsimp only at hSw); go_simp; (try with_reducible rfl))
           (try simp only [Act.put, List.setIfInBounds_toArray, List.set_cons_zero, List.set_cons_succ]))
          (refine wpAnyH_take (i := 4) (v := ?_) rfl (by kernel_rfl) (by kernel_rfl) (by kernel_rfl) (fun _ _ _ h => h) (Or.inl ⟨by kernel_rfl, ?_⟩) (by assumption) ?_
           rotate_left
           · (intro w hSw; (try dsimp only at hSw); go_simp; (try with_reducible rfl))
           (try simp only [Act.put, List.setIfInBounds_toArray, List.set_cons_zero, List.set_cons_succ]))
          (refine wpAnyH_take (i := 5) (v := ?_) rfl (by kernel_rfl) (by kernel_rfl) (by kernel_rfl) (fun _ _ _ h => h) (Or.inl ⟨by kernel_rfl, ?_⟩) (by assumption) ?_
           rotate_left
           · (intro w hSw; (try dsimp only at hSw); go_simp; (try with_reducible rfl))
           (try simp only [Act.put, List.setIfInBounds_toArray, List.set_cons_zero, List.set_cons_succ]))
          (refine wpAnyH_take (i := 6) (v := ?_) rfl (by kernel_rfl) (by kernel_rfl) (by kernel_rfl) (fun _ _ _ h => h) (Or.inl ⟨by kernel_rfl, ?_⟩) (by assumption) ?_
           rotate_left
           · (intro w hSw; (try dsimp only at hSw); go_simp; (try with_reducible rfl))
           (try simp only [Act.put, List.setIfInBounds_toArray, List.set_cons_zero, List.set_cons_succ]))
          (refine wpAnyH_ready (rs := [8]) (by kernel_rfl) (by simp) ?_)
          refine AllReadyH.cons rfl (fun K hK => ?_) AllReadyH.nil
          (go_simp
           (refine hK.out _ _ ?_ (fun hHeld => ?_)
            · (try dsimp only); try trivial
            clear hK K
            (try simp only [Act.put, List.setIfInBounds_toArray, List.set_cons_zero, List.set_cons_succ])))
          (refine wpAnyH_ready (rs := [9]) (by kernel_rfl) (by simp) ?_)
          refine AllReadyH.cons rfl (fun K hK => ?_) AllReadyH.nil
          (go_simp
           (refine hK.out _ _ ?_ (fun hHeld => ?_)
            · (try dsimp only); try trivial
            clear hK K
            (try simp only [Act.put, List.setIfInBounds_toArray, List.set_cons_zero, List.set_cons_succ])))
          (refine wpAnyH_ready (rs := [10]) (by kernel_rfl) (by simp) ?_)
          refine AllReadyH.cons rfl (fun K hK => ?_) AllReadyH.nil
          (go_simp
           (refine hK.out _ _ ?_ (fun hHeld => ?_)
            · (try dsimp only); try trivial
            clear hK K
            (try simp only [Act.put, List.setIfInBounds_toArray, List.set_cons_zero, List.set_cons_succ])))
          refine wpAnyH_done (by kernel_rfl) ?_ _
          refine hK _ _ ?_
          refine ⟨rfl, ?_, ?_, ?_, ?_, ?_⟩
          · dsimp only; (repeat rw [Array.size_setIfInBounds]); exact hsT
          · dsimp only; (repeat rw [opq_ne _ _ _ _ _ (by decide)]); exact f2
          · dsimp only; (repeat rw [opq_ne _ _ _ _ _ (by decide)]); exact f5
          · dsimp only; (repeat rw [opq_ne _ _ _ _ _ (by decide)]); rw [opq_at _ _ 309 _ _ (by (repeat rw [Array.size_setIfInBounds]); exact hsT) (by decide)]
          · exact (by repeat (first | with_reducible exact Ab.refl _ | with_reducible assumption | with_reducible refine Ab.drew ?_ | with_reducible refine Ab.drewN ?_ _ | with_reducible refine Ab.alloc ?_ _ | with_reducible refine Ab.trans ?_ (by assumption) | with_reducible refine Ab.set ?_ (by first | (simp; done) | omega | (simp; omega)) _))
    ·
      (go_simp
       (refine hK.out _ _ ?_ (fun hHeld => ?_)
        · (try dsimp only); try trivial
        clear hK K
        (try simp only [Act.put, List.setIfInBounds_toArray, List.set_cons_zero, List.set_cons_succ])))
      (refine wpAnyH_ready (rs := [0]) (by kernel_rfl) (by simp) ?_)
      refine (AllReadyH.cons rfl (fun K hK => ?_) AllReadyH.nil)
      ·
        go_simp
        (go_at_call 11)
        refine (sgiven_any _).mono ?_
        rintro e wa ⟨ma, rfl, hMa, hba⟩
        have za := hba.size
        (try simp at za)
        have yq0 : wa.cell? ⟨wr.heap.size + 1, 0, none⟩ = some (.slice none 0 0) := hba.at (by (repeat (first | with_reducible assumption | (simp [go_sem]; done) | with_reducible apply cell_alloc | with_reducible apply cell_drew | with_reducible apply cell_drewN | (with_reducible apply Ab.at; with_reducible assumption) | (with_reducible refine cell_set ?_ ?_; rotate_left; focus (first | (simp; done) | (simp; omega))) | (with_reducible refine cell_setb ?_ ?_; rotate_left; focus (first | omega | (simp only; omega) | (simp; omega)))))); have yq1 : wa.cell? ⟨wr.heap.size + 1, 1, none⟩ = some (.slice none 0 0) := hba.at (by (repeat (first | with_reducible assumption | (simp [go_sem]; done) | with_reducible apply cell_alloc | with_reducible apply cell_drew | with_reducible apply cell_drewN | (with_reducible apply Ab.at; with_reducible assumption) | (with_reducible refine cell_set ?_ ?_; rotate_left; focus (first | (simp; done) | (simp; omega))) | (with_reducible refine cell_setb ?_ ?_; rotate_left; focus (first | omega | (simp only; omega) | (simp; omega)))))); have yq2 : wa.cell? ⟨wr.heap.size + 1, 2, none⟩ = some (.int .i64 0) := hba.at (by (repeat (first | with_reducible assumption | (simp [go_sem]; done) | with_reducible apply cell_alloc | with_reducible apply cell_drew | with_reducible apply cell_drewN | (with_reducible apply Ab.at; with_reducible assumption) | (with_reducible refine cell_set ?_ ?_; rotate_left; focus (first | (simp; done) | (simp; omega))) | (with_reducible refine cell_setb ?_ ?_; rotate_left; focus (first | omega | (simp only; omega) | (simp; omega)))))); have yq3 : wa.cell? ⟨wr.heap.size + 1, 3, none⟩ = some (.bool false) := hba.at (by (repeat (first | with_reducible assumption | (simp [go_sem]; done) | with_reducible apply cell_alloc | with_reducible apply cell_drew | with_reducible apply cell_drewN | (with_reducible apply Ab.at; with_reducible assumption) | (with_reducible refine cell_set ?_ ?_; rotate_left; focus (first | (simp; done) | (simp; omega))) | (with_reducible refine cell_setb ?_ ?_; rotate_left; focus (first | omega | (simp only; omega) | (simp; omega)))))); have yq4 : wa.cell? ⟨wr.heap.size + 1, 4, none⟩ = some (.slice none 0 0) := hba.at (by (repeat (first | with_reducible assumption | (simp [go_sem]; done) | with_reducible apply cell_alloc | with_reducible apply cell_drew | with_reducible apply cell_drewN | (with_reducible apply Ab.at; with_reducible assumption) | (with_reducible refine cell_set ?_ ?_; rotate_left; focus (first | (simp; done) | (simp; omega))) | (with_reducible refine cell_setb ?_ ?_; rotate_left; focus (first | omega | (simp only; omega) | (simp; omega)))))); have yq5 : wa.cell? ⟨wr.heap.size + 1, 5, none⟩ = some (.slice none 0 0) := hba.at (by (repeat (first | with_reducible assumption | (simp [go_sem]; done) | with_reducible apply cell_alloc | with_reducible apply cell_drew | with_reducible apply cell_drewN | (with_reducible apply Ab.at; with_reducible assumption) | (with_reducible refine cell_set ?_ ?_; rotate_left; focus (first | (simp; done) | (simp; omega))) | (with_reducible refine cell_setb ?_ ?_; rotate_left; focus (first | omega | (simp only; omega) | (simp; omega)))))); have yq6 : wa.cell? ⟨wr.heap.size + 1, 6, none⟩ = some (.int .i64 0) := hba.at (by (repeat (first | with_reducible assumption | (simp [go_sem]; done) | with_reducible apply cell_alloc | with_reducible apply cell_drew | with_reducible apply cell_drewN | (with_reducible apply Ab.at; with_reducible assumption) | (with_reducible refine cell_set ?_ ?_; rotate_left; focus (first | (simp; done) | (simp; omega))) | (with_reducible refine cell_setb ?_ ?_; rotate_left; focus (first | omega | (simp only; omega) | (simp; omega)))))); have yq7 : wa.cell? ⟨wr.heap.size + 1, 7, none⟩ = some (.bool false) := hba.at (by (repeat (first | with_reducible assumption | (simp [go_sem]; done) | with_reducible apply cell_alloc | with_reducible apply cell_drew | with_reducible apply cell_drewN | (with_reducible apply Ab.at; with_reducible assumption) | (with_reducible refine cell_set ?_ ?_; rotate_left; focus (first | (simp; done) | (simp; omega))) | (with_reducible refine cell_setb ?_ ?_; rotate_left; focus (first | omega | (simp only; omega) | (simp; omega)))))); have yq8 : wa.cell? ⟨wr.heap.size + 1, 8, none⟩ = some (.int .i64 0) := hba.at (by (repeat (first | with_reducible assumption | (simp [go_sem]; done) | with_reducible apply cell_alloc | with_reducible apply cell_drew | with_reducible apply cell_drewN | (with_reducible apply Ab.at; with_reducible assumption) | (with_reducible refine cell_set ?_ ?_; rotate_left; focus (first | (simp; done) | (simp; omega))) | (with_reducible refine cell_setb ?_ ?_; rotate_left; focus (first | omega | (simp only; omega) | (simp; omega))))))
        have yr0 : wa.frozen? ⟨wr.heap.size + 1, 0, none⟩ = false := (hba.frozen (p := ⟨wr.heap.size + 1, 0, none⟩) (by first | (simp; done) | omega | (simp; omega))).trans (by (repeat (first | with_reducible assumption | (simp [go_sem]; done) | (with_reducible refine fr_alloc ?_ ?_; focus (first | (simp; done) | omega | (simp; omega))) | (with_reducible refine Ab.fr (by assumption) ?_ ?_; focus (first | (simp; done) | omega | (simp; omega)))))); have yr1 : wa.frozen? ⟨wr.heap.size + 1, 1, none⟩ = false := (hba.frozen (p := ⟨wr.heap.size + 1, 1, none⟩) (by first | (simp; done) | omega | (simp; omega))).trans (by (repeat (first | with_reducible assumption | (simp [go_sem]; done) | (with_reducible refine fr_alloc ?_ ?_; focus (first | (simp; done) | omega | (simp; omega))) | (with_reducible refine Ab.fr (by assumption) ?_ ?_; focus (first | (simp; done) | omega | (simp; omega)))))); have yr2 : wa.frozen? ⟨wr.heap.size + 1, 2, none⟩ = false := (hba.frozen (p := ⟨wr.heap.size + 1, 2, none⟩) (by first | (simp; done) | omega | (simp; omega))).trans (by (repeat (first | with_reducible assumption | (simp [go_sem]; done) | (with_reducible refine fr_alloc ?_ ?_; focus (first | (simp; done) | omega | (simp; omega))) | (with_reducible refine Ab.fr (by assumption) ?_ ?_; focus (first | (simp; done) | omega | (simp; omega)))))); have yr3 : wa.frozen? ⟨wr.heap.size + 1, 3, none⟩ = false := (hba.frozen (p := ⟨wr.heap.size + 1, 3, none⟩) (by first | (simp; done) | omega | (simp; omega))).trans (by (repeat (first | with_reducible assumption | (simp [go_sem]; done) | (with_reducible refine fr_alloc ?_ ?_; focus (first | (simp; done) | omega | (simp; omega))) | (with_reducible refine Ab.fr (by assumption) ?_ ?_; focus (first | (simp; done) | omega | (simp; omega)))))); have yr4 : wa.frozen? ⟨wr.heap.size + 1, 4, none⟩ = false := (hba.frozen (p := ⟨wr.heap.size + 1, 4, none⟩) (by first | (simp; done) | omega | (simp; omega))).trans (by (repeat (first | with_reducible assumption | (simp [go_sem]; done) | (with_reducible refine fr_alloc ?_ ?_; focus (first | (simp; done) | omega | (simp; omega))) | (with_reducible refine Ab.fr (by assumption) ?_ ?_; focus (first | (simp; done) | omega | (simp; omega)))))); have yr5 : wa.frozen? ⟨wr.heap.size + 1, 5, none⟩ = false := (hba.frozen (p := ⟨wr.heap.size + 1, 5, none⟩) (by first | (simp; done) | omega | (simp; omega))).trans (by (repeat (first | with_reducible assumption | (simp [go_sem]; done) | (with_reducible refine fr_alloc ?_ ?_; focus (first | (simp; done) | omega | (simp; omega))) | (with_reducible refine Ab.fr (by assumption) ?_ ?_; focus (first | (simp; done) | omega | (simp; omega)))))); have yr6 : wa.frozen? ⟨wr.heap.size + 1, 6, none⟩ = false := (hba.frozen (p := ⟨wr.heap.size + 1, 6, none⟩) (by first | (simp; done) | omega | (simp; omega))).trans (by (repeat (first | with_reducible assumption | (simp [go_sem]; done) | (with_reducible refine fr_alloc ?_ ?_; focus (first | (simp; done) | omega | (simp; omega))) | (with_reducible refine Ab.fr (by assumption) ?_ ?_; focus (first | (simp; done) | omega | (simp; omega)))))); have yr7 : wa.frozen? ⟨wr.heap.size + 1, 7, none⟩ = false := (hba.frozen (p := ⟨wr.heap.size + 1, 7, none⟩) (by first | (simp; done) | omega | (simp; omega))).trans (by (repeat (first | with_reducible assumption | (simp [go_sem]; done) | (with_reducible refine fr_alloc ?_ ?_; focus (first | (simp; done) | omega | (simp; omega))) | (with_reducible refine Ab.fr (by assumption) ?_ ?_; focus (first | (simp; done) | omega | (simp; omega)))))); have yr8 : wa.frozen? ⟨wr.heap.size + 1, 8, none⟩ = false := (hba.frozen (p := ⟨wr.heap.size + 1, 8, none⟩) (by first | (simp; done) | omega | (simp; omega))).trans (by (repeat (first | with_reducible assumption | (simp [go_sem]; done) | (with_reducible refine fr_alloc ?_ ?_; focus (first | (simp; done) | omega | (simp; omega))) | (with_reducible refine Ab.fr (by assumption) ?_ ?_; focus (first | (simp; done) | omega | (simp; omega))))))
        have yna := fun (o : Obj) (j : Nat) => World.cell?_alloc_lt wa o ⟨wr.heap.size + 1, j, none⟩ (by first | (simp; done) | omega | (simp; omega))
        have ynb := fun (o : Obj) (j : Nat) => ((Ab.refl wa).alloc o).frozen (p := ⟨wr.heap.size + 1, j, none⟩) (by first | (simp; done) | omega | (simp; omega))
        (try go_wp2_with fail)
        (refine hK.out _ _ ?_ (fun hHeld => ?_)
         · (try dsimp only); try trivial
         clear hK K
         (try simp only [Act.put, List.setIfInBounds_toArray, List.set_cons_zero, List.set_cons_succ]))
        (refine wpAnyH_ready (rs := [2]) (by kernel_rfl) (by simp) ?_)
        refine (AllReadyH.cons rfl (fun K hK => ?_) AllReadyH.nil)
        ·
          go_simp
          (go_at_call 10)
          refine (ssave_n ma Slots.G2 _ (hMa.ab (by repeat (first | with_reducible exact Ab.refl _ | with_reducible assumption | with_reducible refine Ab.drew ?_ | with_reducible refine Ab.drewN ?_ _ | with_reducible refine Ab.alloc ?_ _ | with_reducible refine Ab.trans ?_ (by assumption) | with_reducible refine Ab.set ?_ (by first | (simp; done) | omega | (simp; omega)) _))) (some ⟨wr.heap.size, 0, none⟩) b1 89 kk1.out 89 ((yy1.out _ _ (0, 0) (by (repeat (first | exact new_plain (by first | (simp; done) | omega | (simp; omega)) | with_reducible refine old_alloc ?_ | with_reducible refine old_drew ?_ | with_reducible refine old_set ?_ (by first | (simp; done) | omega | (simp; omega)) | with_reducible refine old_ab (by assumption) ?_))))) (by omega)).mono ?_
          rintro e wb ⟨rb, nb, eb, mb, hb, rfl, hMb, hbb⟩
          have hmb := (Prod.mk.inj (hb.out.trans (Slots.nm_full b1 kk1.out))).2
          obtain ⟨rfl, rfl⟩ := Prod.mk.inj hmb
          clear hb hmb hMb
          have zb := hbb.size
          (try simp at zb)
          have xq0 : wb.cell? ⟨wr.heap.size + 1, 0, none⟩ = some (.slice none 0 0) := hbb.at (by (repeat (first | with_reducible assumption | (simp [go_sem]; done) | with_reducible apply cell_alloc | with_reducible apply cell_drew | with_reducible apply cell_drewN | (with_reducible apply Ab.at; with_reducible assumption) | (with_reducible refine cell_set ?_ ?_; rotate_left; focus (first | (simp; done) | (simp; omega))) | (with_reducible refine cell_setb ?_ ?_; rotate_left; focus (first | omega | (simp only; omega) | (simp; omega)))))); have xq1 : wb.cell? ⟨wr.heap.size + 1, 1, none⟩ = some (.slice none 0 0) := hbb.at (by (repeat (first | with_reducible assumption | (simp [go_sem]; done) | with_reducible apply cell_alloc | with_reducible apply cell_drew | with_reducible apply cell_drewN | (with_reducible apply Ab.at; with_reducible assumption) | (with_reducible refine cell_set ?_ ?_; rotate_left; focus (first | (simp; done) | (simp; omega))) | (with_reducible refine cell_setb ?_ ?_; rotate_left; focus (first | omega | (simp only; omega) | (simp; omega)))))); have xq2 : wb.cell? ⟨wr.heap.size + 1, 2, none⟩ = some (.int .i64 0) := hbb.at (by (repeat (first | with_reducible assumption | (simp [go_sem]; done) | with_reducible apply cell_alloc | with_reducible apply cell_drew | with_reducible apply cell_drewN | (with_reducible apply Ab.at; with_reducible assumption) | (with_reducible refine cell_set ?_ ?_; rotate_left; focus (first | (simp; done) | (simp; omega))) | (with_reducible refine cell_setb ?_ ?_; rotate_left; focus (first | omega | (simp only; omega) | (simp; omega)))))); have xq3 : wb.cell? ⟨wr.heap.size + 1, 3, none⟩ = some (.bool false) := hbb.at (by (repeat (first | with_reducible assumption | (simp [go_sem]; done) | with_reducible apply cell_alloc | with_reducible apply cell_drew | with_reducible apply cell_drewN | (with_reducible apply Ab.at; with_reducible assumption) | (with_reducible refine cell_set ?_ ?_; rotate_left; focus (first | (simp; done) | (simp; omega))) | (with_reducible refine cell_setb ?_ ?_; rotate_left; focus (first | omega | (simp only; omega) | (simp; omega)))))); have xq4 : wb.cell? ⟨wr.heap.size + 1, 4, none⟩ = some (.slice none 0 0) := hbb.at (by (repeat (first | with_reducible assumption | (simp [go_sem]; done) | with_reducible apply cell_alloc | with_reducible apply cell_drew | with_reducible apply cell_drewN | (with_reducible apply Ab.at; with_reducible assumption) | (with_reducible refine cell_set ?_ ?_; rotate_left; focus (first | (simp; done) | (simp; omega))) | (with_reducible refine cell_setb ?_ ?_; rotate_left; focus (first | omega | (simp only; omega) | (simp; omega)))))); have xq5 : wb.cell? ⟨wr.heap.size + 1, 5, none⟩ = some (.slice none 0 0) := hbb.at (by (repeat (first | with_reducible assumption | (simp [go_sem]; done) | with_reducible apply cell_alloc | with_reducible apply cell_drew | with_reducible apply cell_drewN | (with_reducible apply Ab.at; with_reducible assumption) | (with_reducible refine cell_set ?_ ?_; rotate_left; focus (first | (simp; done) | (simp; omega))) | (with_reducible refine cell_setb ?_ ?_; rotate_left; focus (first | omega | (simp only; omega) | (simp; omega)))))); have xq6 : wb.cell? ⟨wr.heap.size + 1, 6, none⟩ = some (.int .i64 0) := hbb.at (by (repeat (first | with_reducible assumption | (simp [go_sem]; done) | with_reducible apply cell_alloc | with_reducible apply cell_drew | with_reducible apply cell_drewN | (with_reducible apply Ab.at; with_reducible assumption) | (with_reducible refine cell_set ?_ ?_; rotate_left; focus (first | (simp; done) | (simp; omega))) | (with_reducible refine cell_setb ?_ ?_; rotate_left; focus (first | omega | (simp only; omega) | (simp; omega)))))); have xq7 : wb.cell? ⟨wr.heap.size + 1, 7, none⟩ = some (.bool false) := hbb.at (by (repeat (first | with_reducible assumption | (simp [go_sem]; done) | with_reducible apply cell_alloc | with_reducible apply cell_drew | with_reducible apply cell_drewN | (with_reducible apply Ab.at; with_reducible assumption) | (with_reducible refine cell_set ?_ ?_; rotate_left; focus (first | (simp; done) | (simp; omega))) | (with_reducible refine cell_setb ?_ ?_; rotate_left; focus (first | omega | (simp only; omega) | (simp; omega)))))); have xq8 : wb.cell? ⟨wr.heap.size + 1, 8, none⟩ = some (.int .i64 0) := hbb.at (by (repeat (first | with_reducible assumption | (simp [go_sem]; done) | with_reducible apply cell_alloc | with_reducible apply cell_drew | with_reducible apply cell_drewN | (with_reducible apply Ab.at; with_reducible assumption) | (with_reducible refine cell_set ?_ ?_; rotate_left; focus (first | (simp; done) | (simp; omega))) | (with_reducible refine cell_setb ?_ ?_; rotate_left; focus (first | omega | (simp only; omega) | (simp; omega))))))
          have xr0 : wb.frozen? ⟨wr.heap.size + 1, 0, none⟩ = false := (hbb.frozen (p := ⟨wr.heap.size + 1, 0, none⟩) (by first | (simp; done) | omega | (simp; omega))).trans (by (repeat (first | with_reducible assumption | (simp [go_sem]; done) | (with_reducible refine fr_alloc ?_ ?_; focus (first | (simp; done) | omega | (simp; omega))) | (with_reducible refine Ab.fr (by assumption) ?_ ?_; focus (first | (simp; done) | omega | (simp; omega)))))); have xr1 : wb.frozen? ⟨wr.heap.size + 1, 1, none⟩ = false := (hbb.frozen (p := ⟨wr.heap.size + 1, 1, none⟩) (by first | (simp; done) | omega | (simp; omega))).trans (by (repeat (first | with_reducible assumption | (simp [go_sem]; done) | (with_reducible refine fr_alloc ?_ ?_; focus (first | (simp; done) | omega | (simp; omega))) | (with_reducible refine Ab.fr (by assumption) ?_ ?_; focus (first | (simp; done) | omega | (simp; omega)))))); have xr2 : wb.frozen? ⟨wr.heap.size + 1, 2, none⟩ = false := (hbb.frozen (p := ⟨wr.heap.size + 1, 2, none⟩) (by first | (simp; done) | omega | (simp; omega))).trans (by (repeat (first | with_reducible assumption | (simp [go_sem]; done) | (with_reducible refine fr_alloc ?_ ?_; focus (first | (simp; done) | omega | (simp; omega))) | (with_reducible refine Ab.fr (by assumption) ?_ ?_; focus (first | (simp; done) | omega | (simp; omega)))))); have xr3 : wb.frozen? ⟨wr.heap.size + 1, 3, none⟩ = false := (hbb.frozen (p := ⟨wr.heap.size + 1, 3, none⟩) (by first | (simp; done) | omega | (simp; omega))).trans (by (repeat (first | with_reducible assumption | (simp [go_sem]; done) | (with_reducible refine fr_alloc ?_ ?_; focus (first | (simp; done) | omega | (simp; omega))) | (with_reducible refine Ab.fr (by assumption) ?_ ?_; focus (first | (simp; done) | omega | (simp; omega)))))); have xr4 : wb.frozen? ⟨wr.heap.size + 1, 4, none⟩ = false := (hbb.frozen (p := ⟨wr.heap.size + 1, 4, none⟩) (by first | (simp; done) | omega | (simp; omega))).trans (by (repeat (first | with_reducible assumption | (simp [go_sem]; done) | (with_reducible refine fr_alloc ?_ ?_; focus (first | (simp; done) | omega | (simp; omega))) | (with_reducible refine Ab.fr (by assumption) ?_ ?_; focus (first | (simp; done) | omega | (simp; omega)))))); have xr5 : wb.frozen? ⟨wr.heap.size + 1, 5, none⟩ = false := (hbb.frozen (p := ⟨wr.heap.size + 1, 5, none⟩) (by first | (simp; done) | omega | (simp; omega))).trans (by (repeat (first | with_reducible assumption | (simp [go_sem]; done) | (with_reducible refine fr_alloc ?_ ?_; focus (first | (simp; done) | omega | (simp; omega))) | (with_reducible refine Ab.fr (by assumption) ?_ ?_; focus (first | (simp; done) | omega | (simp; omega)))))); have xr6 : wb.frozen? ⟨wr.heap.size + 1, 6, none⟩ = false := (hbb.frozen (p := ⟨wr.heap.size + 1, 6, none⟩) (by first | (simp; done) | omega | (simp; omega))).trans (by (repeat (first | with_reducible assumption | (simp [go_sem]; done) | (with_reducible refine fr_alloc ?_ ?_; focus (first | (simp; done) | omega | (simp; omega))) | (with_reducible refine Ab.fr (by assumption) ?_ ?_; focus (first | (simp; done) | omega | (simp; omega)))))); have xr7 : wb.frozen? ⟨wr.heap.size + 1, 7, none⟩ = false := (hbb.frozen (p := ⟨wr.heap.size + 1, 7, none⟩) (by first | (simp; done) | omega | (simp; omega))).trans (by (repeat (first | with_reducible assumption | (simp [go_sem]; done) | (with_reducible refine fr_alloc ?_ ?_; focus (first | (simp; done) | omega | (simp; omega))) | (with_reducible refine Ab.fr (by assumption) ?_ ?_; focus (first | (simp; done) | omega | (simp; omega)))))); have xr8 : wb.frozen? ⟨wr.heap.size + 1, 8, none⟩ = false := (hbb.frozen (p := ⟨wr.heap.size + 1, 8, none⟩) (by first | (simp; done) | omega | (simp; omega))).trans (by (repeat (first | with_reducible assumption | (simp [go_sem]; done) | (with_reducible refine fr_alloc ?_ ?_; focus (first | (simp; done) | omega | (simp; omega))) | (with_reducible refine Ab.fr (by assumption) ?_ ?_; focus (first | (simp; done) | omega | (simp; omega))))))
          have xna := fun (o : Obj) (j : Nat) => World.cell?_alloc_lt wb o ⟨wr.heap.size + 1, j, none⟩ (by first | (simp; done) | omega | (simp; omega))
          have xnb := fun (o : Obj) (j : Nat) => ((Ab.refl wb).alloc o).frozen (p := ⟨wr.heap.size + 1, j, none⟩) (by first | (simp; done) | omega | (simp; omega))
          (try go_wp2_with fail)
          (refine hK.out _ _ ?_ (fun hHeld => ?_)
           · (try dsimp only); try trivial
           clear hK K
           (try simp only [Act.put, List.setIfInBounds_toArray, List.set_cons_zero, List.set_cons_succ]))
          (refine wpAnyH_take (i := 3) (v := ?_) rfl (by kernel_rfl) (by kernel_rfl) (by kernel_rfl) (fun _ _ _ h => h) (Or.inl ⟨by kernel_rfl, ?_⟩) (by assumption) ?_
           rotate_left
           · (intro w hSw; (try dsimp only at hSw); go_simp; (try with_reducible rfl))
           (try simp only [Act.put, List.setIfInBounds_toArray, List.set_cons_zero, List.set_cons_succ]))
          (refine wpAnyH_take (i := 4) (v := ?_) rfl (by kernel_rfl) (by kernel_rfl) (by kernel_rfl) (fun _ _ _ h => h) (Or.inl ⟨by kernel_rfl, ?_⟩) (by assumption) ?_
           rotate_left
           · (intro w hSw; (try dsimp only at hSw); go_simp; (try with_reducible rfl))
           (try simp only [Act.put, List.setIfInBounds_toArray, List.set_cons_zero, List.set_cons_succ]))
          (refine wpAnyH_take (i := 5) (v := ?_) rfl (by kernel_rfl) (by kernel_rfl) (by kernel_rfl) (fun _ _ _ h => h) (Or.inl ⟨by kernel_rfl, ?_⟩) (by assumption) ?_
           rotate_left
           · (intro w hSw; (try dsimp only at hSw); go_simp; (try with_reducible rfl))
           (try simp only [Act.put, List.setIfInBounds_toArray, List.set_cons_zero, List.set_cons_succ]))
          (refine wpAnyH_take (i := 6) (v := ?_) rfl (by kernel_rfl) (by kernel_rfl) (by kernel_rfl) (fun _ _ _ h => h) (Or.inl ⟨by kernel_rfl, ?_⟩) (by assumption) ?_
           rotate_left
           · (intro w hSw; (try dsimp only at hSw); go_simp; (try with_reducible rfl))
           (try simp only [Act.put, List.setIfInBounds_toArray, List.set_cons_zero, List.set_cons_succ]))
          (refine wpAnyH_ready (rs := [8]) (by kernel_rfl) (by simp) ?_)
          refine AllReadyH.cons rfl (fun K hK => ?_) AllReadyH.nil
          (go_simp
           (refine hK.out _ _ ?_ (fun hHeld => ?_)
            · (try dsimp only); try trivial
            clear hK K
            (try simp only [Act.put, List.setIfInBounds_toArray, List.set_cons_zero, List.set_cons_succ])))
          (refine wpAnyH_ready (rs := [9]) (by kernel_rfl) (by simp) ?_)
          refine AllReadyH.cons rfl (fun K hK => ?_) AllReadyH.nil
          (go_simp
           (refine hK.out _ _ ?_ (fun hHeld => ?_)
            · (try dsimp only); try trivial
            clear hK K
            (try simp only [Act.put, List.setIfInBounds_toArray, List.set_cons_zero, List.set_cons_succ])))
          (refine wpAnyH_ready (rs := [10]) (by kernel_rfl) (by simp) ?_)
          refine AllReadyH.cons rfl (fun K hK => ?_) AllReadyH.nil
          (go_simp
           (refine hK.out _ _ ?_ (fun hHeld => ?_)
            · (try dsimp only); try trivial
            clear hK K
            (try simp only [Act.put, List.setIfInBounds_toArray, List.set_cons_zero, List.set_cons_succ])))
          refine wpAnyH_done (by kernel_rfl) ?_ _
          refine hK _ _ ?_
          refine ⟨rfl, ?_, ?_, ?_, ?_, ?_⟩
          · dsimp only; (repeat rw [Array.size_setIfInBounds]); exact hsT
          · dsimp only; (repeat rw [opq_ne _ _ _ _ _ (by decide)]); exact f2
          · dsimp only; (repeat rw [opq_ne _ _ _ _ _ (by decide)]); exact f5
          · dsimp only; (repeat rw [opq_ne _ _ _ _ _ (by decide)]); rw [opq_at _ _ 309 _ _ (by (repeat rw [Array.size_setIfInBounds]); exact hsT) (by decide)]
          · exact (by repeat (first | with_reducible exact Ab.refl _ | with_reducible assumption | with_reducible refine Ab.drew ?_ | with_reducible refine Ab.drewN ?_ _ | with_reducible refine Ab.alloc ?_ _ | with_reducible refine Ab.trans ?_ (by assumption) | with_reducible refine Ab.set ?_ (by first | (simp; done) | omega | (simp; omega)) _))
  ·
    (go_simp
     (refine hK.out _ _ ?_ (fun hHeld => ?_)
      · (try dsimp only); try trivial
      clear hK K
      (try simp only [Act.put, List.setIfInBounds_toArray, List.set_cons_zero, List.set_cons_succ])))
    (refine wpAnyH_ready (rs := [0, 1]) (by kernel_rfl) (by simp) ?_)
    refine (AllReadyH.cons rfl (fun K hK => ?_) (AllReadyH.cons rfl (fun K hK => ?_) AllReadyH.nil))
    ·
      go_simp
      (go_at_call 11)
      refine (sgiven_any _).mono ?_
      rintro e wa ⟨ma, rfl, hMa, hba⟩
      have za := hba.size
      (try simp at za)
      have yq0 : wa.cell? ⟨wr.heap.size, 0, none⟩ = some (.slice none 0 0) := hba.at (by (repeat (first | with_reducible assumption | (simp [go_sem]; done) | with_reducible apply cell_alloc | with_reducible apply cell_drew | with_reducible apply cell_drewN | (with_reducible apply Ab.at; with_reducible assumption) | (with_reducible refine cell_set ?_ ?_; rotate_left; focus (first | (simp; done) | (simp; omega))) | (with_reducible refine cell_setb ?_ ?_; rotate_left; focus (first | omega | (simp only; omega) | (simp; omega)))))); have yq1 : wa.cell? ⟨wr.heap.size, 1, none⟩ = some (.slice none 0 0) := hba.at (by (repeat (first | with_reducible assumption | (simp [go_sem]; done) | with_reducible apply cell_alloc | with_reducible apply cell_drew | with_reducible apply cell_drewN | (with_reducible apply Ab.at; with_reducible assumption) | (with_reducible refine cell_set ?_ ?_; rotate_left; focus (first | (simp; done) | (simp; omega))) | (with_reducible refine cell_setb ?_ ?_; rotate_left; focus (first | omega | (simp only; omega) | (simp; omega)))))); have yq2 : wa.cell? ⟨wr.heap.size, 2, none⟩ = some (.int .i64 0) := hba.at (by (repeat (first | with_reducible assumption | (simp [go_sem]; done) | with_reducible apply cell_alloc | with_reducible apply cell_drew | with_reducible apply cell_drewN | (with_reducible apply Ab.at; with_reducible assumption) | (with_reducible refine cell_set ?_ ?_; rotate_left; focus (first | (simp; done) | (simp; omega))) | (with_reducible refine cell_setb ?_ ?_; rotate_left; focus (first | omega | (simp only; omega) | (simp; omega)))))); have yq3 : wa.cell? ⟨wr.heap.size, 3, none⟩ = some (.bool false) := hba.at (by (repeat (first | with_reducible assumption | (simp [go_sem]; done) | with_reducible apply cell_alloc | with_reducible apply cell_drew | with_reducible apply cell_drewN | (with_reducible apply Ab.at; with_reducible assumption) | (with_reducible refine cell_set ?_ ?_; rotate_left; focus (first | (simp; done) | (simp; omega))) | (with_reducible refine cell_setb ?_ ?_; rotate_left; focus (first | omega | (simp only; omega) | (simp; omega)))))); have yq4 : wa.cell? ⟨wr.heap.size, 4, none⟩ = some (.slice none 0 0) := hba.at (by (repeat (first | with_reducible assumption | (simp [go_sem]; done) | with_reducible apply cell_alloc | with_reducible apply cell_drew | with_reducible apply cell_drewN | (with_reducible apply Ab.at; with_reducible assumption) | (with_reducible refine cell_set ?_ ?_; rotate_left; focus (first | (simp; done) | (simp; omega))) | (with_reducible refine cell_setb ?_ ?_; rotate_left; focus (first | omega | (simp only; omega) | (simp; omega)))))); have yq5 : wa.cell? ⟨wr.heap.size, 5, none⟩ = some (.slice none 0 0) := hba.at (by (repeat (first | with_reducible assumption | (simp [go_sem]; done) | with_reducible apply cell_alloc | with_reducible apply cell_drew | with_reducible apply cell_drewN | (with_reducible apply Ab.at; with_reducible assumption) | (with_reducible refine cell_set ?_ ?_; rotate_left; focus (first | (simp; done) | (simp; omega))) | (with_reducible refine cell_setb ?_ ?_; rotate_left; focus (first | omega | (simp only; omega) | (simp; omega)))))); have yq6 : wa.cell? ⟨wr.heap.size, 6, none⟩ = some (.int .i64 0) := hba.at (by (repeat (first | with_reducible assumption | (simp [go_sem]; done) | with_reducible apply cell_alloc | with_reducible apply cell_drew | with_reducible apply cell_drewN | (with_reducible apply Ab.at; with_reducible assumption) | (with_reducible refine cell_set ?_ ?_; rotate_left; focus (first | (simp; done) | (simp; omega))) | (with_reducible refine cell_setb ?_ ?_; rotate_left; focus (first | omega | (simp only; omega) | (simp; omega)))))); have yq7 : wa.cell? ⟨wr.heap.size, 7, none⟩ = some (.bool false) := hba.at (by (repeat (first | with_reducible assumption | (simp [go_sem]; done) | with_reducible apply cell_alloc | with_reducible apply cell_drew | with_reducible apply cell_drewN | (with_reducible apply Ab.at; with_reducible assumption) | (with_reducible refine cell_set ?_ ?_; rotate_left; focus (first | (simp; done) | (simp; omega))) | (with_reducible refine cell_setb ?_ ?_; rotate_left; focus (first | omega | (simp only; omega) | (simp; omega)))))); have yq8 : wa.cell? ⟨wr.heap.size, 8, none⟩ = some (.int .i64 0) := hba.at (by (repeat (first | with_reducible assumption | (simp [go_sem]; done) | with_reducible apply cell_alloc | with_reducible apply cell_drew | with_reducible apply cell_drewN | (with_reducible apply Ab.at; with_reducible assumption) | (with_reducible refine cell_set ?_ ?_; rotate_left; focus (first | (simp; done) | (simp; omega))) | (with_reducible refine cell_setb ?_ ?_; rotate_left; focus (first | omega | (simp only; omega) | (simp; omega))))))
      have yr0 : wa.frozen? ⟨wr.heap.size, 0, none⟩ = false := (hba.frozen (p := ⟨wr.heap.size, 0, none⟩) (by first | (simp; done) | omega | (simp; omega))).trans (by (repeat (first | with_reducible assumption | (simp [go_sem]; done) | (with_reducible refine fr_alloc ?_ ?_; focus (first | (simp; done) | omega | (simp; omega))) | (with_reducible refine Ab.fr (by assumption) ?_ ?_; focus (first | (simp; done) | omega | (simp; omega)))))); have yr1 : wa.frozen? ⟨wr.heap.size, 1, none⟩ = false := (hba.frozen (p := ⟨wr.heap.size, 1, none⟩) (by first | (simp; done) | omega | (simp; omega))).trans (by (repeat (first | with_reducible assumption | (simp [go_sem]; done) | (with_reducible refine fr_alloc ?_ ?_; focus (first | (simp; done) | omega | (simp; omega))) | (with_reducible refine Ab.fr (by assumption) ?_ ?_; focus (first | (simp; done) | omega | (simp; omega)))))); have yr2 : wa.frozen? ⟨wr.heap.size, 2, none⟩ = false := (hba.frozen (p := ⟨wr.heap.size, 2, none⟩) (by first | (simp; done) | omega | (simp; omega))).trans (by (repeat (first | with_reducible assumption | (simp [go_sem]; done) | (with_reducible refine fr_alloc ?_ ?_; focus (first | (simp; done) | omega | (simp; omega))) | (with_reducible refine Ab.fr (by assumption) ?_ ?_; focus (first | (simp; done) | omega | (simp; omega)))))); have yr3 : wa.frozen? ⟨wr.heap.size, 3, none⟩ = false := (hba.frozen (p := ⟨wr.heap.size, 3, none⟩) (by first | (simp; done) | omega | (simp; omega))).trans (by (repeat (first | with_reducible assumption | (simp [go_sem]; done) | (with_reducible refine fr_alloc ?_ ?_; focus (first | (simp; done) | omega | (simp; omega))) | (with_reducible refine Ab.fr (by assumption) ?_ ?_; focus (first | (simp; done) | omega | (simp; omega)))))); have yr4 : wa.frozen? ⟨wr.heap.size, 4, none⟩ = false := (hba.frozen (p := ⟨wr.heap.size, 4, none⟩) (by first | (simp; done) | omega | (simp; omega))).trans (by (repeat (first | with_reducible assumption | (simp [go_sem]; done) | (with_reducible refine fr_alloc ?_ ?_; focus (first | (simp; done) | omega | (simp; omega))) | (with_reducible refine Ab.fr (by assumption) ?_ ?_; focus (first | (simp; done) | omega | (simp; omega)))))); have yr5 : wa.frozen? ⟨wr.heap.size, 5, none⟩ = false := (hba.frozen (p := ⟨wr.heap.size, 5, none⟩) (by first | (simp; done) | omega | (simp; omega))).trans (by (repeat (first | with_reducible assumption | (simp [go_sem]; done) | (with_reducible refine fr_alloc ?_ ?_; focus (first | (simp; done) | omega | (simp; omega))) | (with_reducible refine Ab.fr (by assumption) ?_ ?_; focus (first | (simp; done) | omega | (simp; omega)))))); have yr6 : wa.frozen? ⟨wr.heap.size, 6, none⟩ = false := (hba.frozen (p := ⟨wr.heap.size, 6, none⟩) (by first | (simp; done) | omega | (simp; omega))).trans (by (repeat (first | with_reducible assumption | (simp [go_sem]; done) | (with_reducible refine fr_alloc ?_ ?_; focus (first | (simp; done) | omega | (simp; omega))) | (with_reducible refine Ab.fr (by assumption) ?_ ?_; focus (first | (simp; done) | omega | (simp; omega)))))); have yr7 : wa.frozen? ⟨wr.heap.size, 7, none⟩ = false := (hba.frozen (p := ⟨wr.heap.size, 7, none⟩) (by first | (simp; done) | omega | (simp; omega))).trans (by (repeat (first | with_reducible assumption | (simp [go_sem]; done) | (with_reducible refine fr_alloc ?_ ?_; focus (first | (simp; done) | omega | (simp; omega))) | (with_reducible refine Ab.fr (by assumption) ?_ ?_; focus (first | (simp; done) | omega | (simp; omega)))))); have yr8 : wa.frozen? ⟨wr.heap.size, 8, none⟩ = false := (hba.frozen (p := ⟨wr.heap.size, 8, none⟩) (by first | (simp; done) | omega | (simp; omega))).trans (by (repeat (first | with_reducible assumption | (simp [go_sem]; done) | (with_reducible refine fr_alloc ?_ ?_; focus (first | (simp; done) | omega | (simp; omega))) | (with_reducible refine Ab.fr (by assumption) ?_ ?_; focus (first | (simp; done) | omega | (simp; omega))))))
      have yna := fun (o : Obj) (j : Nat) => World.cell?_alloc_lt wa o ⟨wr.heap.size, j, none⟩ (by first | (simp; done) | omega | (simp; omega))
      have ynb := fun (o : Obj) (j : Nat) => ((Ab.refl wa).alloc o).frozen (p := ⟨wr.heap.size, j, none⟩) (by first | (simp; done) | omega | (simp; omega))
      (try go_wp2_with fail)
      (refine hK.out _ _ ?_ (fun hHeld => ?_)
       · (try dsimp only); try trivial
       clear hK K
       (try simp only [Act.put, List.setIfInBounds_toArray, List.set_cons_zero, List.set_cons_succ]))
      (refine wpAnyH_ready (rs := [1]) (by kernel_rfl) (by simp) ?_)
      refine (AllReadyH.cons rfl (fun K hK => ?_) AllReadyH.nil)
      ·
        (go_simp
         (refine hK.out _ _ ?_ (fun hHeld => ?_)
          · (try dsimp only); try trivial
          clear hK K
          (try simp only [Act.put, List.setIfInBounds_toArray, List.set_cons_zero, List.set_cons_succ])))
        (refine wpAnyH_ready (rs := [2]) (by kernel_rfl) (by simp) ?_)
        refine (AllReadyH.cons rfl (fun K hK => ?_) AllReadyH.nil)
        ·
          go_simp
          (go_at_call 10)
          refine (ssave_n ma Slots.G2 _ (hMa.ab (by repeat (first | with_reducible exact Ab.refl _ | with_reducible assumption | with_reducible refine Ab.drew ?_ | with_reducible refine Ab.drewN ?_ _ | with_reducible refine Ab.alloc ?_ _ | with_reducible refine Ab.trans ?_ (by assumption) | with_reducible refine Ab.set ?_ (by first | (simp; done) | omega | (simp; omega)) _))) (some ⟨wa.heap.size, 0, none⟩) b1 89 kk1.out 89 ((yy1.out _ _ (0, 0) (by (repeat (first | exact new_plain (by first | (simp; done) | omega | (simp; omega)) | with_reducible refine old_alloc ?_ | with_reducible refine old_drew ?_ | with_reducible refine old_set ?_ (by first | (simp; done) | omega | (simp; omega)) | with_reducible refine old_ab (by assumption) ?_))))) (by omega)).mono ?_
          rintro e wb ⟨rb, nb, eb, mb, hb, rfl, hMb, hbb⟩
          have hmb := (Prod.mk.inj (hb.out.trans (Slots.nm_full b1 kk1.out))).2
          obtain ⟨rfl, rfl⟩ := Prod.mk.inj hmb
          clear hb hmb hMb
          have zb := hbb.size
          (try simp at zb)
          have xq0 : wb.cell? ⟨wr.heap.size, 0, none⟩ = some (.slice none 0 0) := hbb.at (by (repeat (first | with_reducible assumption | (simp [go_sem]; done) | with_reducible apply cell_alloc | with_reducible apply cell_drew | with_reducible apply cell_drewN | (with_reducible apply Ab.at; with_reducible assumption) | (with_reducible refine cell_set ?_ ?_; rotate_left; focus (first | (simp; done) | (simp; omega))) | (with_reducible refine cell_setb ?_ ?_; rotate_left; focus (first | omega | (simp only; omega) | (simp; omega)))))); have xq1 : wb.cell? ⟨wr.heap.size, 1, none⟩ = some (.slice none 0 0) := hbb.at (by (repeat (first | with_reducible assumption | (simp [go_sem]; done) | with_reducible apply cell_alloc | with_reducible apply cell_drew | with_reducible apply cell_drewN | (with_reducible apply Ab.at; with_reducible assumption) | (with_reducible refine cell_set ?_ ?_; rotate_left; focus (first | (simp; done) | (simp; omega))) | (with_reducible refine cell_setb ?_ ?_; rotate_left; focus (first | omega | (simp only; omega) | (simp; omega)))))); have xq2 : wb.cell? ⟨wr.heap.size, 2, none⟩ = some (.int .i64 0) := hbb.at (by (repeat (first | with_reducible assumption | (simp [go_sem]; done) | with_reducible apply cell_alloc | with_reducible apply cell_drew | with_reducible apply cell_drewN | (with_reducible apply Ab.at; with_reducible assumption) | (with_reducible refine cell_set ?_ ?_; rotate_left; focus (first | (simp; done) | (simp; omega))) | (with_reducible refine cell_setb ?_ ?_; rotate_left; focus (first | omega | (simp only; omega) | (simp; omega)))))); have xq3 : wb.cell? ⟨wr.heap.size, 3, none⟩ = some (.bool false) := hbb.at (by (repeat (first | with_reducible assumption | (simp [go_sem]; done) | with_reducible apply cell_alloc | with_reducible apply cell_drew | with_reducible apply cell_drewN | (with_reducible apply Ab.at; with_reducible assumption) | (with_reducible refine cell_set ?_ ?_; rotate_left; focus (first | (simp; done) | (simp; omega))) | (with_reducible refine cell_setb ?_ ?_; rotate_left; focus (first | omega | (simp only; omega) | (simp; omega)))))); have xq4 : wb.cell? ⟨wr.heap.size, 4, none⟩ = some (.slice none 0 0) := hbb.at (by (repeat (first | with_reducible assumption | (simp [go_sem]; done) | with_reducible apply cell_alloc | with_reducible apply cell_drew | with_reducible apply cell_drewN | (with_reducible apply Ab.at; with_reducible assumption) | (with_reducible refine cell_set ?_ ?_; rotate_left; focus (first | (simp; done) | (simp; omega))) | (with_reducible refine cell_setb ?_ ?_; rotate_left; focus (first | omega | (simp only; omega) | (simp; omega)))))); have xq5 : wb.cell? ⟨wr.heap.size, 5, none⟩ = some (.slice none 0 0) := hbb.at (by (repeat (first | with_reducible assumption | (simp [go_sem]; done) | with_reducible apply cell_alloc | with_reducible apply cell_drew | with_reducible apply cell_drewN | (with_reducible apply Ab.at; with_reducible assumption) | (with_reducible refine cell_set ?_ ?_; rotate_left; focus (first | (simp; done) | (simp; omega))) | (with_reducible refine cell_setb ?_ ?_; rotate_left; focus (first | omega | (simp only; omega) | (simp; omega)))))); have xq6 : wb.cell? ⟨wr.heap.size, 6, none⟩ = some (.int .i64 0) := hbb.at (by (repeat (first | with_reducible assumption | (simp [go_sem]; done) | with_reducible apply cell_alloc | with_reducible apply cell_drew | with_reducible apply cell_drewN | (with_reducible apply Ab.at; with_reducible assumption) | (with_reducible refine cell_set ?_ ?_; rotate_left; focus (first | (simp; done) | (simp; omega))) | (with_reducible refine cell_setb ?_ ?_; rotate_left; focus (first | omega | (simp only; omega) | (simp; omega)))))); have xq7 : wb.cell? ⟨wr.heap.size, 7, none⟩ = some (.bool false) := hbb.at (by (repeat (first | with_reducible assumption | (simp [go_sem]; done) | with_reducible apply cell_alloc | with_reducible apply cell_drew | with_reducible apply cell_drewN | (with_reducible apply Ab.at; with_reducible assumption) | (with_reducible refine cell_set ?_ ?_; rotate_left; focus (first | (simp; done) | (simp; omega))) | (with_reducible refine cell_setb ?_ ?_; rotate_left; focus (first | omega | (simp only; omega) | (simp; omega)))))); have xq8 : wb.cell? ⟨wr.heap.size, 8, none⟩ = some (.int .i64 0) := hbb.at (by (repeat (first | with_reducible assumption | (simp [go_sem]; done) | with_reducible apply cell_alloc | with_reducible apply cell_drew | with_reducible apply cell_drewN | (with_reducible apply Ab.at; with_reducible assumption) | (with_reducible refine cell_set ?_ ?_; rotate_left; focus (first | (simp; done) | (simp; omega))) | (with_reducible refine cell_setb ?_ ?_; rotate_left; focus (first | omega | (simp only; omega) | (simp; omega))))))
          have xr0 : wb.frozen? ⟨wr.heap.size, 0, none⟩ = false := (hbb.frozen (p := ⟨wr.heap.size, 0, none⟩) (by first | (simp; done) | omega | (simp; omega))).trans (by (repeat (first | with_reducible assumption | (simp [go_sem]; done) | (with_reducible refine fr_alloc ?_ ?_; focus (first | (simp; done) | omega | (simp; omega))) | (with_reducible refine Ab.fr (by assumption) ?_ ?_; focus (first | (simp; done) | omega | (simp; omega)))))); have xr1 : wb.frozen? ⟨wr.heap.size, 1, none⟩ = false := (hbb.frozen (p := ⟨wr.heap.size, 1, none⟩) (by first | (simp; done) | omega | (simp; omega))).trans (by (repeat (first | with_reducible assumption | (simp [go_sem]; done) | (with_reducible refine fr_alloc ?_ ?_; focus (first | (simp; done) | omega | (simp; omega))) | (with_reducible refine Ab.fr (by assumption) ?_ ?_; focus (first | (simp; done) | omega | (simp; omega)))))); have xr2 : wb.frozen? ⟨wr.heap.size, 2, none⟩ = false := (hbb.frozen (p := ⟨wr.heap.size, 2, none⟩) (by first | (simp; done) | omega | (simp; omega))).trans (by (repeat (first | with_reducible assumption | (simp [go_sem]; done) | (with_reducible refine fr_alloc ?_ ?_; focus (first | (simp; done) | omega | (simp; omega))) | (with_reducible refine Ab.fr (by assumption) ?_ ?_; focus (first | (simp; done) | omega | (simp; omega)))))); have xr3 : wb.frozen? ⟨wr.heap.size, 3, none⟩ = false := (hbb.frozen (p := ⟨wr.heap.size, 3, none⟩) (by first | (simp; done) | omega | (simp; omega))).trans (by (repeat (first | with_reducible assumption | (simp [go_sem]; done) | (with_reducible refine fr_alloc ?_ ?_; focus (first | (simp; done) | omega | (simp; omega))) | (with_reducible refine Ab.fr (by assumption) ?_ ?_; focus (first | (simp; done) | omega | (simp; omega)))))); have xr4 : wb.frozen? ⟨wr.heap.size, 4, none⟩ = false := (hbb.frozen (p := ⟨wr.heap.size, 4, none⟩) (by first | (simp; done) | omega | (simp; omega))).trans (by (repeat (first | with_reducible assumption | (simp [go_sem]; done) | (with_reducible refine fr_alloc ?_ ?_; focus (first | (simp; done) | omega | (simp; omega))) | (with_reducible refine Ab.fr (by assumption) ?_ ?_; focus (first | (simp; done) | omega | (simp; omega)))))); have xr5 : wb.frozen? ⟨wr.heap.size, 5, none⟩ = false := (hbb.frozen (p := ⟨wr.heap.size, 5, none⟩) (by first | (simp; done) | omega | (simp; omega))).trans (by (repeat (first | with_reducible assumption | (simp [go_sem]; done) | (with_reducible refine fr_alloc ?_ ?_; focus (first | (simp; done) | omega | (simp; omega))) | (with_reducible refine Ab.fr (by assumption) ?_ ?_; focus (first | (simp; done) | omega | (simp; omega)))))); have xr6 : wb.frozen? ⟨wr.heap.size, 6, none⟩ = false := (hbb.frozen (p := ⟨wr.heap.size, 6, none⟩) (by first | (simp; done) | omega | (simp; omega))).trans (by (repeat (first | with_reducible assumption | (simp [go_sem]; done) | (with_reducible refine fr_alloc ?_ ?_; focus (first | (simp; done) | omega | (simp; omega))) | (with_reducible refine Ab.fr (by assumption) ?_ ?_; focus (first | (simp; done) | omega | (simp; omega)))))); have xr7 : wb.frozen? ⟨wr.heap.size, 7, none⟩ = false := (hbb.frozen (p := ⟨wr.heap.size, 7, none⟩) (by first | (simp; done) | omega | (simp; omega))).trans (by (repeat (first | with_reducible assumption | (simp [go_sem]; done) | (with_reducible refine fr_alloc ?_ ?_; focus (first | (simp; done) | omega | (simp; omega))) | (with_reducible refine Ab.fr (by assumption) ?_ ?_; focus (first | (simp; done) | omega | (simp; omega)))))); have xr8 : wb.frozen? ⟨wr.heap.size, 8, none⟩ = false := (hbb.frozen (p := ⟨wr.heap.size, 8, none⟩) (by first | (simp; done) | omega | (simp; omega))).trans (by (repeat (first | with_reducible assumption | (simp [go_sem]; done) | (with_reducible refine fr_alloc ?_ ?_; focus (first | (simp; done) | omega | (simp; omega))) | (with_reducible refine Ab.fr (by assumption) ?_ ?_; focus (first | (simp; done) | omega | (simp; omega))))))
          have xna := fun (o : Obj) (j : Nat) => World.cell?_alloc_lt wb o ⟨wr.heap.size, j, none⟩ (by first | (simp; done) | omega | (simp; omega))
          have xnb := fun (o : Obj) (j : Nat) => ((Ab.refl wb).alloc o).frozen (p := ⟨wr.heap.size, j, none⟩) (by first | (simp; done) | omega | (simp; omega))
          (try go_wp2_with fail)
          (refine hK.out _ _ ?_ (fun hHeld => ?_)
           · (try dsimp only); try trivial
           clear hK K
           (try simp only [Act.put, List.setIfInBounds_toArray, List.set_cons_zero, List.set_cons_succ]))
          (refine wpAnyH_take (i := 3) (v := ?_) rfl (by kernel_rfl) (by kernel_rfl) (by kernel_rfl) (fun _ _ _ h => h) (Or.inl ⟨by kernel_rfl, ?_⟩) (by assumption) ?_
           rotate_left
           · (intro w hSw; (try dsimp only at hSw); go_simp; (try with_reducible rfl))
           (try simp only [Act.put, List.setIfInBounds_toArray, List.set_cons_zero, List.set_cons_succ]))
          (refine wpAnyH_take (i := 4) (v := ?_) rfl (by kernel_rfl) (by kernel_rfl) (by kernel_rfl) (fun _ _ _ h => h) (Or.inl ⟨by kernel_rfl, ?_⟩) (by assumption) ?_
           rotate_left
           · (intro w hSw; (try dsimp only at hSw); go_simp; (try with_reducible rfl))
           (try simp only [Act.put, List.setIfInBounds_toArray, List.set_cons_zero, List.set_cons_succ]))
          (refine wpAnyH_take (i := 5) (v := ?_) rfl (by kernel_rfl) (by kernel_rfl) (by kernel_rfl) (fun _ _ _ h => h) (Or.inl ⟨by kernel_rfl, ?_⟩) (by assumption) ?_
           rotate_left
           · (intro w hSw; (try dsimp only at hSw); go_simp; (try with_reducible rfl))
           (try simp only [Act.put, List.setIfInBounds_toArray, List.set_cons_zero, List.set_cons_succ]))
          (refine wpAnyH_take (i := 6) (v := ?_) rfl (by kernel_rfl) (by kernel_rfl) (by kernel_rfl) (fun _ _ _ h => h) (Or.inl ⟨by kernel_rfl, ?_⟩) (by assumption) ?_
           rotate_left
           · (intro w hSw; (try dsimp only at hSw); go_simp; (try with_reducible rfl))
           (try simp only [Act.put, List.setIfInBounds_toArray, List.set_cons_zero, List.set_cons_succ]))
          (refine wpAnyH_ready (rs := [8]) (by kernel_rfl) (by simp) ?_)
          refine AllReadyH.cons rfl (fun K hK => ?_) AllReadyH.nil
          (go_simp
           (refine hK.out _ _ ?_ (fun hHeld => ?_)
            · (try dsimp only); try trivial
            clear hK K
            (try simp only [Act.put, List.setIfInBounds_toArray, List.set_cons_zero, List.set_cons_succ])))
          (refine wpAnyH_ready (rs := [9]) (by kernel_rfl) (by simp) ?_)
          refine AllReadyH.cons rfl (fun K hK => ?_) AllReadyH.nil
          (go_simp
           (refine hK.out _ _ ?_ (fun hHeld => ?_)
            · (try dsimp only); try trivial
            clear hK K
            (try simp only [Act.put, List.setIfInBounds_toArray, List.set_cons_zero, List.set_cons_succ])))
          (refine wpAnyH_ready (rs := [10]) (by kernel_rfl) (by simp) ?_)
          refine AllReadyH.cons rfl (fun K hK => ?_) AllReadyH.nil
          (go_simp
           (refine hK.out _ _ ?_ (fun hHeld => ?_)
            · (try dsimp only); try trivial
            clear hK K
            (try simp only [Act.put, List.setIfInBounds_toArray, List.set_cons_zero, List.set_cons_succ])))
          refine wpAnyH_done (by kernel_rfl) ?_ _
          refine hK _ _ ?_
          refine ⟨rfl, ?_, ?_, ?_, ?_, ?_⟩
          · dsimp only; (repeat rw [Array.size_setIfInBounds]); exact hsT
          · dsimp only; (repeat rw [opq_ne _ _ _ _ _ (by decide)]); exact f2
          · dsimp only; (repeat rw [opq_ne _ _ _ _ _ (by decide)]); exact f5
          · dsimp only; (repeat rw [opq_ne _ _ _ _ _ (by decide)]); rw [opq_at _ _ 309 _ _ (by (repeat rw [Array.size_setIfInBounds]); exact hsT) (by decide)]
          · exact (by repeat (first | with_reducible exact Ab.refl _ | with_reducible assumption | with_reducible refine Ab.drew ?_ | with_reducible refine Ab.drewN ?_ _ | with_reducible refine Ab.alloc ?_ _ | with_reducible refine Ab.trans ?_ (by assumption) | with_reducible refine Ab.set ?_ (by first | (simp; done) | omega | (simp; omega)) _))
    ·
      (go_simp
       (refine hK.out _ _ ?_ (fun hHeld => ?_)
        · (try dsimp only); try trivial
        clear hK K
        (try simp only [Act.put, List.setIfInBounds_toArray, List.set_cons_zero, List.set_cons_succ])))
      (refine wpAnyH_ready (rs := [0]) (by kernel_rfl) (by simp) ?_)
      refine (AllReadyH.cons rfl (fun K hK => ?_) AllReadyH.nil)
      ·
        go_simp
        (go_at_call 11)
        refine (sgiven_any _).mono ?_
        rintro e wa ⟨ma, rfl, hMa, hba⟩
        have za := hba.size
        (try simp at za)
        have yq0 : wa.cell? ⟨wr.heap.size, 0, none⟩ = some (.slice none 0 0) := hba.at (by (repeat (first | with_reducible assumption | (simp [go_sem]; done) | with_reducible apply cell_alloc | with_reducible apply cell_drew | with_reducible apply cell_drewN | (with_reducible apply Ab.at; with_reducible assumption) | (with_reducible refine cell_set ?_ ?_; rotate_left; focus (first | (simp; done) | (simp; omega))) | (with_reducible refine cell_setb ?_ ?_; rotate_left; focus (first | omega | (simp only; omega) | (simp; omega)))))); have yq1 : wa.cell? ⟨wr.heap.size, 1, none⟩ = some (.slice none 0 0) := hba.at (by (repeat (first | with_reducible assumption | (simp [go_sem]; done) | with_reducible apply cell_alloc | with_reducible apply cell_drew | with_reducible apply cell_drewN | (with_reducible apply Ab.at; with_reducible assumption) | (with_reducible refine cell_set ?_ ?_; rotate_left; focus (first | (simp; done) | (simp; omega))) | (with_reducible refine cell_setb ?_ ?_; rotate_left; focus (first | omega | (simp only; omega) | (simp; omega)))))); have yq2 : wa.cell? ⟨wr.heap.size, 2, none⟩ = some (.int .i64 0) := hba.at (by (repeat (first | with_reducible assumption | (simp [go_sem]; done) | with_reducible apply cell_alloc | with_reducible apply cell_drew | with_reducible apply cell_drewN | (with_reducible apply Ab.at; with_reducible assumption) | (with_reducible refine cell_set ?_ ?_; rotate_left; focus (first | (simp; done) | (simp; omega))) | (with_reducible refine cell_setb ?_ ?_; rotate_left; focus (first | omega | (simp only; omega) | (simp; omega)))))); have yq3 : wa.cell? ⟨wr.heap.size, 3, none⟩ = some (.bool false) := hba.at (by (repeat (first | with_reducible assumption | (simp [go_sem]; done) | with_reducible apply cell_alloc | with_reducible apply cell_drew | with_reducible apply cell_drewN | (with_reducible apply Ab.at; with_reducible assumption) | (with_reducible refine cell_set ?_ ?_; rotate_left; focus (first | (simp; done) | (simp; omega))) | (with_reducible refine cell_setb ?_ ?_; rotate_left; focus (first | omega | (simp only; omega) | (simp; omega)))))); have yq4 : wa.cell? ⟨wr.heap.size, 4, none⟩ = some (.slice none 0 0) := hba.at (by (repeat (first | with_reducible assumption | (simp [go_sem]; done) | with_reducible apply cell_alloc | with_reducible apply cell_drew | with_reducible apply cell_drewN | (with_reducible apply Ab.at; with_reducible assumption) | (with_reducible refine cell_set ?_ ?_; rotate_left; focus (first | (simp; done) | (simp; omega))) | (with_reducible refine cell_setb ?_ ?_; rotate_left; focus (first | omega | (simp only; omega) | (simp; omega)))))); have yq5 : wa.cell? ⟨wr.heap.size, 5, none⟩ = some (.slice none 0 0) := hba.at (by (repeat (first | with_reducible assumption | (simp [go_sem]; done) | with_reducible apply cell_alloc | with_reducible apply cell_drew | with_reducible apply cell_drewN | (with_reducible apply Ab.at; with_reducible assumption) | (with_reducible refine cell_set ?_ ?_; rotate_left; focus (first | (simp; done) | (simp; omega))) | (with_reducible refine cell_setb ?_ ?_; rotate_left; focus (first | omega | (simp only; omega) | (simp; omega)))))); have yq6 : wa.cell? ⟨wr.heap.size, 6, none⟩ = some (.int .i64 0) := hba.at (by (repeat (first | with_reducible assumption | (simp [go_sem]; done) | with_reducible apply cell_alloc | with_reducible apply cell_drew | with_reducible apply cell_drewN | (with_reducible apply Ab.at; with_reducible assumption) | (with_reducible refine cell_set ?_ ?_; rotate_left; focus (first | (simp; done) | (simp; omega))) | (with_reducible refine cell_setb ?_ ?_; rotate_left; focus (first | omega | (simp only; omega) | (simp; omega)))))); have yq7 : wa.cell? ⟨wr.heap.size, 7, none⟩ = some (.bool false) := hba.at (by (repeat (first | with_reducible assumption | (simp [go_sem]; done) | with_reducible apply cell_alloc | with_reducible apply cell_drew | with_reducible apply cell_drewN | (with_reducible apply Ab.at; with_reducible assumption) | (with_reducible refine cell_set ?_ ?_; rotate_left; focus (first | (simp; done) | (simp; omega))) | (with_reducible refine cell_setb ?_ ?_; rotate_left; focus (first | omega | (simp only; omega) | (simp; omega)))))); have yq8 : wa.cell? ⟨wr.heap.size, 8, none⟩ = some (.int .i64 0) := hba.at (by (repeat (first | with_reducible assumption | (simp [go_sem]; done) | with_reducible apply cell_alloc | with_reducible apply cell_drew | with_reducible apply cell_drewN | (with_reducible apply Ab.at; with_reducible assumption) | (with_reducible refine cell_set ?_ ?_; rotate_left; focus (first | (simp; done) | (simp; omega))) | (with_reducible refine cell_setb ?_ ?_; rotate_left; focus (first | omega | (simp only; omega) | (simp; omega))))))
        have yr0 : wa.frozen? ⟨wr.heap.size, 0, none⟩ = false := (hba.frozen (p := ⟨wr.heap.size, 0, none⟩) (by first | (simp; done) | omega | (simp; omega))).trans (by (repeat (first | with_reducible assumption | (simp [go_sem]; done) | (with_reducible refine fr_alloc ?_ ?_; focus (first | (simp; done) | omega | (simp; omega))) | (with_reducible refine Ab.fr (by assumption) ?_ ?_; focus (first | (simp; done) | omega | (simp; omega)))))); have yr1 : wa.frozen? ⟨wr.heap.size, 1, none⟩ = false := (hba.frozen (p := ⟨wr.heap.size, 1, none⟩) (by first | (simp; done) | omega | (simp; omega))).trans (by (repeat (first | with_reducible assumption | (simp [go_sem]; done) | (with_reducible refine fr_alloc ?_ ?_; focus (first | (simp; done) | omega | (simp; omega))) | (with_reducible refine Ab.fr (by assumption) ?_ ?_; focus (first | (simp; done) | omega | (simp; omega)))))); have yr2 : wa.frozen? ⟨wr.heap.size, 2, none⟩ = false := (hba.frozen (p := ⟨wr.heap.size, 2, none⟩) (by first | (simp; done) | omega | (simp; omega))).trans (by (repeat (first | with_reducible assumption | (simp [go_sem]; done) | (with_reducible refine fr_alloc ?_ ?_; focus (first | (simp; done) | omega | (simp; omega))) | (with_reducible refine Ab.fr (by assumption) ?_ ?_; focus (first | (simp; done) | omega | (simp; omega)))))); have yr3 : wa.frozen? ⟨wr.heap.size, 3, none⟩ = false := (hba.frozen (p := ⟨wr.heap.size, 3, none⟩) (by first | (simp; done) | omega | (simp; omega))).trans (by (repeat (first | with_reducible assumption | (simp [go_sem]; done) | (with_reducible refine fr_alloc ?_ ?_; focus (first | (simp; done) | omega | (simp; omega))) | (with_reducible refine Ab.fr (by assumption) ?_ ?_; focus (first | (simp; done) | omega | (simp; omega)))))); have yr4 : wa.frozen? ⟨wr.heap.size, 4, none⟩ = false := (hba.frozen (p := ⟨wr.heap.size, 4, none⟩) (by first | (simp; done) | omega | (simp; omega))).trans (by (repeat (first | with_reducible assumption | (simp [go_sem]; done) | (with_reducible refine fr_alloc ?_ ?_; focus (first | (simp; done) | omega | (simp; omega))) | (with_reducible refine Ab.fr (by assumption) ?_ ?_; focus (first | (simp; done) | omega | (simp; omega)))))); have yr5 : wa.frozen? ⟨wr.heap.size, 5, none⟩ = false := (hba.frozen (p := ⟨wr.heap.size, 5, none⟩) (by first | (simp; done) | omega | (simp; omega))).trans (by (repeat (first | with_reducible assumption | (simp [go_sem]; done) | (with_reducible refine fr_alloc ?_ ?_; focus (first | (simp; done) | omega | (simp; omega))) | (with_reducible refine Ab.fr (by assumption) ?_ ?_; focus (first | (simp; done) | omega | (simp; omega)))))); have yr6 : wa.frozen? ⟨wr.heap.size, 6, none⟩ = false := (hba.frozen (p := ⟨wr.heap.size, 6, none⟩) (by first | (simp; done) | omega | (simp; omega))).trans (by (repeat (first | with_reducible assumption | (simp [go_sem]; done) | (with_reducible refine fr_alloc ?_ ?_; focus (first | (simp; done) | omega | (simp; omega))) | (with_reducible refine Ab.fr (by assumption) ?_ ?_; focus (first | (simp; done) | omega | (simp; omega)))))); have yr7 : wa.frozen? ⟨wr.heap.size, 7, none⟩ = false := (hba.frozen (p := ⟨wr.heap.size, 7, none⟩) (by first | (simp; done) | omega | (simp; omega))).trans (by (repeat (first | with_reducible assumption | (simp [go_sem]; done) | (with_reducible refine fr_alloc ?_ ?_; focus (first | (simp; done) | omega | (simp; omega))) | (with_reducible refine Ab.fr (by assumption) ?_ ?_; focus (first | (simp; done) | omega | (simp; omega)))))); have yr8 : wa.frozen? ⟨wr.heap.size, 8, none⟩ = false := (hba.frozen (p := ⟨wr.heap.size, 8, none⟩) (by first | (simp; done) | omega | (simp; omega))).trans (by (repeat (first | with_reducible assumption | (simp [go_sem]; done) | (with_reducible refine fr_alloc ?_ ?_; focus (first | (simp; done) | omega | (simp; omega))) | (with_reducible refine Ab.fr (by assumption) ?_ ?_; focus (first | (simp; done) | omega | (simp; omega))))))
        have yna := fun (o : Obj) (j : Nat) => World.cell?_alloc_lt wa o ⟨wr.heap.size, j, none⟩ (by first | (simp; done) | omega | (simp; omega))
        have ynb := fun (o : Obj) (j : Nat) => ((Ab.refl wa).alloc o).frozen (p := ⟨wr.heap.size, j, none⟩) (by first | (simp; done) | omega | (simp; omega))
        (try go_wp2_with fail)
        (refine hK.out _ _ ?_ (fun hHeld => ?_)
         · (try dsimp only); try trivial
         clear hK K
         (try simp only [Act.put, List.setIfInBounds_toArray, List.set_cons_zero, List.set_cons_succ]))
        (refine wpAnyH_ready (rs := [2]) (by kernel_rfl) (by simp) ?_)
        refine (AllReadyH.cons rfl (fun K hK => ?_) AllReadyH.nil)
        ·
          go_simp
          (go_at_call 10)
          refine (ssave_n ma Slots.G2 _ (hMa.ab (by repeat (first | with_reducible exact Ab.refl _ | with_reducible assumption | with_reducible refine Ab.drew ?_ | with_reducible refine Ab.drewN ?_ _ | with_reducible refine Ab.alloc ?_ _ | with_reducible refine Ab.trans ?_ (by assumption) | with_reducible refine Ab.set ?_ (by first | (simp; done) | omega | (simp; omega)) _))) (some ⟨wr.heap.size + 1, 0, none⟩) b1 89 kk1.out 89 ((yy1.out _ _ (0, 0) (by (repeat (first | exact new_plain (by first | (simp; done) | omega | (simp; omega)) | with_reducible refine old_alloc ?_ | with_reducible refine old_drew ?_ | with_reducible refine old_set ?_ (by first | (simp; done) | omega | (simp; omega)) | with_reducible refine old_ab (by assumption) ?_))))) (by omega)).mono ?_
          rintro e wb ⟨rb, nb, eb, mb, hb, rfl, hMb, hbb⟩
          have hmb := (Prod.mk.inj (hb.out.trans (Slots.nm_full b1 kk1.out))).2
          obtain ⟨rfl, rfl⟩ := Prod.mk.inj hmb
          clear hb hmb hMb
          have zb := hbb.size
          (try simp at zb)
          have xq0 : wb.cell? ⟨wr.heap.size, 0, none⟩ = some (.slice none 0 0) := hbb.at (by (repeat (first | with_reducible assumption | (simp [go_sem]; done) | with_reducible apply cell_alloc | with_reducible apply cell_drew | with_reducible apply cell_drewN | (with_reducible apply Ab.at; with_reducible assumption) | (with_reducible refine cell_set ?_ ?_; rotate_left; focus (first | (simp; done) | (simp; omega))) | (with_reducible refine cell_setb ?_ ?_; rotate_left; focus (first | omega | (simp only; omega) | (simp; omega)))))); have xq1 : wb.cell? ⟨wr.heap.size, 1, none⟩ = some (.slice none 0 0) := hbb.at (by (repeat (first | with_reducible assumption | (simp [go_sem]; done) | with_reducible apply cell_alloc | with_reducible apply cell_drew | with_reducible apply cell_drewN | (with_reducible apply Ab.at; with_reducible assumption) | (with_reducible refine cell_set ?_ ?_; rotate_left; focus (first | (simp; done) | (simp; omega))) | (with_reducible refine cell_setb ?_ ?_; rotate_left; focus (first | omega | (simp only; omega) | (simp; omega)))))); have xq2 : wb.cell? ⟨wr.heap.size, 2, none⟩ = some (.int .i64 0) := hbb.at (by (repeat (first | with_reducible assumption | (simp [go_sem]; done) | with_reducible apply cell_alloc | with_reducible apply cell_drew | with_reducible apply cell_drewN | (with_reducible apply Ab.at; with_reducible assumption) | (with_reducible refine cell_set ?_ ?_; rotate_left; focus (first | (simp; done) | (simp; omega))) | (with_reducible refine cell_setb ?_ ?_; rotate_left; focus (first | omega | (simp only; omega) | (simp; omega)))))); have xq3 : wb.cell? ⟨wr.heap.size, 3, none⟩ = some (.bool false) := hbb.at (by (repeat (first | with_reducible assumption | (simp [go_sem]; done) | with_reducible apply cell_alloc | with_reducible apply cell_drew | with_reducible apply cell_drewN | (with_reducible apply Ab.at; with_reducible assumption) | (with_reducible refine cell_set ?_ ?_; rotate_left; focus (first | (simp; done) | (simp; omega))) | (with_reducible refine cell_setb ?_ ?_; rotate_left; focus (first | omega | (simp only; omega) | (simp; omega)))))); have xq4 : wb.cell? ⟨wr.heap.size, 4, none⟩ = some (.slice none 0 0) := hbb.at (by (repeat (first | with_reducible assumption | (simp [go_sem]; done) | with_reducible apply cell_alloc | with_reducible apply cell_drew | with_reducible apply cell_drewN | (with_reducible apply Ab.at; with_reducible assumption) | (with_reducible refine cell_set ?_ ?_; rotate_left; focus (first | (simp; done) | (simp; omega))) | (with_reducible refine cell_setb ?_ ?_; rotate_left; focus (first | omega | (simp only; omega) | (simp; omega)))))); have xq5 : wb.cell? ⟨wr.heap.size, 5, none⟩ = some (.slice none 0 0) := hbb.at (by (repeat (first | with_reducible assumption | (simp [go_sem]; done) | with_reducible apply cell_alloc | with_reducible apply cell_drew | with_reducible apply cell_drewN | (with_reducible apply Ab.at; with_reducible assumption) | (with_reducible refine cell_set ?_ ?_; rotate_left; focus (first | (simp; done) | (simp; omega))) | (with_reducible refine cell_setb ?_ ?_; rotate_left; focus (first | omega | (simp only; omega) | (simp; omega)))))); have xq6 : wb.cell? ⟨wr.heap.size, 6, none⟩ = some (.int .i64 0) := hbb.at (by (repeat (first | with_reducible assumption | (simp [go_sem]; done) | with_reducible apply cell_alloc | with_reducible apply cell_drew | with_reducible apply cell_drewN | (with_reducible apply Ab.at; with_reducible assumption) | (with_reducible refine cell_set ?_ ?_; rotate_left; focus (first | (simp; done) | (simp; omega))) | (with_reducible refine cell_setb ?_ ?_; rotate_left; focus (first | omega | (simp only; omega) | (simp; omega)))))); have xq7 : wb.cell? ⟨wr.heap.size, 7, none⟩ = some (.bool false) := hbb.at (by (repeat (first | with_reducible assumption | (simp [go_sem]; done) | with_reducible apply cell_alloc | with_reducible apply cell_drew | with_reducible apply cell_drewN | (with_reducible apply Ab.at; with_reducible assumption) | (with_reducible refine cell_set ?_ ?_; rotate_left; focus (first | (simp; done) | (simp; omega))) | (with_reducible refine cell_setb ?_ ?_; rotate_left; focus (first | omega | (simp only; omega) | (simp; omega)))))); have xq8 : wb.cell? ⟨wr.heap.size, 8, none⟩ = some (.int .i64 0) := hbb.at (by (repeat (first | with_reducible assumption | (simp [go_sem]; done) | with_reducible apply cell_alloc | with_reducible apply cell_drew | with_reducible apply cell_drewN | (with_reducible apply Ab.at; with_reducible assumption) | (with_reducible refine cell_set ?_ ?_; rotate_left; focus (first | (simp; done) | (simp; omega))) | (with_reducible refine cell_setb ?_ ?_; rotate_left; focus (first | omega | (simp only; omega) | (simp; omega))))))
          have xr0 : wb.frozen? ⟨wr.heap.size, 0, none⟩ = false := (hbb.frozen (p := ⟨wr.heap.size, 0, none⟩) (by first | (simp; done) | omega | (simp; omega))).trans (by (repeat (first | with_reducible assumption | (simp [go_sem]; done) | (with_reducible refine fr_alloc ?_ ?_; focus (first | (simp; done) | omega | (simp; omega))) | (with_reducible refine Ab.fr (by assumption) ?_ ?_; focus (first | (simp; done) | omega | (simp; omega)))))); have xr1 : wb.frozen? ⟨wr.heap.size, 1, none⟩ = false := (hbb.frozen (p := ⟨wr.heap.size, 1, none⟩) (by first | (simp; done) | omega | (simp; omega))).trans (by (repeat (first | with_reducible assumption | (simp [go_sem]; done) | (with_reducible refine fr_alloc ?_ ?_; focus (first | (simp; done) | omega | (simp; omega))) | (with_reducible refine Ab.fr (by assumption) ?_ ?_; focus (first | (simp; done) | omega | (simp; omega)))))); have xr2 : wb.frozen? ⟨wr.heap.size, 2, none⟩ = false := (hbb.frozen (p := ⟨wr.heap.size, 2, none⟩) (by first | (simp; done) | omega | (simp; omega))).trans (by (repeat (first | with_reducible assumption | (simp [go_sem]; done) | (with_reducible refine fr_alloc ?_ ?_; focus (first | (simp; done) | omega | (simp; omega))) | (with_reducible refine Ab.fr (by assumption) ?_ ?_; focus (first | (simp; done) | omega | (simp; omega)))))); have xr3 : wb.frozen? ⟨wr.heap.size, 3, none⟩ = false := (hbb.frozen (p := ⟨wr.heap.size, 3, none⟩) (by first | (simp; done) | omega | (simp; omega))).trans (by (repeat (first | with_reducible assumption | (simp [go_sem]; done) | (with_reducible refine fr_alloc ?_ ?_; focus (first | (simp; done) | omega | (simp; omega))) | (with_reducible refine Ab.fr (by assumption) ?_ ?_; focus (first | (simp; done) | omega | (simp; omega)))))); have xr4 : wb.frozen? ⟨wr.heap.size, 4, none⟩ = false := (hbb.frozen (p := ⟨wr.heap.size, 4, none⟩) (by first | (simp; done) | omega | (simp; omega))).trans (by (repeat (first | with_reducible assumption | (simp [go_sem]; done) | (with_reducible refine fr_alloc ?_ ?_; focus (first | (simp; done) | omega | (simp; omega))) | (with_reducible refine Ab.fr (by assumption) ?_ ?_; focus (first | (simp; done) | omega | (simp; omega)))))); have xr5 : wb.frozen? ⟨wr.heap.size, 5, none⟩ = false := (hbb.frozen (p := ⟨wr.heap.size, 5, none⟩) (by first | (simp; done) | omega | (simp; omega))).trans (by (repeat (first | with_reducible assumption | (simp [go_sem]; done) | (with_reducible refine fr_alloc ?_ ?_; focus (first | (simp; done) | omega | (simp; omega))) | (with_reducible refine Ab.fr (by assumption) ?_ ?_; focus (first | (simp; done) | omega | (simp; omega)))))); have xr6 : wb.frozen? ⟨wr.heap.size, 6, none⟩ = false := (hbb.frozen (p := ⟨wr.heap.size, 6, none⟩) (by first | (simp; done) | omega | (simp; omega))).trans (by (repeat (first | with_reducible assumption | (simp [go_sem]; done) | (with_reducible refine fr_alloc ?_ ?_; focus (first | (simp; done) | omega | (simp; omega))) | (with_reducible refine Ab.fr (by assumption) ?_ ?_; focus (first | (simp; done) | omega | (simp; omega)))))); have xr7 : wb.frozen? ⟨wr.heap.size, 7, none⟩ = false := (hbb.frozen (p := ⟨wr.heap.size, 7, none⟩) (by first | (simp; done) | omega | (simp; omega))).trans (by (repeat (first | with_reducible assumption | (simp [go_sem]; done) | (with_reducible refine fr_alloc ?_ ?_; focus (first | (simp; done) | omega | (simp; omega))) | (with_reducible refine Ab.fr (by assumption) ?_ ?_; focus (first | (simp; done) | omega | (simp; omega)))))); have xr8 : wb.frozen? ⟨wr.heap.size, 8, none⟩ = false := (hbb.frozen (p := ⟨wr.heap.size, 8, none⟩) (by first | (simp; done) | omega | (simp; omega))).trans (by (repeat (first | with_reducible assumption | (simp [go_sem]; done) | (with_reducible refine fr_alloc ?_ ?_; focus (first | (simp; done) | omega | (simp; omega))) | (with_reducible refine Ab.fr (by assumption) ?_ ?_; focus (first | (simp; done) | omega | (simp; omega))))))
          have xna := fun (o : Obj) (j : Nat) => World.cell?_alloc_lt wb o ⟨wr.heap.size, j, none⟩ (by first | (simp; done) | omega | (simp; omega))
          have xnb := fun (o : Obj) (j : Nat) => ((Ab.refl wb).alloc o).frozen (p := ⟨wr.heap.size, j, none⟩) (by first | (simp; done) | omega | (simp; omega))
          (try go_wp2_with fail)
          (refine hK.out _ _ ?_ (fun hHeld => ?_)
           · (try dsimp only); try trivial
           clear hK K
           (try simp only [Act.put, List.setIfInBounds_toArray, List.set_cons_zero, List.set_cons_succ]))
          (refine wpAnyH_take (i := 3) (v := ?_) rfl (by kernel_rfl) (by kernel_rfl) (by kernel_rfl) (fun _ _ _ h => h) (Or.inl ⟨by kernel_rfl, ?_⟩) (by assumption) ?_
           rotate_left
           · (intro w hSw; (try dsimp only at hSw); go_simp; (try with_reducible rfl))
           (try simp only [Act.put, List.setIfInBounds_toArray, List.set_cons_zero, List.set_cons_succ]))
          (refine wpAnyH_take (i := 4) (v := ?_) rfl (by kernel_rfl) (by kernel_rfl) (by kernel_rfl) (fun _ _ _ h => h) (Or.inl ⟨by kernel_rfl, ?_⟩) (by assumption) ?_
           rotate_left
           · (intro w hSw; (try dsimp only at hSw); go_simp; (try with_reducible rfl))
           (try simp only [Act.put, List.setIfInBounds_toArray, List.set_cons_zero, List.set_cons_succ]))
          (refine wpAnyH_take (i := 5) (v := ?_) rfl (by kernel_rfl) (by kernel_rfl) (by kernel_rfl) (fun _ _ _ h => h) (Or.inl ⟨by kernel_rfl, ?_⟩) (by assumption) ?_
           rotate_left
           · (intro w hSw; (try dsimp only at hSw); go_simp; (try with_reducible rfl))
           (try simp only [Act.put, List.setIfInBounds_toArray, List.set_cons_zero, List.set_cons_succ]))
          (refine wpAnyH_take (i := 6) (v := ?_) rfl (by kernel_rfl) (by kernel_rfl) (by kernel_rfl) (fun _ _ _ h => h) (Or.inl ⟨by kernel_rfl, ?_⟩) (by assumption) ?_
           rotate_left
           · (intro w hSw; (try dsimp only at hSw); go_simp; (try with_reducible rfl))
           (try simp only [Act.put, List.setIfInBounds_toArray, List.set_cons_zero, List.set_cons_succ]))
          (refine wpAnyH_ready (rs := [8]) (by kernel_rfl) (by simp) ?_)
          refine AllReadyH.cons rfl (fun K hK => ?_) AllReadyH.nil
          (go_simp
           (refine hK.out _ _ ?_ (fun hHeld => ?_)
            · (try dsimp only); try trivial
            clear hK K
            (try simp only [Act.put, List.setIfInBounds_toArray, List.set_cons_zero, List.set_cons_succ])))
          (refine wpAnyH_ready (rs := [9]) (by kernel_rfl) (by simp) ?_)
          refine AllReadyH.cons rfl (fun K hK => ?_) AllReadyH.nil
          (go_simp
           (refine hK.out _ _ ?_ (fun hHeld => ?_)
            · (try dsimp only); try trivial
            clear hK K
            (try simp only [Act.put, List.setIfInBounds_toArray, List.set_cons_zero, List.set_cons_succ])))
          (refine wpAnyH_ready (rs := [10]) (by kernel_rfl) (by simp) ?_)
          refine AllReadyH.cons rfl (fun K hK => ?_) AllReadyH.nil
          (go_simp
           (refine hK.out _ _ ?_ (fun hHeld => ?_)
            · (try dsimp only); try trivial
            clear hK K
            (try simp only [Act.put, List.setIfInBounds_toArray, List.set_cons_zero, List.set_cons_succ])))
          refine wpAnyH_done (by kernel_rfl) ?_ _
          refine hK _ _ ?_
          refine ⟨rfl, ?_, ?_, ?_, ?_, ?_⟩
          · dsimp only; (repeat rw [Array.size_setIfInBounds]); exact hsT
          · dsimp only; (repeat rw [opq_ne _ _ _ _ _ (by decide)]); exact f2
          · dsimp only; (repeat rw [opq_ne _ _ _ _ _ (by decide)]); exact f5
          · dsimp only; (repeat rw [opq_ne _ _ _ _ _ (by decide)]); rw [opq_at _ _ 309 _ _ (by (repeat rw [Array.size_setIfInBounds]); exact hsT) (by decide)]
          · exact (by repeat (first | with_reducible exact Ab.refl _ | with_reducible assumption | with_reducible refine Ab.drew ?_ | with_reducible refine Ab.drewN ?_ _ | with_reducible refine Ab.alloc ?_ _ | with_reducible refine Ab.trans ?_ (by assumption) | with_reducible refine Ab.set ?_ (by first | (simp; done) | omega | (simp; omega)) _))
end Go.Proofs.Ytakgglpfgpkboaa
