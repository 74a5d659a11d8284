/- SlotsNames: its three drawn regions, each over a frame kept as a letter. Written by genslots.py. Own work. -/
import Derived.Test.YtakgglpfgpkboaaSMathN
import Derived.Test.YtakgglpfgpkboaaSAlive
import Derived.Test.YtakgglpfgpkboaaOpq
set_option linter.unusedVariables false
set_option linter.unusedSimpArgs false
namespace Go.Proofs.Ytakgglpfgpkboaa
open Go.RowKit

theorem ssave_n (m : AM) (r : Slots.Sl) (w : World) (h : SlM w 0 m r) (X : Option Addr) (b : List UInt8) (nb : Nat) (hnb : b.length = nb) (cx : Nat) (hx : RB w 0 X b) (hcx : nb ≤ cx) :
    Calls Try.prog 10 #[.agg #[.slice m.A r.a.s.length m.ca, .slice m.B r.a.t.length m.cb, .int .i64 r.a.cap, .bool r.a.down, .slice m.C r.b.s.length m.cc, .slice m.D r.b.t.length m.cd, .int .i64 r.b.cap, .bool r.b.down, .int .i64 r.n], .slice X nb cx] w (RetSl3 w (Slots.save r b)) := by
  subst hnb
  exact ssave_any m r w h X b cx hx hcx
/-- Behind region 2. -/
def SK2 (w : World) (act : Act) (wx : World) : Prop :=
  act.defers = [] ∧ act.tmps.size = 309 ∧ act.tmps.getD 2 undef = .int .i64 2 ∧ act.tmps.getD 5 undef = .int .i64 4 ∧ Ab w wx
noncomputable def scode2 : Code := ((Try.f3.body.bind (findR 2)).getD .skip)
set_option maxRecDepth 1000000 in
set_option maxHeartbeats 9600000 in
theorem sreg2 (w wr : World) (HA : Ab w wr) (T : Array Value) (hsT : T.size = 309) (f2 : T.getD 2 undef = .int .i64 2) (K' : Act → World → Prop) (P0 : Ending → World → Prop) (hK : ∀ a' w', SK2 w a' w' → K' a' w') :
    Code.wp Try.prog scode2 (Exit.then K' (bodyPost Try.prog Try.f3 P0)) ⟨T, []⟩ wr := by
  obtain ⟨ZZ1, b1, kk1, _, mm1, yy1⟩ := make_bytes 1001 (by omega) 1001 rfl
  have gsT := opq_set
  have zr := HA.size
  skip
  conv => arg 2; whnf
  refine wp_region_held_drew (by kernel_rfl) (S := fun _ => True) ?_ (fun hHeld => ?_)
  · try trivial
  (refine wpAnyH_ready (rs := [0, 1, 7]) (by kernel_rfl) (by simp) ?_)
  refine (AllReadyH.cons rfl (fun K hK => ?_) (AllReadyH.cons rfl (fun K hK => ?_) (AllReadyH.cons rfl (fun K hK => ?_) AllReadyH.nil)))
  ·
    go_simp
    (go_at_call 11)
    refine (sgiven_any _).mono ?_
    rintro e wa ⟨ma, rfl, hMa, hba⟩
    have za := hba.size
    (try simp at za)
    (try go_wp2_with fail)
    (refine hK.out _ _ ?_ (fun hHeld => ?_)
     · (try dsimp only); try trivial
     clear hK K
     (try simp only [Act.put, List.setIfInBounds_toArray, List.set_cons_zero, List.set_cons_succ]))
    (refine wpAnyH_ready (rs := [1, 7]) (by kernel_rfl) (by simp) ?_)
    refine (AllReadyH.cons rfl (fun K hK => ?_) (AllReadyH.cons rfl (fun K hK => ?_) AllReadyH.nil))
    ·
      (go_simp
       (refine hK.out _ _ ?_ (fun hHeld => ?_)
        · (try dsimp only); try trivial
        clear hK K
        (try simp only [Act.put, List.setIfInBounds_toArray, List.set_cons_zero, List.set_cons_succ])))
      (refine wpAnyH_ready (rs := [2, 7]) (by kernel_rfl) (by simp) ?_)
      refine (AllReadyH.cons rfl (fun K hK => ?_) (AllReadyH.cons rfl (fun K hK => ?_) AllReadyH.nil))
      ·
        go_simp
        (go_at_call 10)
        refine (ssave_n ma Slots.G2 _ (hMa.ab (by repeat (first | with_reducible exact Ab.refl _ | with_reducible assumption | with_reducible refine Ab.drew ?_ | with_reducible refine Ab.drewN ?_ _ | with_reducible refine Ab.alloc ?_ _ | with_reducible refine Ab.trans ?_ (by assumption) | with_reducible refine Ab.set ?_ (by first | (simp; done) | omega | (simp; omega)) _))) (some ⟨wa.heap.size, 0, none⟩) b1 1001 kk1.out 1001 ((yy1.out _ _ (0, 0) (by (repeat (first | exact new_plain (by first | (simp; done) | omega | (simp; omega)) | with_reducible refine old_alloc ?_ | with_reducible refine old_drew ?_ | with_reducible refine old_set ?_ (by first | (simp; done) | omega | (simp; omega)) | with_reducible refine old_ab (by assumption) ?_))))) (by omega)).mono ?_
        rintro e wb ⟨rb, nb, eb, mb, hb, rfl, hMb, hbb⟩
        have hmb := (Prod.mk.inj (hb.out.trans (Slots.nm_many b1 kk1.out))).2
        obtain ⟨rfl, rfl⟩ := Prod.mk.inj hmb
        clear hb hmb hMb
        have zb := hbb.size
        (try simp at zb)
        (try go_wp2_with fail)
        (refine hK.out _ _ ?_ (fun hHeld => ?_)
         · (try dsimp only); try trivial
         clear hK K
         (try simp only [Act.put, List.setIfInBounds_toArray, List.set_cons_zero, List.set_cons_succ]))
        (refine wpAnyH_take (i := 3) (v := ?_) rfl (by kernel_rfl) (by kernel_rfl) (by kernel_rfl) (fun _ _ _ h => h) (Or.inl ⟨by kernel_rfl, ?_⟩) (by assumption) ?_
         rotate_left
         · (intro w hSw; (try dsimp only at hSw); go_simp; (try with_reducible rfl))
         (try simp only [Act.put, List.setIfInBounds_toArray, List.set_cons_zero, List.set_cons_succ]))
        (refine wpAnyH_take (i := 4) (v := ?_) rfl (by kernel_rfl) (by kernel_rfl) (by kernel_rfl) (fun _ _ _ h => h) (Or.inl ⟨by kernel_rfl, ?_⟩) (by assumption) ?_
         rotate_left
         · (intro w hSw; (try dsimp only at hSw); go_simp; (try with_reducible rfl))
         (try simp only [Act.put, List.setIfInBounds_toArray, List.set_cons_zero, List.set_cons_succ]))
        (refine wpAnyH_take (i := 5) (v := ?_) rfl (by kernel_rfl) (by kernel_rfl) (by kernel_rfl) (fun _ _ _ h => h) (Or.inl ⟨by kernel_rfl, ?_⟩) (by assumption) ?_
         rotate_left
         · (intro w hSw; (try dsimp only at hSw); go_simp; (try with_reducible rfl))
         (try simp only [Act.put, List.setIfInBounds_toArray, List.set_cons_zero, List.set_cons_succ]))
        (refine wpAnyH_take (i := 6) (v := ?_) rfl (by kernel_rfl) (by kernel_rfl) (by kernel_rfl) (fun _ _ _ h => h) (Or.inl ⟨by kernel_rfl, ?_⟩) (by assumption) ?_
         rotate_left
         · (intro w hSw; (try dsimp only at hSw); go_simp; (try with_reducible rfl))
         (try simp only [Act.put, List.setIfInBounds_toArray, List.set_cons_zero, List.set_cons_succ]))
        (refine wpAnyH_ready (rs := [7]) (by kernel_rfl) (by simp) ?_)
        refine AllReadyH.cons rfl (fun K hK => ?_) AllReadyH.nil
        (go_simp
         (refine hK.out _ _ ?_ (fun hHeld => ?_)
          · (try dsimp only); try trivial
          clear hK K
          (try simp only [Act.put, List.setIfInBounds_toArray, List.set_cons_zero, List.set_cons_succ])))
        (refine wpAnyH_ready (rs := [8]) (by kernel_rfl) (by simp) ?_)
        refine AllReadyH.cons rfl (fun K hK => ?_) AllReadyH.nil
        (go_simp
         (refine hK.out _ _ ?_ (fun hHeld => ?_)
          · (try dsimp only); try trivial
          clear hK K
          (try simp only [Act.put, List.setIfInBounds_toArray, List.set_cons_zero, List.set_cons_succ])))
        (refine wpAnyH_ready (rs := [9]) (by kernel_rfl) (by simp) ?_)
        refine AllReadyH.cons rfl (fun K hK => ?_) AllReadyH.nil
        (go_simp
         (refine hK.out _ _ ?_ (fun hHeld => ?_)
          · (try dsimp only); try trivial
          clear hK K
          (try simp only [Act.put, List.setIfInBounds_toArray, List.set_cons_zero, List.set_cons_succ])))
        (refine wpAnyH_ready (rs := [10]) (by kernel_rfl) (by simp) ?_)
        refine AllReadyH.cons rfl (fun K hK => ?_) AllReadyH.nil
        (go_simp
         (refine hK.out _ _ ?_ (fun hHeld => ?_)
          · (try dsimp only); try trivial
          clear hK K
          (try simp only [Act.put, List.setIfInBounds_toArray, List.set_cons_zero, List.set_cons_succ])))
        refine wpAnyH_done (by kernel_rfl) ?_ _
        refine hK _ _ ?_
        refine ⟨rfl, ?_, ?_, ?_, ?_⟩
        · dsimp only; (repeat rw [Array.size_setIfInBounds]); exact hsT
        · dsimp only; (repeat rw [opq_ne _ _ _ _ _ (by decide)]); exact f2
        · dsimp only; (repeat rw [opq_ne _ _ _ _ _ (by decide)]); rw [opq_at _ _ 309 _ _ (by (repeat rw [Array.size_setIfInBounds]); exact hsT) (by decide)]
        · exact (by repeat (first | with_reducible exact Ab.refl _ | with_reducible assumption | with_reducible refine Ab.drew ?_ | with_reducible refine Ab.drewN ?_ _ | with_reducible refine Ab.alloc ?_ _ | with_reducible refine Ab.trans ?_ (by assumption) | with_reducible refine Ab.set ?_ (by first | (simp; done) | omega | (simp; omega)) _))
      ·
        (go_simp
         (refine hK.out _ _ ?_ (fun hHeld => ?_)
          · (try dsimp only); try trivial
          clear hK K
          (try simp only [Act.put, List.setIfInBounds_toArray, List.set_cons_zero, List.set_cons_succ])))
        (refine wpAnyH_ready (rs := [2]) (by kernel_rfl) (by simp) ?_)
        refine (AllReadyH.cons rfl (fun K hK => ?_) AllReadyH.nil)
        ·
          go_simp
          (go_at_call 10)
          refine (ssave_n ma Slots.G2 _ (hMa.ab (by repeat (first | with_reducible exact Ab.refl _ | with_reducible assumption | with_reducible refine Ab.drew ?_ | with_reducible refine Ab.drewN ?_ _ | with_reducible refine Ab.alloc ?_ _ | with_reducible refine Ab.trans ?_ (by assumption) | with_reducible refine Ab.set ?_ (by first | (simp; done) | omega | (simp; omega)) _))) (some ⟨wa.heap.size, 0, none⟩) b1 1001 kk1.out 1001 ((yy1.out _ _ (0, 0) (by (repeat (first | exact new_plain (by first | (simp; done) | omega | (simp; omega)) | with_reducible refine old_alloc ?_ | with_reducible refine old_drew ?_ | with_reducible refine old_set ?_ (by first | (simp; done) | omega | (simp; omega)) | with_reducible refine old_ab (by assumption) ?_))))) (by omega)).mono ?_
          rintro e wb ⟨rb, nb, eb, mb, hb, rfl, hMb, hbb⟩
          have hmb := (Prod.mk.inj (hb.out.trans (Slots.nm_many b1 kk1.out))).2
          obtain ⟨rfl, rfl⟩ := Prod.mk.inj hmb
          clear hb hmb hMb
          have zb := hbb.size
          (try simp at zb)
          have xq0 : wb.cell? ⟨wa.heap.size + 1, 0, none⟩ = some (.slice none 0 0) := hbb.at (by (repeat (first | with_reducible assumption | (simp [go_sem]; done) | with_reducible apply cell_alloc | with_reducible apply cell_drew | with_reducible apply cell_drewN | (with_reducible apply Ab.at; with_reducible assumption) | (with_reducible refine cell_set ?_ ?_; rotate_left; focus (first | (simp; done) | (simp; omega))) | (with_reducible refine cell_setb ?_ ?_; rotate_left; focus (first | omega | (simp only; omega) | (simp; omega)))))); have xq1 : wb.cell? ⟨wa.heap.size + 1, 1, none⟩ = some (.slice none 0 0) := hbb.at (by (repeat (first | with_reducible assumption | (simp [go_sem]; done) | with_reducible apply cell_alloc | with_reducible apply cell_drew | with_reducible apply cell_drewN | (with_reducible apply Ab.at; with_reducible assumption) | (with_reducible refine cell_set ?_ ?_; rotate_left; focus (first | (simp; done) | (simp; omega))) | (with_reducible refine cell_setb ?_ ?_; rotate_left; focus (first | omega | (simp only; omega) | (simp; omega)))))); have xq2 : wb.cell? ⟨wa.heap.size + 1, 2, none⟩ = some (.int .i64 0) := hbb.at (by (repeat (first | with_reducible assumption | (simp [go_sem]; done) | with_reducible apply cell_alloc | with_reducible apply cell_drew | with_reducible apply cell_drewN | (with_reducible apply Ab.at; with_reducible assumption) | (with_reducible refine cell_set ?_ ?_; rotate_left; focus (first | (simp; done) | (simp; omega))) | (with_reducible refine cell_setb ?_ ?_; rotate_left; focus (first | omega | (simp only; omega) | (simp; omega)))))); have xq3 : wb.cell? ⟨wa.heap.size + 1, 3, none⟩ = some (.bool false) := hbb.at (by (repeat (first | with_reducible assumption | (simp [go_sem]; done) | with_reducible apply cell_alloc | with_reducible apply cell_drew | with_reducible apply cell_drewN | (with_reducible apply Ab.at; with_reducible assumption) | (with_reducible refine cell_set ?_ ?_; rotate_left; focus (first | (simp; done) | (simp; omega))) | (with_reducible refine cell_setb ?_ ?_; rotate_left; focus (first | omega | (simp only; omega) | (simp; omega)))))); have xq4 : wb.cell? ⟨wa.heap.size + 1, 4, none⟩ = some (.slice none 0 0) := hbb.at (by (repeat (first | with_reducible assumption | (simp [go_sem]; done) | with_reducible apply cell_alloc | with_reducible apply cell_drew | with_reducible apply cell_drewN | (with_reducible apply Ab.at; with_reducible assumption) | (with_reducible refine cell_set ?_ ?_; rotate_left; focus (first | (simp; done) | (simp; omega))) | (with_reducible refine cell_setb ?_ ?_; rotate_left; focus (first | omega | (simp only; omega) | (simp; omega)))))); have xq5 : wb.cell? ⟨wa.heap.size + 1, 5, none⟩ = some (.slice none 0 0) := hbb.at (by (repeat (first | with_reducible assumption | (simp [go_sem]; done) | with_reducible apply cell_alloc | with_reducible apply cell_drew | with_reducible apply cell_drewN | (with_reducible apply Ab.at; with_reducible assumption) | (with_reducible refine cell_set ?_ ?_; rotate_left; focus (first | (simp; done) | (simp; omega))) | (with_reducible refine cell_setb ?_ ?_; rotate_left; focus (first | omega | (simp only; omega) | (simp; omega)))))); have xq6 : wb.cell? ⟨wa.heap.size + 1, 6, none⟩ = some (.int .i64 0) := hbb.at (by (repeat (first | with_reducible assumption | (simp [go_sem]; done) | with_reducible apply cell_alloc | with_reducible apply cell_drew | with_reducible apply cell_drewN | (with_reducible apply Ab.at; with_reducible assumption) | (with_reducible refine cell_set ?_ ?_; rotate_left; focus (first | (simp; done) | (simp; omega))) | (with_reducible refine cell_setb ?_ ?_; rotate_left; focus (first | omega | (simp only; omega) | (simp; omega)))))); have xq7 : wb.cell? ⟨wa.heap.size + 1, 7, none⟩ = some (.bool false) := hbb.at (by (repeat (first | with_reducible assumption | (simp [go_sem]; done) | with_reducible apply cell_alloc | with_reducible apply cell_drew | with_reducible apply cell_drewN | (with_reducible apply Ab.at; with_reducible assumption) | (with_reducible refine cell_set ?_ ?_; rotate_left; focus (first | (simp; done) | (simp; omega))) | (with_reducible refine cell_setb ?_ ?_; rotate_left; focus (first | omega | (simp only; omega) | (simp; omega)))))); have xq8 : wb.cell? ⟨wa.heap.size + 1, 8, none⟩ = some (.int .i64 0) := hbb.at (by (repeat (first | with_reducible assumption | (simp [go_sem]; done) | with_reducible apply cell_alloc | with_reducible apply cell_drew | with_reducible apply cell_drewN | (with_reducible apply Ab.at; with_reducible assumption) | (with_reducible refine cell_set ?_ ?_; rotate_left; focus (first | (simp; done) | (simp; omega))) | (with_reducible refine cell_setb ?_ ?_; rotate_left; focus (first | omega | (simp only; omega) | (simp; omega))))))
          have xr0 : wb.frozen? ⟨wa.heap.size + 1, 0, none⟩ = false := (hbb.frozen (p := ⟨wa.heap.size + 1, 0, none⟩) (by first | (simp; done) | omega | (simp; omega))).trans (by (repeat (first | with_reducible assumption | (simp [go_sem]; done) | (with_reducible refine fr_alloc ?_ ?_; focus (first | (simp; done) | omega | (simp; omega))) | (with_reducible refine Ab.fr (by assumption) ?_ ?_; focus (first | (simp; done) | omega | (simp; omega)))))); have xr1 : wb.frozen? ⟨wa.heap.size + 1, 1, none⟩ = false := (hbb.frozen (p := ⟨wa.heap.size + 1, 1, none⟩) (by first | (simp; done) | omega | (simp; omega))).trans (by (repeat (first | with_reducible assumption | (simp [go_sem]; done) | (with_reducible refine fr_alloc ?_ ?_; focus (first | (simp; done) | omega | (simp; omega))) | (with_reducible refine Ab.fr (by assumption) ?_ ?_; focus (first | (simp; done) | omega | (simp; omega)))))); have xr2 : wb.frozen? ⟨wa.heap.size + 1, 2, none⟩ = false := (hbb.frozen (p := ⟨wa.heap.size + 1, 2, none⟩) (by first | (simp; done) | omega | (simp; omega))).trans (by (repeat (first | with_reducible assumption | (simp [go_sem]; done) | (with_reducible refine fr_alloc ?_ ?_; focus (first | (simp; done) | omega | (simp; omega))) | (with_reducible refine Ab.fr (by assumption) ?_ ?_; focus (first | (simp; done) | omega | (simp; omega)))))); have xr3 : wb.frozen? ⟨wa.heap.size + 1, 3, none⟩ = false := (hbb.frozen (p := ⟨wa.heap.size + 1, 3, none⟩) (by first | (simp; done) | omega | (simp; omega))).trans (by (repeat (first | with_reducible assumption | (simp [go_sem]; done) | (with_reducible refine fr_alloc ?_ ?_; focus (first | (simp; done) | omega | (simp; omega))) | (with_reducible refine Ab.fr (by assumption) ?_ ?_; focus (first | (simp; done) | omega | (simp; omega)))))); have xr4 : wb.frozen? ⟨wa.heap.size + 1, 4, none⟩ = false := (hbb.frozen (p := ⟨wa.heap.size + 1, 4, none⟩) (by first | (simp; done) | omega | (simp; omega))).trans (by (repeat (first | with_reducible assumption | (simp [go_sem]; done) | (with_reducible refine fr_alloc ?_ ?_; focus (first | (simp; done) | omega | (simp; omega))) | (with_reducible refine Ab.fr (by assumption) ?_ ?_; focus (first | (simp; done) | omega | (simp; omega)))))); have xr5 : wb.frozen? ⟨wa.heap.size + 1, 5, none⟩ = false := (hbb.frozen (p := ⟨wa.heap.size + 1, 5, none⟩) (by first | (simp; done) | omega | (simp; omega))).trans (by (repeat (first | with_reducible assumption | (simp [go_sem]; done) | (with_reducible refine fr_alloc ?_ ?_; focus (first | (simp; done) | omega | (simp; omega))) | (with_reducible refine Ab.fr (by assumption) ?_ ?_; focus (first | (simp; done) | omega | (simp; omega)))))); have xr6 : wb.frozen? ⟨wa.heap.size + 1, 6, none⟩ = false := (hbb.frozen (p := ⟨wa.heap.size + 1, 6, none⟩) (by first | (simp; done) | omega | (simp; omega))).trans (by (repeat (first | with_reducible assumption | (simp [go_sem]; done) | (with_reducible refine fr_alloc ?_ ?_; focus (first | (simp; done) | omega | (simp; omega))) | (with_reducible refine Ab.fr (by assumption) ?_ ?_; focus (first | (simp; done) | omega | (simp; omega)))))); have xr7 : wb.frozen? ⟨wa.heap.size + 1, 7, none⟩ = false := (hbb.frozen (p := ⟨wa.heap.size + 1, 7, none⟩) (by first | (simp; done) | omega | (simp; omega))).trans (by (repeat (first | with_reducible assumption | (simp [go_sem]; done) | (with_reducible refine fr_alloc ?_ ?_; focus (first | (simp; done) | omega | (simp; omega))) | (with_reducible refine Ab.fr (by assumption) ?_ ?_; focus (first | (simp; done) | omega | (simp; omega)))))); have xr8 : wb.frozen? ⟨wa.heap.size + 1, 8, none⟩ = false := (hbb.frozen (p := ⟨wa.heap.size + 1, 8, none⟩) (by first | (simp; done) | omega | (simp; omega))).trans (by (repeat (first | with_reducible assumption | (simp [go_sem]; done) | (with_reducible refine fr_alloc ?_ ?_; focus (first | (simp; done) | omega | (simp; omega))) | (with_reducible refine Ab.fr (by assumption) ?_ ?_; focus (first | (simp; done) | omega | (simp; omega))))))
          have xna := fun (o : Obj) (j : Nat) => World.cell?_alloc_lt wb o ⟨wa.heap.size + 1, j, none⟩ (by first | (simp; done) | omega | (simp; omega))
          have xnb := fun (o : Obj) (j : Nat) => ((Ab.refl wb).alloc o).frozen (p := ⟨wa.heap.size + 1, j, none⟩) (by first | (simp; done) | omega | (simp; omega))
          (try go_wp2_with fail)
          (refine hK.out _ _ ?_ (fun hHeld => ?_)
           · (try dsimp only); try trivial
           clear hK K
           (try simp only [Act.put, List.setIfInBounds_toArray, List.set_cons_zero, List.set_cons_succ]))
          (refine wpAnyH_take (i := 3) (v := ?_) rfl (by kernel_rfl) (by kernel_rfl) (by kernel_rfl) (fun _ _ _ h => h) (Or.inl ⟨by kernel_rfl, ?_⟩) (by assumption) ?_
           rotate_left
           · (intro w hSw; (try dsimp only at hSw); go_simp; (try with_reducible rfl))
           (try simp only [Act.put, List.setIfInBounds_toArray, List.set_cons_zero, List.set_cons_succ]))
          (refine wpAnyH_take (i := 4) (v := ?_) rfl (by kernel_rfl) (by kernel_rfl) (by kernel_rfl) (fun _ _ _ h => h) (Or.inl ⟨by kernel_rfl, ?_⟩) (by assumption) ?_
           rotate_left
           · (intro w hSw; (try dsimp only at hSw); go_simp; (try with_reducible rfl))
           (try simp only [Act.put, List.setIfInBounds_toArray, List.set_cons_zero, List.set_cons_succ]))
          (refine wpAnyH_take (i := 5) (v := ?_) rfl (by kernel_rfl) (by kernel_rfl) (by kernel_rfl) (fun _ _ _ h => h) (Or.inl ⟨by kernel_rfl, ?_⟩) (by assumption) ?_
           rotate_left
           · (intro w hSw; (try dsimp only at hSw); go_simp; (try with_reducible rfl))
           (try simp only [Act.put, List.setIfInBounds_toArray, List.set_cons_zero, List.set_cons_succ]))
          (refine wpAnyH_take (i := 6) (v := ?_) rfl (by kernel_rfl) (by kernel_rfl) (by kernel_rfl) (fun _ _ _ h => h) (Or.inl ⟨by kernel_rfl, ?_⟩) (by assumption) ?_
           rotate_left
           · (intro w hSw; (try dsimp only at hSw); go_simp; (try with_reducible rfl))
           (try simp only [Act.put, List.setIfInBounds_toArray, List.set_cons_zero, List.set_cons_succ]))
          (refine wpAnyH_ready (rs := [8]) (by kernel_rfl) (by simp) ?_)
          refine AllReadyH.cons rfl (fun K hK => ?_) AllReadyH.nil
          (go_simp
           (refine hK.out _ _ ?_ (fun hHeld => ?_)
            · (try dsimp only); try trivial
            clear hK K
            (try simp only [Act.put, List.setIfInBounds_toArray, List.set_cons_zero, List.set_cons_succ])))
          (refine wpAnyH_ready (rs := [9]) (by kernel_rfl) (by simp) ?_)
          refine AllReadyH.cons rfl (fun K hK => ?_) AllReadyH.nil
          (go_simp
           (refine hK.out _ _ ?_ (fun hHeld => ?_)
            · (try dsimp only); try trivial
            clear hK K
            (try simp only [Act.put, List.setIfInBounds_toArray, List.set_cons_zero, List.set_cons_succ])))
          (refine wpAnyH_ready (rs := [10]) (by kernel_rfl) (by simp) ?_)
          refine AllReadyH.cons rfl (fun K hK => ?_) AllReadyH.nil
          (go_simp
           (refine hK.out _ _ ?_ (fun hHeld => ?_)
            · (try dsimp only); try trivial
            clear hK K
            (try simp only [Act.put, List.setIfInBounds_toArray, List.set_cons_zero, List.set_cons_succ])))
          refine wpAnyH_done (by kernel_rfl) ?_ _
          refine hK _ _ ?_
          refine ⟨rfl, ?_, ?_, ?_, ?_⟩
          · dsimp only; (repeat rw [Array.size_setIfInBounds]); exact hsT
          · dsimp only; (repeat rw [opq_ne _ _ _ _ _ (by decide)]); exact f2
          · dsimp only; (repeat rw [opq_ne _ _ _ _ _ (by decide)]); rw [opq_at _ _ 309 _ _ (by (repeat rw [Array.size_setIfInBounds]); exact hsT) (by decide)]
          · exact (by repeat (first | with_reducible exact Ab.refl _ | with_reducible assumption | with_reducible refine Ab.drew ?_ | with_reducible refine Ab.drewN ?_ _ | with_reducible refine Ab.alloc ?_ _ | with_reducible refine Ab.trans ?_ (by assumption) | with_reducible refine Ab.set ?_ (by first | (simp; done) | omega | (simp; omega)) _))
    ·
      (go_simp
       (refine hK.out _ _ ?_ (fun hHeld => ?_)
        · (try dsimp only); try trivial
        clear hK K
        (try simp only [Act.put, List.setIfInBounds_toArray, List.set_cons_zero, List.set_cons_succ])))
      (refine wpAnyH_ready (rs := [1]) (by kernel_rfl) (by simp) ?_)
      refine (AllReadyH.cons rfl (fun K hK => ?_) AllReadyH.nil)
      ·
        (go_simp
         (refine hK.out _ _ ?_ (fun hHeld => ?_)
          · (try dsimp only); try trivial
          clear hK K
          (try simp only [Act.put, List.setIfInBounds_toArray, List.set_cons_zero, List.set_cons_succ])))
        (refine wpAnyH_ready (rs := [2]) (by kernel_rfl) (by simp) ?_)
        refine (AllReadyH.cons rfl (fun K hK => ?_) AllReadyH.nil)
        ·
          go_simp
          (go_at_call 10)
          refine (ssave_n ma Slots.G2 _ (hMa.ab (by repeat (first | with_reducible exact Ab.refl _ | with_reducible assumption | with_reducible refine Ab.drew ?_ | with_reducible refine Ab.drewN ?_ _ | with_reducible refine Ab.alloc ?_ _ | with_reducible refine Ab.trans ?_ (by assumption) | with_reducible refine Ab.set ?_ (by first | (simp; done) | omega | (simp; omega)) _))) (some ⟨wa.heap.size + 1, 0, none⟩) b1 1001 kk1.out 1001 ((yy1.out _ _ (0, 0) (by (repeat (first | exact new_plain (by first | (simp; done) | omega | (simp; omega)) | with_reducible refine old_alloc ?_ | with_reducible refine old_drew ?_ | with_reducible refine old_set ?_ (by first | (simp; done) | omega | (simp; omega)) | with_reducible refine old_ab (by assumption) ?_))))) (by omega)).mono ?_
          rintro e wb ⟨rb, nb, eb, mb, hb, rfl, hMb, hbb⟩
          have hmb := (Prod.mk.inj (hb.out.trans (Slots.nm_many b1 kk1.out))).2
          obtain ⟨rfl, rfl⟩ := Prod.mk.inj hmb
          clear hb hmb hMb
          have zb := hbb.size
          (try simp at zb)
          have xq0 : wb.cell? ⟨wa.heap.size, 0, none⟩ = some (.slice none 0 0) := hbb.at (by (repeat (first | with_reducible assumption | (simp [go_sem]; done) | with_reducible apply cell_alloc | with_reducible apply cell_drew | with_reducible apply cell_drewN | (with_reducible apply Ab.at; with_reducible assumption) | (with_reducible refine cell_set ?_ ?_; rotate_left; focus (first | (simp; done) | (simp; omega))) | (with_reducible refine cell_setb ?_ ?_; rotate_left; focus (first | omega | (simp only; omega) | (simp; omega)))))); have xq1 : wb.cell? ⟨wa.heap.size, 1, none⟩ = some (.slice none 0 0) := hbb.at (by (repeat (first | with_reducible assumption | (simp [go_sem]; done) | with_reducible apply cell_alloc | with_reducible apply cell_drew | with_reducible apply cell_drewN | (with_reducible apply Ab.at; with_reducible assumption) | (with_reducible refine cell_set ?_ ?_; rotate_left; focus (first | (simp; done) | (simp; omega))) | (with_reducible refine cell_setb ?_ ?_; rotate_left; focus (first | omega | (simp only; omega) | (simp; omega)))))); have xq2 : wb.cell? ⟨wa.heap.size, 2, none⟩ = some (.int .i64 0) := hbb.at (by (repeat (first | with_reducible assumption | (simp [go_sem]; done) | with_reducible apply cell_alloc | with_reducible apply cell_drew | with_reducible apply cell_drewN | (with_reducible apply Ab.at; with_reducible assumption) | (with_reducible refine cell_set ?_ ?_; rotate_left; focus (first | (simp; done) | (simp; omega))) | (with_reducible refine cell_setb ?_ ?_; rotate_left; focus (first | omega | (simp only; omega) | (simp; omega)))))); have xq3 : wb.cell? ⟨wa.heap.size, 3, none⟩ = some (.bool false) := hbb.at (by (repeat (first | with_reducible assumption | (simp [go_sem]; done) | with_reducible apply cell_alloc | with_reducible apply cell_drew | with_reducible apply cell_drewN | (with_reducible apply Ab.at; with_reducible assumption) | (with_reducible refine cell_set ?_ ?_; rotate_left; focus (first | (simp; done) | (simp; omega))) | (with_reducible refine cell_setb ?_ ?_; rotate_left; focus (first | omega | (simp only; omega) | (simp; omega)))))); have xq4 : wb.cell? ⟨wa.heap.size, 4, none⟩ = some (.slice none 0 0) := hbb.at (by (repeat (first | with_reducible assumption | (simp [go_sem]; done) | with_reducible apply cell_alloc | with_reducible apply cell_drew | with_reducible apply cell_drewN | (with_reducible apply Ab.at; with_reducible assumption) | (with_reducible refine cell_set ?_ ?_; rotate_left; focus (first | (simp; done) | (simp; omega))) | (with_reducible refine cell_setb ?_ ?_; rotate_left; focus (first | omega | (simp only; omega) | (simp; omega)))))); have xq5 : wb.cell? ⟨wa.heap.size, 5, none⟩ = some (.slice none 0 0) := hbb.at (by (repeat (first | with_reducible assumption | (simp [go_sem]; done) | with_reducible apply cell_alloc | with_reducible apply cell_drew | with_reducible apply cell_drewN | (with_reducible apply Ab.at; with_reducible assumption) | (with_reducible refine cell_set ?_ ?_; rotate_left; focus (first | (simp; done) | (simp; omega))) | (with_reducible refine cell_setb ?_ ?_; rotate_left; focus (first | omega | (simp only; omega) | (simp; omega)))))); have xq6 : wb.cell? ⟨wa.heap.size, 6, none⟩ = some (.int .i64 0) := hbb.at (by (repeat (first | with_reducible assumption | (simp [go_sem]; done) | with_reducible apply cell_alloc | with_reducible apply cell_drew | with_reducible apply cell_drewN | (with_reducible apply Ab.at; with_reducible assumption) | (with_reducible refine cell_set ?_ ?_; rotate_left; focus (first | (simp; done) | (simp; omega))) | (with_reducible refine cell_setb ?_ ?_; rotate_left; focus (first | omega | (simp only; omega) | (simp; omega)))))); have xq7 : wb.cell? ⟨wa.heap.size, 7, none⟩ = some (.bool false) := hbb.at (by (repeat (first | with_reducible assumption | (simp [go_sem]; done) | with_reducible apply cell_alloc | with_reducible apply cell_drew | with_reducible apply cell_drewN | (with_reducible apply Ab.at; with_reducible assumption) | (with_reducible refine cell_set ?_ ?_; rotate_left; focus (first | (simp; done) | (simp; omega))) | (with_reducible refine cell_setb ?_ ?_; rotate_left; focus (first | omega | (simp only; omega) | (simp; omega)))))); have xq8 : wb.cell? ⟨wa.heap.size, 8, none⟩ = some (.int .i64 0) := hbb.at (by (repeat (first | with_reducible assumption | (simp [go_sem]; done) | with_reducible apply cell_alloc | with_reducible apply cell_drew | with_reducible apply cell_drewN | (with_reducible apply Ab.at; with_reducible assumption) | (with_reducible refine cell_set ?_ ?_; rotate_left; focus (first | (simp; done) | (simp; omega))) | (with_reducible refine cell_setb ?_ ?_; rotate_left; focus (first | omega | (simp only; omega) | (simp; omega))))))
          have xr0 : wb.frozen? ⟨wa.heap.size, 0, none⟩ = false := (hbb.frozen (p := ⟨wa.heap.size, 0, none⟩) (by first | (simp; done) | omega | (simp; omega))).trans (by (repeat (first | with_reducible assumption | (simp [go_sem]; done) | (with_reducible refine fr_alloc ?_ ?_; focus (first | (simp; done) | omega | (simp; omega))) | (with_reducible refine Ab.fr (by assumption) ?_ ?_; focus (first | (simp; done) | omega | (simp; omega)))))); have xr1 : wb.frozen? ⟨wa.heap.size, 1, none⟩ = false := (hbb.frozen (p := ⟨wa.heap.size, 1, none⟩) (by first | (simp; done) | omega | (simp; omega))).trans (by (repeat (first | with_reducible assumption | (simp [go_sem]; done) | (with_reducible refine fr_alloc ?_ ?_; focus (first | (simp; done) | omega | (simp; omega))) | (with_reducible refine Ab.fr (by assumption) ?_ ?_; focus (first | (simp; done) | omega | (simp; omega)))))); have xr2 : wb.frozen? ⟨wa.heap.size, 2, none⟩ = false := (hbb.frozen (p := ⟨wa.heap.size, 2, none⟩) (by first | (simp; done) | omega | (simp; omega))).trans (by (repeat (first | with_reducible assumption | (simp [go_sem]; done) | (with_reducible refine fr_alloc ?_ ?_; focus (first | (simp; done) | omega | (simp; omega))) | (with_reducible refine Ab.fr (by assumption) ?_ ?_; focus (first | (simp; done) | omega | (simp; omega)))))); have xr3 : wb.frozen? ⟨wa.heap.size, 3, none⟩ = false := (hbb.frozen (p := ⟨wa.heap.size, 3, none⟩) (by first | (simp; done) | omega | (simp; omega))).trans (by (repeat (first | with_reducible assumption | (simp [go_sem]; done) | (with_reducible refine fr_alloc ?_ ?_; focus (first | (simp; done) | omega | (simp; omega))) | (with_reducible refine Ab.fr (by assumption) ?_ ?_; focus (first | (simp; done) | omega | (simp; omega)))))); have xr4 : wb.frozen? ⟨wa.heap.size, 4, none⟩ = false := (hbb.frozen (p := ⟨wa.heap.size, 4, none⟩) (by first | (simp; done) | omega | (simp; omega))).trans (by (repeat (first | with_reducible assumption | (simp [go_sem]; done) | (with_reducible refine fr_alloc ?_ ?_; focus (first | (simp; done) | omega | (simp; omega))) | (with_reducible refine Ab.fr (by assumption) ?_ ?_; focus (first | (simp; done) | omega | (simp; omega)))))); have xr5 : wb.frozen? ⟨wa.heap.size, 5, none⟩ = false := (hbb.frozen (p := ⟨wa.heap.size, 5, none⟩) (by first | (simp; done) | omega | (simp; omega))).trans (by (repeat (first | with_reducible assumption | (simp [go_sem]; done) | (with_reducible refine fr_alloc ?_ ?_; focus (first | (simp; done) | omega | (simp; omega))) | (with_reducible refine Ab.fr (by assumption) ?_ ?_; focus (first | (simp; done) | omega | (simp; omega)))))); have xr6 : wb.frozen? ⟨wa.heap.size, 6, none⟩ = false := (hbb.frozen (p := ⟨wa.heap.size, 6, none⟩) (by first | (simp; done) | omega | (simp; omega))).trans (by (repeat (first | with_reducible assumption | (simp [go_sem]; done) | (with_reducible refine fr_alloc ?_ ?_; focus (first | (simp; done) | omega | (simp; omega))) | (with_reducible refine Ab.fr (by assumption) ?_ ?_; focus (first | (simp; done) | omega | (simp; omega)))))); have xr7 : wb.frozen? ⟨wa.heap.size, 7, none⟩ = false := (hbb.frozen (p := ⟨wa.heap.size, 7, none⟩) (by first | (simp; done) | omega | (simp; omega))).trans (by (repeat (first | with_reducible assumption | (simp [go_sem]; done) | (with_reducible refine fr_alloc ?_ ?_; focus (first | (simp; done) | omega | (simp; omega))) | (with_reducible refine Ab.fr (by assumption) ?_ ?_; focus (first | (simp; done) | omega | (simp; omega)))))); have xr8 : wb.frozen? ⟨wa.heap.size, 8, none⟩ = false := (hbb.frozen (p := ⟨wa.heap.size, 8, none⟩) (by first | (simp; done) | omega | (simp; omega))).trans (by (repeat (first | with_reducible assumption | (simp [go_sem]; done) | (with_reducible refine fr_alloc ?_ ?_; focus (first | (simp; done) | omega | (simp; omega))) | (with_reducible refine Ab.fr (by assumption) ?_ ?_; focus (first | (simp; done) | omega | (simp; omega))))))
          have xna := fun (o : Obj) (j : Nat) => World.cell?_alloc_lt wb o ⟨wa.heap.size, j, none⟩ (by first | (simp; done) | omega | (simp; omega))
          have xnb := fun (o : Obj) (j : Nat) => ((Ab.refl wb).alloc o).frozen (p := ⟨wa.heap.size, j, none⟩) (by first | (simp; done) | omega | (simp; omega))
          (try go_wp2_with fail)
          (refine hK.out _ _ ?_ (fun hHeld => ?_)
           · (try dsimp only); try trivial
           clear hK K
           (try simp only [Act.put, List.setIfInBounds_toArray, List.set_cons_zero, List.set_cons_succ]))
          (refine wpAnyH_take (i := 3) (v := ?_) rfl (by kernel_rfl) (by kernel_rfl) (by kernel_rfl) (fun _ _ _ h => h) (Or.inl ⟨by kernel_rfl, ?_⟩) (by assumption) ?_
           rotate_left
           · (intro w hSw; (try dsimp only at hSw); go_simp; (try with_reducible rfl))
           (try simp only [Act.put, List.setIfInBounds_toArray, List.set_cons_zero, List.set_cons_succ]))
          (refine wpAnyH_take (i := 4) (v := ?_) rfl (by kernel_rfl) (by kernel_rfl) (by kernel_rfl) (fun _ _ _ h => h) (Or.inl ⟨by kernel_rfl, ?_⟩) (by assumption) ?_
           rotate_left
           · (intro w hSw; (try dsimp only at hSw); go_simp; (try with_reducible rfl))
           (try simp only [Act.put, List.setIfInBounds_toArray, List.set_cons_zero, List.set_cons_succ]))
          (refine wpAnyH_take (i := 5) (v := ?_) rfl (by kernel_rfl) (by kernel_rfl) (by kernel_rfl) (fun _ _ _ h => h) (Or.inl ⟨by kernel_rfl, ?_⟩) (by assumption) ?_
           rotate_left
           · (intro w hSw; (try dsimp only at hSw); go_simp; (try with_reducible rfl))
           (try simp only [Act.put, List.setIfInBounds_toArray, List.set_cons_zero, List.set_cons_succ]))
          (refine wpAnyH_take (i := 6) (v := ?_) rfl (by kernel_rfl) (by kernel_rfl) (by kernel_rfl) (fun _ _ _ h => h) (Or.inl ⟨by kernel_rfl, ?_⟩) (by assumption) ?_
           rotate_left
           · (intro w hSw; (try dsimp only at hSw); go_simp; (try with_reducible rfl))
           (try simp only [Act.put, List.setIfInBounds_toArray, List.set_cons_zero, List.set_cons_succ]))
          (refine wpAnyH_ready (rs := [8]) (by kernel_rfl) (by simp) ?_)
          refine AllReadyH.cons rfl (fun K hK => ?_) AllReadyH.nil
          (go_simp
           (refine hK.out _ _ ?_ (fun hHeld => ?_)
            · (try dsimp only); try trivial
            clear hK K
            (try simp only [Act.put, List.setIfInBounds_toArray, List.set_cons_zero, List.set_cons_succ])))
          (refine wpAnyH_ready (rs := [9]) (by kernel_rfl) (by simp) ?_)
          refine AllReadyH.cons rfl (fun K hK => ?_) AllReadyH.nil
          (go_simp
           (refine hK.out _ _ ?_ (fun hHeld => ?_)
            · (try dsimp only); try trivial
            clear hK K
            (try simp only [Act.put, List.setIfInBounds_toArray, List.set_cons_zero, List.set_cons_succ])))
          (refine wpAnyH_ready (rs := [10]) (by kernel_rfl) (by simp) ?_)
          refine AllReadyH.cons rfl (fun K hK => ?_) AllReadyH.nil
          (go_simp
           (refine hK.out _ _ ?_ (fun hHeld => ?_)
            · (try dsimp only); try trivial
            clear hK K
            (try simp only [Act.put, List.setIfInBounds_toArray, List.set_cons_zero, List.set_cons_succ])))
          refine wpAnyH_done (by kernel_rfl) ?_ _
          refine hK _ _ ?_
          refine ⟨rfl, ?_, ?_, ?_, ?_⟩
          · dsimp only; (repeat rw [Array.size_setIfInBounds]); exact hsT
          · dsimp only; (repeat rw [opq_ne _ _ _ _ _ (by decide)]); exact f2
          · dsimp only; (repeat rw [opq_ne _ _ _ _ _ (by decide)]); rw [opq_at _ _ 309 _ _ (by (repeat rw [Array.size_setIfInBounds]); exact hsT) (by decide)]
          · exact (by repeat (first | with_reducible exact Ab.refl _ | with_reducible assumption | with_reducible refine Ab.drew ?_ | with_reducible refine Ab.drewN ?_ _ | with_reducible refine Ab.alloc ?_ _ | with_reducible refine Ab.trans ?_ (by assumption) | with_reducible refine Ab.set ?_ (by first | (simp; done) | omega | (simp; omega)) _))
  ·
    (go_simp
     (refine hK.out _ _ ?_ (fun hHeld => ?_)
      · (try dsimp only); try trivial
      clear hK K
      (try simp only [Act.put, List.setIfInBounds_toArray, List.set_cons_zero, List.set_cons_succ])))
    (refine wpAnyH_ready (rs := [0, 7]) (by kernel_rfl) (by simp) ?_)
    refine (AllReadyH.cons rfl (fun K hK => ?_) (AllReadyH.cons rfl (fun K hK => ?_) AllReadyH.nil))
    ·
      go_simp
      (go_at_call 11)
      refine (sgiven_any _).mono ?_
      rintro e wa ⟨ma, rfl, hMa, hba⟩
      have za := hba.size
      (try simp at za)
      (try go_wp2_with fail)
      (refine hK.out _ _ ?_ (fun hHeld => ?_)
       · (try dsimp only); try trivial
       clear hK K
       (try simp only [Act.put, List.setIfInBounds_toArray, List.set_cons_zero, List.set_cons_succ]))
      (refine wpAnyH_ready (rs := [2, 7]) (by kernel_rfl) (by simp) ?_)
      refine (AllReadyH.cons rfl (fun K hK => ?_) (AllReadyH.cons rfl (fun K hK => ?_) AllReadyH.nil))
      ·
        go_simp
        (go_at_call 10)
        refine (ssave_n ma Slots.G2 _ (hMa.ab (by repeat (first | with_reducible exact Ab.refl _ | with_reducible assumption | with_reducible refine Ab.drew ?_ | with_reducible refine Ab.drewN ?_ _ | with_reducible refine Ab.alloc ?_ _ | with_reducible refine Ab.trans ?_ (by assumption) | with_reducible refine Ab.set ?_ (by first | (simp; done) | omega | (simp; omega)) _))) (some ⟨wr.heap.size, 0, none⟩) b1 1001 kk1.out 1001 ((yy1.out _ _ (0, 0) (by (repeat (first | exact new_plain (by first | (simp; done) | omega | (simp; omega)) | with_reducible refine old_alloc ?_ | with_reducible refine old_drew ?_ | with_reducible refine old_set ?_ (by first | (simp; done) | omega | (simp; omega)) | with_reducible refine old_ab (by assumption) ?_))))) (by omega)).mono ?_
        rintro e wb ⟨rb, nb, eb, mb, hb, rfl, hMb, hbb⟩
        have hmb := (Prod.mk.inj (hb.out.trans (Slots.nm_many b1 kk1.out))).2
        obtain ⟨rfl, rfl⟩ := Prod.mk.inj hmb
        clear hb hmb hMb
        have zb := hbb.size
        (try simp at zb)
        (try go_wp2_with fail)
        (refine hK.out _ _ ?_ (fun hHeld => ?_)
         · (try dsimp only); try trivial
         clear hK K
         (try simp only [Act.put, List.setIfInBounds_toArray, List.set_cons_zero, List.set_cons_succ]))
        (refine wpAnyH_take (i := 3) (v := ?_) rfl (by kernel_rfl) (by kernel_rfl) (by kernel_rfl) (fun _ _ _ h => h) (Or.inl ⟨by kernel_rfl, ?_⟩) (by assumption) ?_
         rotate_left
         · (intro w hSw; (try dsimp only at hSw); go_simp; (try with_reducible rfl))
         (try simp only [Act.put, List.setIfInBounds_toArray, List.set_cons_zero, List.set_cons_succ]))
        (refine wpAnyH_take (i := 4) (v := ?_) rfl (by kernel_rfl) (by kernel_rfl) (by kernel_rfl) (fun _ _ _ h => h) (Or.inl ⟨by kernel_rfl, ?_⟩) (by assumption) ?_
         rotate_left
         · (intro w hSw; (try dsimp only at hSw); go_simp; (try with_reducible rfl))
         (try simp only [Act.put, List.setIfInBounds_toArray, List.set_cons_zero, List.set_cons_succ]))
        (refine wpAnyH_take (i := 5) (v := ?_) rfl (by kernel_rfl) (by kernel_rfl) (by kernel_rfl) (fun _ _ _ h => h) (Or.inl ⟨by kernel_rfl, ?_⟩) (by assumption) ?_
         rotate_left
         · (intro w hSw; (try dsimp only at hSw); go_simp; (try with_reducible rfl))
         (try simp only [Act.put, List.setIfInBounds_toArray, List.set_cons_zero, List.set_cons_succ]))
        (refine wpAnyH_take (i := 6) (v := ?_) rfl (by kernel_rfl) (by kernel_rfl) (by kernel_rfl) (fun _ _ _ h => h) (Or.inl ⟨by kernel_rfl, ?_⟩) (by assumption) ?_
         rotate_left
         · (intro w hSw; (try dsimp only at hSw); go_simp; (try with_reducible rfl))
         (try simp only [Act.put, List.setIfInBounds_toArray, List.set_cons_zero, List.set_cons_succ]))
        (refine wpAnyH_ready (rs := [7]) (by kernel_rfl) (by simp) ?_)
        refine AllReadyH.cons rfl (fun K hK => ?_) AllReadyH.nil
        (go_simp
         (refine hK.out _ _ ?_ (fun hHeld => ?_)
          · (try dsimp only); try trivial
          clear hK K
          (try simp only [Act.put, List.setIfInBounds_toArray, List.set_cons_zero, List.set_cons_succ])))
        (refine wpAnyH_ready (rs := [8]) (by kernel_rfl) (by simp) ?_)
        refine AllReadyH.cons rfl (fun K hK => ?_) AllReadyH.nil
        (go_simp
         (refine hK.out _ _ ?_ (fun hHeld => ?_)
          · (try dsimp only); try trivial
          clear hK K
          (try simp only [Act.put, List.setIfInBounds_toArray, List.set_cons_zero, List.set_cons_succ])))
        (refine wpAnyH_ready (rs := [9]) (by kernel_rfl) (by simp) ?_)
        refine AllReadyH.cons rfl (fun K hK => ?_) AllReadyH.nil
        (go_simp
         (refine hK.out _ _ ?_ (fun hHeld => ?_)
          · (try dsimp only); try trivial
          clear hK K
          (try simp only [Act.put, List.setIfInBounds_toArray, List.set_cons_zero, List.set_cons_succ])))
        (refine wpAnyH_ready (rs := [10]) (by kernel_rfl) (by simp) ?_)
        refine AllReadyH.cons rfl (fun K hK => ?_) AllReadyH.nil
        (go_simp
         (refine hK.out _ _ ?_ (fun hHeld => ?_)
          · (try dsimp only); try trivial
          clear hK K
          (try simp only [Act.put, List.setIfInBounds_toArray, List.set_cons_zero, List.set_cons_succ])))
        refine wpAnyH_done (by kernel_rfl) ?_ _
        refine hK _ _ ?_
        refine ⟨rfl, ?_, ?_, ?_, ?_⟩
        · dsimp only; (repeat rw [Array.size_setIfInBounds]); exact hsT
        · dsimp only; (repeat rw [opq_ne _ _ _ _ _ (by decide)]); exact f2
        · dsimp only; (repeat rw [opq_ne _ _ _ _ _ (by decide)]); rw [opq_at _ _ 309 _ _ (by (repeat rw [Array.size_setIfInBounds]); exact hsT) (by decide)]
        · exact (by repeat (first | with_reducible exact Ab.refl _ | with_reducible assumption | with_reducible refine Ab.drew ?_ | with_reducible refine Ab.drewN ?_ _ | with_reducible refine Ab.alloc ?_ _ | with_reducible refine Ab.trans ?_ (by assumption) | with_reducible refine Ab.set ?_ (by first | (simp; done) | omega | (simp; omega)) _))
      ·
        (go_simp
         (refine hK.out _ _ ?_ (fun hHeld => ?_)
          · (try dsimp only); try trivial
          clear hK K
          (try simp only [Act.put, List.setIfInBounds_toArray, List.set_cons_zero, List.set_cons_succ])))
        (refine wpAnyH_ready (rs := [2]) (by kernel_rfl) (by simp) ?_)
        refine (AllReadyH.cons rfl (fun K hK => ?_) AllReadyH.nil)
        ·
          go_simp
          (go_at_call 10)
          refine (ssave_n ma Slots.G2 _ (hMa.ab (by repeat (first | with_reducible exact Ab.refl _ | with_reducible assumption | with_reducible refine Ab.drew ?_ | with_reducible refine Ab.drewN ?_ _ | with_reducible refine Ab.alloc ?_ _ | with_reducible refine Ab.trans ?_ (by assumption) | with_reducible refine Ab.set ?_ (by first | (simp; done) | omega | (simp; omega)) _))) (some ⟨wr.heap.size, 0, none⟩) b1 1001 kk1.out 1001 ((yy1.out _ _ (0, 0) (by (repeat (first | exact new_plain (by first | (simp; done) | omega | (simp; omega)) | with_reducible refine old_alloc ?_ | with_reducible refine old_drew ?_ | with_reducible refine old_set ?_ (by first | (simp; done) | omega | (simp; omega)) | with_reducible refine old_ab (by assumption) ?_))))) (by omega)).mono ?_
          rintro e wb ⟨rb, nb, eb, mb, hb, rfl, hMb, hbb⟩
          have hmb := (Prod.mk.inj (hb.out.trans (Slots.nm_many b1 kk1.out))).2
          obtain ⟨rfl, rfl⟩ := Prod.mk.inj hmb
          clear hb hmb hMb
          have zb := hbb.size
          (try simp at zb)
          have xq0 : wb.cell? ⟨wa.heap.size, 0, none⟩ = some (.slice none 0 0) := hbb.at (by (repeat (first | with_reducible assumption | (simp [go_sem]; done) | with_reducible apply cell_alloc | with_reducible apply cell_drew | with_reducible apply cell_drewN | (with_reducible apply Ab.at; with_reducible assumption) | (with_reducible refine cell_set ?_ ?_; rotate_left; focus (first | (simp; done) | (simp; omega))) | (with_reducible refine cell_setb ?_ ?_; rotate_left; focus (first | omega | (simp only; omega) | (simp; omega)))))); have xq1 : wb.cell? ⟨wa.heap.size, 1, none⟩ = some (.slice none 0 0) := hbb.at (by (repeat (first | with_reducible assumption | (simp [go_sem]; done) | with_reducible apply cell_alloc | with_reducible apply cell_drew | with_reducible apply cell_drewN | (with_reducible apply Ab.at; with_reducible assumption) | (with_reducible refine cell_set ?_ ?_; rotate_left; focus (first | (simp; done) | (simp; omega))) | (with_reducible refine cell_setb ?_ ?_; rotate_left; focus (first | omega | (simp only; omega) | (simp; omega)))))); have xq2 : wb.cell? ⟨wa.heap.size, 2, none⟩ = some (.int .i64 0) := hbb.at (by (repeat (first | with_reducible assumption | (simp [go_sem]; done) | with_reducible apply cell_alloc | with_reducible apply cell_drew | with_reducible apply cell_drewN | (with_reducible apply Ab.at; with_reducible assumption) | (with_reducible refine cell_set ?_ ?_; rotate_left; focus (first | (simp; done) | (simp; omega))) | (with_reducible refine cell_setb ?_ ?_; rotate_left; focus (first | omega | (simp only; omega) | (simp; omega)))))); have xq3 : wb.cell? ⟨wa.heap.size, 3, none⟩ = some (.bool false) := hbb.at (by (repeat (first | with_reducible assumption | (simp [go_sem]; done) | with_reducible apply cell_alloc | with_reducible apply cell_drew | with_reducible apply cell_drewN | (with_reducible apply Ab.at; with_reducible assumption) | (with_reducible refine cell_set ?_ ?_; rotate_left; focus (first | (simp; done) | (simp; omega))) | (with_reducible refine cell_setb ?_ ?_; rotate_left; focus (first | omega | (simp only; omega) | (simp; omega)))))); have xq4 : wb.cell? ⟨wa.heap.size, 4, none⟩ = some (.slice none 0 0) := hbb.at (by (repeat (first | with_reducible assumption | (simp [go_sem]; done) | with_reducible apply cell_alloc | with_reducible apply cell_drew | with_reducible apply cell_drewN | (with_reducible apply Ab.at; with_reducible assumption) | (with_reducible refine cell_set ?_ ?_; rotate_left; focus (first | (simp; done) | (simp; omega))) | (with_reducible refine cell_setb ?_ ?_; rotate_left; focus (first | omega | (simp only; omega) | (simp; omega)))))); have xq5 : wb.cell? ⟨wa.heap.size, 5, none⟩ = some (.slice none 0 0) := hbb.at (by (repeat (first | with_reducible assumption | (simp [go_sem]; done) | with_reducible apply cell_alloc | with_reducible apply cell_drew | with_reducible apply cell_drewN | (with_reducible apply Ab.at; with_reducible assumption) | (with_reducible refine cell_set ?_ ?_; rotate_left; focus (first | (simp; done) | (simp; omega))) | (with_reducible refine cell_setb ?_ ?_; rotate_left; focus (first | omega | (simp only; omega) | (simp; omega)))))); have xq6 : wb.cell? ⟨wa.heap.size, 6, none⟩ = some (.int .i64 0) := hbb.at (by (repeat (first | with_reducible assumption | (simp [go_sem]; done) | with_reducible apply cell_alloc | with_reducible apply cell_drew | with_reducible apply cell_drewN | (with_reducible apply Ab.at; with_reducible assumption) | (with_reducible refine cell_set ?_ ?_; rotate_left; focus (first | (simp; done) | (simp; omega))) | (with_reducible refine cell_setb ?_ ?_; rotate_left; focus (first | omega | (simp only; omega) | (simp; omega)))))); have xq7 : wb.cell? ⟨wa.heap.size, 7, none⟩ = some (.bool false) := hbb.at (by (repeat (first | with_reducible assumption | (simp [go_sem]; done) | with_reducible apply cell_alloc | with_reducible apply cell_drew | with_reducible apply cell_drewN | (with_reducible apply Ab.at; with_reducible assumption) | (with_reducible refine cell_set ?_ ?_; rotate_left; focus (first | (simp; done) | (simp; omega))) | (with_reducible refine cell_setb ?_ ?_; rotate_left; focus (first | omega | (simp only; omega) | (simp; omega)))))); have xq8 : wb.cell? ⟨wa.heap.size, 8, none⟩ = some (.int .i64 0) := hbb.at (by (repeat (first | with_reducible assumption | (simp [go_sem]; done) | with_reducible apply cell_alloc | with_reducible apply cell_drew | with_reducible apply cell_drewN | (with_reducible apply Ab.at; with_reducible assumption) | (with_reducible refine cell_set ?_ ?_; rotate_left; focus (first | (simp; done) | (simp; omega))) | (with_reducible refine cell_setb ?_ ?_; rotate_left; focus (first | omega | (simp only; omega) | (simp; omega))))))
          have xr0 : wb.frozen? ⟨wa.heap.size, 0, none⟩ = false := (hbb.frozen (p := ⟨wa.heap.size, 0, none⟩) (by first | (simp; done) | omega | (simp; omega))).trans (by (repeat (first | with_reducible assumption | (simp [go_sem]; done) | (with_reducible refine fr_alloc ?_ ?_; focus (first | (simp; done) | omega | (simp; omega))) | (with_reducible refine Ab.fr (by assumption) ?_ ?_; focus (first | (simp; done) | omega | (simp; omega)))))); have xr1 : wb.frozen? ⟨wa.heap.size, 1, none⟩ = false := (hbb.frozen (p := ⟨wa.heap.size, 1, none⟩) (by first | (simp; done) | omega | (simp; omega))).trans (by (repeat (first | with_reducible assumption | (simp [go_sem]; done) | (with_reducible refine fr_alloc ?_ ?_; focus (first | (simp; done) | omega | (simp; omega))) | (with_reducible refine Ab.fr (by assumption) ?_ ?_; focus (first | (simp; done) | omega | (simp; omega)))))); have xr2 : wb.frozen? ⟨wa.heap.size, 2, none⟩ = false := (hbb.frozen (p := ⟨wa.heap.size, 2, none⟩) (by first | (simp; done) | omega | (simp; omega))).trans (by (repeat (first | with_reducible assumption | (simp [go_sem]; done) | (with_reducible refine fr_alloc ?_ ?_; focus (first | (simp; done) | omega | (simp; omega))) | (with_reducible refine Ab.fr (by assumption) ?_ ?_; focus (first | (simp; done) | omega | (simp; omega)))))); have xr3 : wb.frozen? ⟨wa.heap.size, 3, none⟩ = false := (hbb.frozen (p := ⟨wa.heap.size, 3, none⟩) (by first | (simp; done) | omega | (simp; omega))).trans (by (repeat (first | with_reducible assumption | (simp [go_sem]; done) | (with_reducible refine fr_alloc ?_ ?_; focus (first | (simp; done) | omega | (simp; omega))) | (with_reducible refine Ab.fr (by assumption) ?_ ?_; focus (first | (simp; done) | omega | (simp; omega)))))); have xr4 : wb.frozen? ⟨wa.heap.size, 4, none⟩ = false := (hbb.frozen (p := ⟨wa.heap.size, 4, none⟩) (by first | (simp; done) | omega | (simp; omega))).trans (by (repeat (first | with_reducible assumption | (simp [go_sem]; done) | (with_reducible refine fr_alloc ?_ ?_; focus (first | (simp; done) | omega | (simp; omega))) | (with_reducible refine Ab.fr (by assumption) ?_ ?_; focus (first | (simp; done) | omega | (simp; omega)))))); have xr5 : wb.frozen? ⟨wa.heap.size, 5, none⟩ = false := (hbb.frozen (p := ⟨wa.heap.size, 5, none⟩) (by first | (simp; done) | omega | (simp; omega))).trans (by (repeat (first | with_reducible assumption | (simp [go_sem]; done) | (with_reducible refine fr_alloc ?_ ?_; focus (first | (simp; done) | omega | (simp; omega))) | (with_reducible refine Ab.fr (by assumption) ?_ ?_; focus (first | (simp; done) | omega | (simp; omega)))))); have xr6 : wb.frozen? ⟨wa.heap.size, 6, none⟩ = false := (hbb.frozen (p := ⟨wa.heap.size, 6, none⟩) (by first | (simp; done) | omega | (simp; omega))).trans (by (repeat (first | with_reducible assumption | (simp [go_sem]; done) | (with_reducible refine fr_alloc ?_ ?_; focus (first | (simp; done) | omega | (simp; omega))) | (with_reducible refine Ab.fr (by assumption) ?_ ?_; focus (first | (simp; done) | omega | (simp; omega)))))); have xr7 : wb.frozen? ⟨wa.heap.size, 7, none⟩ = false := (hbb.frozen (p := ⟨wa.heap.size, 7, none⟩) (by first | (simp; done) | omega | (simp; omega))).trans (by (repeat (first | with_reducible assumption | (simp [go_sem]; done) | (with_reducible refine fr_alloc ?_ ?_; focus (first | (simp; done) | omega | (simp; omega))) | (with_reducible refine Ab.fr (by assumption) ?_ ?_; focus (first | (simp; done) | omega | (simp; omega)))))); have xr8 : wb.frozen? ⟨wa.heap.size, 8, none⟩ = false := (hbb.frozen (p := ⟨wa.heap.size, 8, none⟩) (by first | (simp; done) | omega | (simp; omega))).trans (by (repeat (first | with_reducible assumption | (simp [go_sem]; done) | (with_reducible refine fr_alloc ?_ ?_; focus (first | (simp; done) | omega | (simp; omega))) | (with_reducible refine Ab.fr (by assumption) ?_ ?_; focus (first | (simp; done) | omega | (simp; omega))))))
          have xna := fun (o : Obj) (j : Nat) => World.cell?_alloc_lt wb o ⟨wa.heap.size, j, none⟩ (by first | (simp; done) | omega | (simp; omega))
          have xnb := fun (o : Obj) (j : Nat) => ((Ab.refl wb).alloc o).frozen (p := ⟨wa.heap.size, j, none⟩) (by first | (simp; done) | omega | (simp; omega))
          (try go_wp2_with fail)
          (refine hK.out _ _ ?_ (fun hHeld => ?_)
           · (try dsimp only); try trivial
           clear hK K
           (try simp only [Act.put, List.setIfInBounds_toArray, List.set_cons_zero, List.set_cons_succ]))
          (refine wpAnyH_take (i := 3) (v := ?_) rfl (by kernel_rfl) (by kernel_rfl) (by kernel_rfl) (fun _ _ _ h => h) (Or.inl ⟨by kernel_rfl, ?_⟩) (by assumption) ?_
           rotate_left
           · (intro w hSw; (try dsimp only at hSw); go_simp; (try with_reducible rfl))
           (try simp only [Act.put, List.setIfInBounds_toArray, List.set_cons_zero, List.set_cons_succ]))
          (refine wpAnyH_take (i := 4) (v := ?_) rfl (by kernel_rfl) (by kernel_rfl) (by kernel_rfl) (fun _ _ _ h => h) (Or.inl ⟨by kernel_rfl, ?_⟩) (by assumption) ?_
           rotate_left
           · (intro w hSw; (try dsimp only at hSw); go_simp; (try with_reducible rfl))
           (try simp only [Act.put, List.setIfInBounds_toArray, List.set_cons_zero, List.set_cons_succ]))
          (refine wpAnyH_take (i := 5) (v := ?_) rfl (by kernel_rfl) (by kernel_rfl) (by kernel_rfl) (fun _ _ _ h => h) (Or.inl ⟨by kernel_rfl, ?_⟩) (by assumption) ?_
           rotate_left
           · (intro w hSw; (try dsimp only at hSw); go_simp; (try with_reducible rfl))
           (try simp only [Act.put, List.setIfInBounds_toArray, List.set_cons_zero, List.set_cons_succ]))
          (refine wpAnyH_take (i := 6) (v := ?_) rfl (by kernel_rfl) (by kernel_rfl) (by kernel_rfl) (fun _ _ _ h => h) (Or.inl ⟨by kernel_rfl, ?_⟩) (by assumption) ?_
           rotate_left
           · (intro w hSw; (try dsimp only at hSw); go_simp; (try with_reducible rfl))
           (try simp only [Act.put, List.setIfInBounds_toArray, List.set_cons_zero, List.set_cons_succ]))
          (refine wpAnyH_ready (rs := [8]) (by kernel_rfl) (by simp) ?_)
          refine AllReadyH.cons rfl (fun K hK => ?_) AllReadyH.nil
          (go_simp
           (refine hK.out _ _ ?_ (fun hHeld => ?_)
            · (try dsimp only); try trivial
            clear hK K
            (try simp only [Act.put, List.setIfInBounds_toArray, List.set_cons_zero, List.set_cons_succ])))
          (refine wpAnyH_ready (rs := [9]) (by kernel_rfl) (by simp) ?_)
          refine AllReadyH.cons rfl (fun K hK => ?_) AllReadyH.nil
          (go_simp
           (refine hK.out _ _ ?_ (fun hHeld => ?_)
            · (try dsimp only); try trivial
            clear hK K
            (try simp only [Act.put, List.setIfInBounds_toArray, List.set_cons_zero, List.set_cons_succ])))
          (refine wpAnyH_ready (rs := [10]) (by kernel_rfl) (by simp) ?_)
          refine AllReadyH.cons rfl (fun K hK => ?_) AllReadyH.nil
          (go_simp
           (refine hK.out _ _ ?_ (fun hHeld => ?_)
            · (try dsimp only); try trivial
            clear hK K
            (try simp only [Act.put, List.setIfInBounds_toArray, List.set_cons_zero, List.set_cons_succ])))
          refine wpAnyH_done (by kernel_rfl) ?_ _
          refine hK _ _ ?_
          refine ⟨rfl, ?_, ?_, ?_, ?_⟩
          · dsimp only; (repeat rw [Array.size_setIfInBounds]); exact hsT
          · dsimp only; (repeat rw [opq_ne _ _ _ _ _ (by decide)]); exact f2
          · dsimp only; (repeat rw [opq_ne _ _ _ _ _ (by decide)]); rw [opq_at _ _ 309 _ _ (by (repeat rw [Array.size_setIfInBounds]); exact hsT) (by decide)]
          · exact (by repeat (first | with_reducible exact Ab.refl _ | with_reducible assumption | with_reducible refine Ab.drew ?_ | with_reducible refine Ab.drewN ?_ _ | with_reducible refine Ab.alloc ?_ _ | with_reducible refine Ab.trans ?_ (by assumption) | with_reducible refine Ab.set ?_ (by first | (simp; done) | omega | (simp; omega)) _))
    ·
      (go_simp
       (refine hK.out _ _ ?_ (fun hHeld => ?_)
        · (try dsimp only); try trivial
        clear hK K
        (try simp only [Act.put, List.setIfInBounds_toArray, List.set_cons_zero, List.set_cons_succ])))
      (refine wpAnyH_ready (rs := [0]) (by kernel_rfl) (by simp) ?_)
      refine (AllReadyH.cons rfl (fun K hK => ?_) AllReadyH.nil)
      ·
        go_simp
        (go_at_call 11)
        refine (sgiven_any _).mono ?_
        rintro e wa ⟨ma, rfl, hMa, hba⟩
        have za := hba.size
        (try simp at za)
        have yq0 : wa.cell? ⟨wr.heap.size + 1, 0, none⟩ = some (.slice none 0 0) := hba.at (by (repeat (first | with_reducible assumption | (simp [go_sem]; done) | with_reducible apply cell_alloc | with_reducible apply cell_drew | with_reducible apply cell_drewN | (with_reducible apply Ab.at; with_reducible assumption) | (with_reducible refine cell_set ?_ ?_; rotate_left; focus (first | (simp; done) | (simp; omega))) | (with_reducible refine cell_setb ?_ ?_; rotate_left; focus (first | omega | (simp only; omega) | (simp; omega)))))); have yq1 : wa.cell? ⟨wr.heap.size + 1, 1, none⟩ = some (.slice none 0 0) := hba.at (by (repeat (first | with_reducible assumption | (simp [go_sem]; done) | with_reducible apply cell_alloc | with_reducible apply cell_drew | with_reducible apply cell_drewN | (with_reducible apply Ab.at; with_reducible assumption) | (with_reducible refine cell_set ?_ ?_; rotate_left; focus (first | (simp; done) | (simp; omega))) | (with_reducible refine cell_setb ?_ ?_; rotate_left; focus (first | omega | (simp only; omega) | (simp; omega)))))); have yq2 : wa.cell? ⟨wr.heap.size + 1, 2, none⟩ = some (.int .i64 0) := hba.at (by (repeat (first | with_reducible assumption | (simp [go_sem]; done) | with_reducible apply cell_alloc | with_reducible apply cell_drew | with_reducible apply cell_drewN | (with_reducible apply Ab.at; with_reducible assumption) | (with_reducible refine cell_set ?_ ?_; rotate_left; focus (first | (simp; done) | (simp; omega))) | (with_reducible refine cell_setb ?_ ?_; rotate_left; focus (first | omega | (simp only; omega) | (simp; omega)))))); have yq3 : wa.cell? ⟨wr.heap.size + 1, 3, none⟩ = some (.bool false) := hba.at (by (repeat (first | with_reducible assumption | (simp [go_sem]; done) | with_reducible apply cell_alloc | with_reducible apply cell_drew | with_reducible apply cell_drewN | (with_reducible apply Ab.at; with_reducible assumption) | (with_reducible refine cell_set ?_ ?_; rotate_left; focus (first | (simp; done) | (simp; omega))) | (with_reducible refine cell_setb ?_ ?_; rotate_left; focus (first | omega | (simp only; omega) | (simp; omega)))))); have yq4 : wa.cell? ⟨wr.heap.size + 1, 4, none⟩ = some (.slice none 0 0) := hba.at (by (repeat (first | with_reducible assumption | (simp [go_sem]; done) | with_reducible apply cell_alloc | with_reducible apply cell_drew | with_reducible apply cell_drewN | (with_reducible apply Ab.at; with_reducible assumption) | (with_reducible refine cell_set ?_ ?_; rotate_left; focus (first | (simp; done) | (simp; omega))) | (with_reducible refine cell_setb ?_ ?_; rotate_left; focus (first | omega | (simp only; omega) | (simp; omega)))))); have yq5 : wa.cell? ⟨wr.heap.size + 1, 5, none⟩ = some (.slice none 0 0) := hba.at (by (repeat (first | with_reducible assumption | (simp [go_sem]; done) | with_reducible apply cell_alloc | with_reducible apply cell_drew | with_reducible apply cell_drewN | (with_reducible apply Ab.at; with_reducible assumption) | (with_reducible refine cell_set ?_ ?_; rotate_left; focus (first | (simp; done) | (simp; omega))) | (with_reducible refine cell_setb ?_ ?_; rotate_left; focus (first | omega | (simp only; omega) | (simp; omega)))))); have yq6 : wa.cell? ⟨wr.heap.size + 1, 6, none⟩ = some (.int .i64 0) := hba.at (by (repeat (first | with_reducible assumption | (simp [go_sem]; done) | with_reducible apply cell_alloc | with_reducible apply cell_drew | with_reducible apply cell_drewN | (with_reducible apply Ab.at; with_reducible assumption) | (with_reducible refine cell_set ?_ ?_; rotate_left; focus (first | (simp; done) | (simp; omega))) | (with_reducible refine cell_setb ?_ ?_; rotate_left; focus (first | omega | (simp only; omega) | (simp; omega)))))); have yq7 : wa.cell? ⟨wr.heap.size + 1, 7, none⟩ = some (.bool false) := hba.at (by (repeat (first | with_reducible assumption | (simp [go_sem]; done) | with_reducible apply cell_alloc | with_reducible apply cell_drew | with_reducible apply cell_drewN | (with_reducible apply Ab.at; with_reducible assumption) | (with_reducible refine cell_set ?_ ?_; rotate_left; focus (first | (simp; done) | (simp; omega))) | (with_reducible refine cell_setb ?_ ?_; rotate_left; focus (first | omega | (simp only; omega) | (simp; omega)))))); have yq8 : wa.cell? ⟨wr.heap.size + 1, 8, none⟩ = some (.int .i64 0) := hba.at (by (repeat (first | with_reducible assumption | (simp [go_sem]; done) | with_reducible apply cell_alloc | with_reducible apply cell_drew | with_reducible apply cell_drewN | (with_reducible apply Ab.at; with_reducible assumption) | (with_reducible refine cell_set ?_ ?_; rotate_left; focus (first | (simp; done) | (simp; omega))) | (with_reducible refine cell_setb ?_ ?_; rotate_left; focus (first | omega | (simp only; omega) | (simp; omega))))))
        have yr0 : wa.frozen? ⟨wr.heap.size + 1, 0, none⟩ = false := (hba.frozen (p := ⟨wr.heap.size + 1, 0, none⟩) (by first | (simp; done) | omega | (simp; omega))).trans (by (repeat (first | with_reducible assumption | (simp [go_sem]; done) | (with_reducible refine fr_alloc ?_ ?_; focus (first | (simp; done) | omega | (simp; omega))) | (with_reducible refine Ab.fr (by assumption) ?_ ?_; focus (first | (simp; done) | omega | (simp; omega)))))); have yr1 : wa.frozen? ⟨wr.heap.size + 1, 1, none⟩ = false := (hba.frozen (p := ⟨wr.heap.size + 1, 1, none⟩) (by first | (simp; done) | omega | (simp; omega))).trans (by (repeat (first | with_reducible assumption | (simp [go_sem]; done) | (with_reducible refine fr_alloc ?_ ?_; focus (first | (simp; done) | omega | (simp; omega))) | (with_reducible refine Ab.fr (by assumption) ?_ ?_; focus (first | (simp; done) | omega | (simp; omega)))))); have yr2 : wa.frozen? ⟨wr.heap.size + 1, 2, none⟩ = false := (hba.frozen (p := ⟨wr.heap.size + 1, 2, none⟩) (by first | (simp; done) | omega | (simp; omega))).trans (by (repeat (first | with_reducible assumption | (simp [go_sem]; done) | (with_reducible refine fr_alloc ?_ ?_; focus (first | (simp; done) | omega | (simp; omega))) | (with_reducible refine Ab.fr (by assumption) ?_ ?_; focus (first | (simp; done) | omega | (simp; omega)))))); have yr3 : wa.frozen? ⟨wr.heap.size + 1, 3, none⟩ = false := (hba.frozen (p := ⟨wr.heap.size + 1, 3, none⟩) (by first | (simp; done) | omega | (simp; omega))).trans (by (repeat (first | with_reducible assumption | (simp [go_sem]; done) | (with_reducible refine fr_alloc ?_ ?_; focus (first | (simp; done) | omega | (simp; omega))) | (with_reducible refine Ab.fr (by assumption) ?_ ?_; focus (first | (simp; done) | omega | (simp; omega)))))); have yr4 : wa.frozen? ⟨wr.heap.size + 1, 4, none⟩ = false := (hba.frozen (p := ⟨wr.heap.size + 1, 4, none⟩) (by first | (simp; done) | omega | (simp; omega))).trans (by (repeat (first | with_reducible assumption | (simp [go_sem]; done) | (with_reducible refine fr_alloc ?_ ?_; focus (first | (simp; done) | omega | (simp; omega))) | (with_reducible refine Ab.fr (by assumption) ?_ ?_; focus (first | (simp; done) | omega | (simp; omega)))))); have yr5 : wa.frozen? ⟨wr.heap.size + 1, 5, none⟩ = false := (hba.frozen (p := ⟨wr.heap.size + 1, 5, none⟩) (by first | (simp; done) | omega | (simp; omega))).trans (by (repeat (first | with_reducible assumption | (simp [go_sem]; done) | (with_reducible refine fr_alloc ?_ ?_; focus (first | (simp; done) | omega | (simp; omega))) | (with_reducible refine Ab.fr (by assumption) ?_ ?_; focus (first | (simp; done) | omega | (simp; omega)))))); have yr6 : wa.frozen? ⟨wr.heap.size + 1, 6, none⟩ = false := (hba.frozen (p := ⟨wr.heap.size + 1, 6, none⟩) (by first | (simp; done) | omega | (simp; omega))).trans (by (repeat (first | with_reducible assumption | (simp [go_sem]; done) | (with_reducible refine fr_alloc ?_ ?_; focus (first | (simp; done) | omega | (simp; omega))) | (with_reducible refine Ab.fr (by assumption) ?_ ?_; focus (first | (simp; done) | omega | (simp; omega)))))); have yr7 : wa.frozen? ⟨wr.heap.size + 1, 7, none⟩ = false := (hba.frozen (p := ⟨wr.heap.size + 1, 7, none⟩) (by first | (simp; done) | omega | (simp; omega))).trans (by (repeat (first | with_reducible assumption | (simp [go_sem]; done) | (with_reducible refine fr_alloc ?_ ?_; focus (first | (simp; done) | omega | (simp; omega))) | (with_reducible refine Ab.fr (by assumption) ?_ ?_; focus (first | (simp; done) | omega | (simp; omega)))))); have yr8 : wa.frozen? ⟨wr.heap.size + 1, 8, none⟩ = false := (hba.frozen (p := ⟨wr.heap.size + 1, 8, none⟩) (by first | (simp; done) | omega | (simp; omega))).trans (by (repeat (first | with_reducible assumption | (simp [go_sem]; done) | (with_reducible refine fr_alloc ?_ ?_; focus (first | (simp; done) | omega | (simp; omega))) | (with_reducible refine Ab.fr (by assumption) ?_ ?_; focus (first | (simp; done) | omega | (simp; omega))))))
        have yna := fun (o : Obj) (j : Nat) => World.cell?_alloc_lt wa o ⟨wr.heap.size + 1, j, none⟩ (by first | (simp; done) | omega | (simp; omega))
        have ynb := fun (o : Obj) (j : Nat) => ((Ab.refl wa).alloc o).frozen (p := ⟨wr.heap.size + 1, j, none⟩) (by first | (simp; done) | omega | (simp; omega))
        (try go_wp2_with fail)
        (refine hK.out _ _ ?_ (fun hHeld => ?_)
         · (try dsimp only); try trivial
         clear hK K
         (try simp only [Act.put, List.setIfInBounds_toArray, List.set_cons_zero, List.set_cons_succ]))
        (refine wpAnyH_ready (rs := [2]) (by kernel_rfl) (by simp) ?_)
        refine (AllReadyH.cons rfl (fun K hK => ?_) AllReadyH.nil)
        ·
          go_simp
          (go_at_call 10)
          refine (ssave_n ma Slots.G2 _ (hMa.ab (by repeat (first | with_reducible exact Ab.refl _ | with_reducible assumption | with_reducible refine Ab.drew ?_ | with_reducible refine Ab.drewN ?_ _ | with_reducible refine Ab.alloc ?_ _ | with_reducible refine Ab.trans ?_ (by assumption) | with_reducible refine Ab.set ?_ (by first | (simp; done) | omega | (simp; omega)) _))) (some ⟨wr.heap.size, 0, none⟩) b1 1001 kk1.out 1001 ((yy1.out _ _ (0, 0) (by (repeat (first | exact new_plain (by first | (simp; done) | omega | (simp; omega)) | with_reducible refine old_alloc ?_ | with_reducible refine old_drew ?_ | with_reducible refine old_set ?_ (by first | (simp; done) | omega | (simp; omega)) | with_reducible refine old_ab (by assumption) ?_))))) (by omega)).mono ?_
          rintro e wb ⟨rb, nb, eb, mb, hb, rfl, hMb, hbb⟩
          have hmb := (Prod.mk.inj (hb.out.trans (Slots.nm_many b1 kk1.out))).2
          obtain ⟨rfl, rfl⟩ := Prod.mk.inj hmb
          clear hb hmb hMb
          have zb := hbb.size
          (try simp at zb)
          have xq0 : wb.cell? ⟨wr.heap.size + 1, 0, none⟩ = some (.slice none 0 0) := hbb.at (by (repeat (first | with_reducible assumption | (simp [go_sem]; done) | with_reducible apply cell_alloc | with_reducible apply cell_drew | with_reducible apply cell_drewN | (with_reducible apply Ab.at; with_reducible assumption) | (with_reducible refine cell_set ?_ ?_; rotate_left; focus (first | (simp; done) | (simp; omega))) | (with_reducible refine cell_setb ?_ ?_; rotate_left; focus (first | omega | (simp only; omega) | (simp; omega)))))); have xq1 : wb.cell? ⟨wr.heap.size + 1, 1, none⟩ = some (.slice none 0 0) := hbb.at (by (repeat (first | with_reducible assumption | (simp [go_sem]; done) | with_reducible apply cell_alloc | with_reducible apply cell_drew | with_reducible apply cell_drewN | (with_reducible apply Ab.at; with_reducible assumption) | (with_reducible refine cell_set ?_ ?_; rotate_left; focus (first | (simp; done) | (simp; omega))) | (with_reducible refine cell_setb ?_ ?_; rotate_left; focus (first | omega | (simp only; omega) | (simp; omega)))))); have xq2 : wb.cell? ⟨wr.heap.size + 1, 2, none⟩ = some (.int .i64 0) := hbb.at (by (repeat (first | with_reducible assumption | (simp [go_sem]; done) | with_reducible apply cell_alloc | with_reducible apply cell_drew | with_reducible apply cell_drewN | (with_reducible apply Ab.at; with_reducible assumption) | (with_reducible refine cell_set ?_ ?_; rotate_left; focus (first | (simp; done) | (simp; omega))) | (with_reducible refine cell_setb ?_ ?_; rotate_left; focus (first | omega | (simp only; omega) | (simp; omega)))))); have xq3 : wb.cell? ⟨wr.heap.size + 1, 3, none⟩ = some (.bool false) := hbb.at (by (repeat (first | with_reducible assumption | (simp [go_sem]; done) | with_reducible apply cell_alloc | with_reducible apply cell_drew | with_reducible apply cell_drewN | (with_reducible apply Ab.at; with_reducible assumption) | (with_reducible refine cell_set ?_ ?_; rotate_left; focus (first | (simp; done) | (simp; omega))) | (with_reducible refine cell_setb ?_ ?_; rotate_left; focus (first | omega | (simp only; omega) | (simp; omega)))))); have xq4 : wb.cell? ⟨wr.heap.size + 1, 4, none⟩ = some (.slice none 0 0) := hbb.at (by (repeat (first | with_reducible assumption | (simp [go_sem]; done) | with_reducible apply cell_alloc | with_reducible apply cell_drew | with_reducible apply cell_drewN | (with_reducible apply Ab.at; with_reducible assumption) | (with_reducible refine cell_set ?_ ?_; rotate_left; focus (first | (simp; done) | (simp; omega))) | (with_reducible refine cell_setb ?_ ?_; rotate_left; focus (first | omega | (simp only; omega) | (simp; omega)))))); have xq5 : wb.cell? ⟨wr.heap.size + 1, 5, none⟩ = some (.slice none 0 0) := hbb.at (by (repeat (first | with_reducible assumption | (simp [go_sem]; done) | with_reducible apply cell_alloc | with_reducible apply cell_drew | with_reducible apply cell_drewN | (with_reducible apply Ab.at; with_reducible assumption) | (with_reducible refine cell_set ?_ ?_; rotate_left; focus (first | (simp; done) | (simp; omega))) | (with_reducible refine cell_setb ?_ ?_; rotate_left; focus (first | omega | (simp only; omega) | (simp; omega)))))); have xq6 : wb.cell? ⟨wr.heap.size + 1, 6, none⟩ = some (.int .i64 0) := hbb.at (by (repeat (first | with_reducible assumption | (simp [go_sem]; done) | with_reducible apply cell_alloc | with_reducible apply cell_drew | with_reducible apply cell_drewN | (with_reducible apply Ab.at; with_reducible assumption) | (with_reducible refine cell_set ?_ ?_; rotate_left; focus (first | (simp; done) | (simp; omega))) | (with_reducible refine cell_setb ?_ ?_; rotate_left; focus (first | omega | (simp only; omega) | (simp; omega)))))); have xq7 : wb.cell? ⟨wr.heap.size + 1, 7, none⟩ = some (.bool false) := hbb.at (by (repeat (first | with_reducible assumption | (simp [go_sem]; done) | with_reducible apply cell_alloc | with_reducible apply cell_drew | with_reducible apply cell_drewN | (with_reducible apply Ab.at; with_reducible assumption) | (with_reducible refine cell_set ?_ ?_; rotate_left; focus (first | (simp; done) | (simp; omega))) | (with_reducible refine cell_setb ?_ ?_; rotate_left; focus (first | omega | (simp only; omega) | (simp; omega)))))); have xq8 : wb.cell? ⟨wr.heap.size + 1, 8, none⟩ = some (.int .i64 0) := hbb.at (by (repeat (first | with_reducible assumption | (simp [go_sem]; done) | with_reducible apply cell_alloc | with_reducible apply cell_drew | with_reducible apply cell_drewN | (with_reducible apply Ab.at; with_reducible assumption) | (with_reducible refine cell_set ?_ ?_; rotate_left; focus (first | (simp; done) | (simp; omega))) | (with_reducible refine cell_setb ?_ ?_; rotate_left; focus (first | omega | (simp only; omega) | (simp; omega))))))
          have xr0 : wb.frozen? ⟨wr.heap.size + 1, 0, none⟩ = false := (hbb.frozen (p := ⟨wr.heap.size + 1, 0, none⟩) (by first | (simp; done) | omega | (simp; omega))).trans (by (repeat (first | with_reducible assumption | (simp [go_sem]; done) | (with_reducible refine fr_alloc ?_ ?_; focus (first | (simp; done) | omega | (simp; omega))) | (with_reducible refine Ab.fr (by assumption) ?_ ?_; focus (first | (simp; done) | omega | (simp; omega)))))); have xr1 : wb.frozen? ⟨wr.heap.size + 1, 1, none⟩ = false := (hbb.frozen (p := ⟨wr.heap.size + 1, 1, none⟩) (by first | (simp; done) | omega | (simp; omega))).trans (by (repeat (first | with_reducible assumption | (simp [go_sem]; done) | (with_reducible refine fr_alloc ?_ ?_; focus (first | (simp; done) | omega | (simp; omega))) | (with_reducible refine Ab.fr (by assumption) ?_ ?_; focus (first | (simp; done) | omega | (simp; omega)))))); have xr2 : wb.frozen? ⟨wr.heap.size + 1, 2, none⟩ = false := (hbb.frozen (p := ⟨wr.heap.size + 1, 2, none⟩) (by first | (simp; done) | omega | (simp; omega))).trans (by (repeat (first | with_reducible assumption | (simp [go_sem]; done) | (with_reducible refine fr_alloc ?_ ?_; focus (first | (simp; done) | omega | (simp; omega))) | (with_reducible refine Ab.fr (by assumption) ?_ ?_; focus (first | (simp; done) | omega | (simp; omega)))))); have xr3 : wb.frozen? ⟨wr.heap.size + 1, 3, none⟩ = false := (hbb.frozen (p := ⟨wr.heap.size + 1, 3, none⟩) (by first | (simp; done) | omega | (simp; omega))).trans (by (repeat (first | with_reducible assumption | (simp [go_sem]; done) | (with_reducible refine fr_alloc ?_ ?_; focus (first | (simp; done) | omega | (simp; omega))) | (with_reducible refine Ab.fr (by assumption) ?_ ?_; focus (first | (simp; done) | omega | (simp; omega)))))); have xr4 : wb.frozen? ⟨wr.heap.size + 1, 4, none⟩ = false := (hbb.frozen (p := ⟨wr.heap.size + 1, 4, none⟩) (by first | (simp; done) | omega | (simp; omega))).trans (by (repeat (first | with_reducible assumption | (simp [go_sem]; done) | (with_reducible refine fr_alloc ?_ ?_; focus (first | (simp; done) | omega | (simp; omega))) | (with_reducible refine Ab.fr (by assumption) ?_ ?_; focus (first | (simp; done) | omega | (simp; omega)))))); have xr5 : wb.frozen? ⟨wr.heap.size + 1, 5, none⟩ = false := (hbb.frozen (p := ⟨wr.heap.size + 1, 5, none⟩) (by first | (simp; done) | omega | (simp; omega))).trans (by (repeat (first | with_reducible assumption | (simp [go_sem]; done) | (with_reducible refine fr_alloc ?_ ?_; focus (first | (simp; done) | omega | (simp; omega))) | (with_reducible refine Ab.fr (by assumption) ?_ ?_; focus (first | (simp; done) | omega | (simp; omega)))))); have xr6 : wb.frozen? ⟨wr.heap.size + 1, 6, none⟩ = false := (hbb.frozen (p := ⟨wr.heap.size + 1, 6, none⟩) (by first | (simp; done) | omega | (simp; omega))).trans (by (repeat (first | with_reducible assumption | (simp [go_sem]; done) | (with_reducible refine fr_alloc ?_ ?_; focus (first | (simp; done) | omega | (simp; omega))) | (with_reducible refine Ab.fr (by assumption) ?_ ?_; focus (first | (simp; done) | omega | (simp; omega)))))); have xr7 : wb.frozen? ⟨wr.heap.size + 1, 7, none⟩ = false := (hbb.frozen (p := ⟨wr.heap.size + 1, 7, none⟩) (by first | (simp; done) | omega | (simp; omega))).trans (by (repeat (first | with_reducible assumption | (simp [go_sem]; done) | (with_reducible refine fr_alloc ?_ ?_; focus (first | (simp; done) | omega | (simp; omega))) | (with_reducible refine Ab.fr (by assumption) ?_ ?_; focus (first | (simp; done) | omega | (simp; omega)))))); have xr8 : wb.frozen? ⟨wr.heap.size + 1, 8, none⟩ = false := (hbb.frozen (p := ⟨wr.heap.size + 1, 8, none⟩) (by first | (simp; done) | omega | (simp; omega))).trans (by (repeat (first | with_reducible assumption | (simp [go_sem]; done) | (with_reducible refine fr_alloc ?_ ?_; focus (first | (simp; done) | omega | (simp; omega))) | (with_reducible refine Ab.fr (by assumption) ?_ ?_; focus (first | (simp; done) | omega | (simp; omega))))))
          have xna := fun (o : Obj) (j : Nat) => World.cell?_alloc_lt wb o ⟨wr.heap.size + 1, j, none⟩ (by first | (simp; done) | omega | (simp; omega))
          have xnb := fun (o : Obj) (j : Nat) => ((Ab.refl wb).alloc o).frozen (p := ⟨wr.heap.size + 1, j, none⟩) (by first | (simp; done) | omega | (simp; omega))
          (try go_wp2_with fail)
          (refine hK.out _ _ ?_ (fun hHeld => ?_)
           · (try dsimp only); try trivial
           clear hK K
           (try simp only [Act.put, List.setIfInBounds_toArray, List.set_cons_zero, List.set_cons_succ]))
          (refine wpAnyH_take (i := 3) (v := ?_) rfl (by kernel_rfl) (by kernel_rfl) (by kernel_rfl) (fun _ _ _ h => h) (Or.inl ⟨by kernel_rfl, ?_⟩) (by assumption) ?_
           rotate_left
           · (intro w hSw; (try dsimp only at hSw); go_simp; (try with_reducible rfl))
           (try simp only [Act.put, List.setIfInBounds_toArray, List.set_cons_zero, List.set_cons_succ]))
          (refine wpAnyH_take (i := 4) (v := ?_) rfl (by kernel_rfl) (by kernel_rfl) (by kernel_rfl) (fun _ _ _ h => h) (Or.inl ⟨by kernel_rfl, ?_⟩) (by assumption) ?_
           rotate_left
           · (intro w hSw; (try dsimp only at hSw); go_simp; (try with_reducible rfl))
           (try simp only [Act.put, List.setIfInBounds_toArray, List.set_cons_zero, List.set_cons_succ]))
          (refine wpAnyH_take (i := 5) (v := ?_) rfl (by kernel_rfl) (by kernel_rfl) (by kernel_rfl) (fun _ _ _ h => h) (Or.inl ⟨by kernel_rfl, ?_⟩) (by assumption) ?_
           rotate_left
           · (intro w hSw; (try dsimp only at hSw); go_simp; (try with_reducible rfl))
           (try simp only [Act.put, List.setIfInBounds_toArray, List.set_cons_zero, List.set_cons_succ]))
          (refine wpAnyH_take (i := 6) (v := ?_) rfl (by kernel_rfl) (by kernel_rfl) (by kernel_rfl) (fun _ _ _ h => h) (Or.inl ⟨by kernel_rfl, ?_⟩) (by assumption) ?_
           rotate_left
           · (intro w hSw; (try dsimp only at hSw); go_simp; (try with_reducible rfl))
           (try simp only [Act.put, List.setIfInBounds_toArray, List.set_cons_zero, List.set_cons_succ]))
          (refine wpAnyH_ready (rs := [8]) (by kernel_rfl) (by simp) ?_)
          refine AllReadyH.cons rfl (fun K hK => ?_) AllReadyH.nil
          (go_simp
           (refine hK.out _ _ ?_ (fun hHeld => ?_)
            · (try dsimp only); try trivial
            clear hK K
            (try simp only [Act.put, List.setIfInBounds_toArray, List.set_cons_zero, List.set_cons_succ])))
          (refine wpAnyH_ready (rs := [9]) (by kernel_rfl) (by simp) ?_)
          refine AllReadyH.cons rfl (fun K hK => ?_) AllReadyH.nil
          (go_simp
           (refine hK.out _ _ ?_ (fun hHeld => ?_)
            · (try dsimp only); try trivial
            clear hK K
            (try simp only [Act.put, List.setIfInBounds_toArray, List.set_cons_zero, List.set_cons_succ])))
          (refine wpAnyH_ready (rs := [10]) (by kernel_rfl) (by simp) ?_)
          refine AllReadyH.cons rfl (fun K hK => ?_) AllReadyH.nil
          (go_simp
           (refine hK.out _ _ ?_ (fun hHeld => ?_)
            · (try dsimp only); try trivial
            clear hK K
            (try simp only [Act.put, List.setIfInBounds_toArray, List.set_cons_zero, List.set_cons_succ])))
          refine wpAnyH_done (by kernel_rfl) ?_ _
          refine hK _ _ ?_
          refine ⟨rfl, ?_, ?_, ?_, ?_⟩
          · dsimp only; (repeat rw [Array.size_setIfInBounds]); exact hsT
          · dsimp only; (repeat rw [opq_ne _ _ _ _ _ (by decide)]); exact f2
          · dsimp only; (repeat rw [opq_ne _ _ _ _ _ (by decide)]); rw [opq_at _ _ 309 _ _ (by (repeat rw [Array.size_setIfInBounds]); exact hsT) (by decide)]
          · exact (by repeat (first | with_reducible exact Ab.refl _ | with_reducible assumption | with_reducible refine Ab.drew ?_ | with_reducible refine Ab.drewN ?_ _ | with_reducible refine Ab.alloc ?_ _ | with_reducible refine Ab.trans ?_ (by assumption) | with_reducible refine Ab.set ?_ (by first | (simp; done) | omega | (simp; omega)) _))
  ·
    (go_simp
     (refine hK.out _ _ ?_ (fun hHeld => ?_)
      · (try dsimp only); try trivial
      clear hK K
      (try simp only [Act.put, List.setIfInBounds_toArray, List.set_cons_zero, List.set_cons_succ])))
    (refine wpAnyH_ready (rs := [0, 1]) (by kernel_rfl) (by simp) ?_)
    refine (AllReadyH.cons rfl (fun K hK => ?_) (AllReadyH.cons rfl (fun K hK => ?_) AllReadyH.nil))
    ·
      go_simp
      (go_at_call 11)
      refine (sgiven_any _).mono ?_
      rintro e wa ⟨ma, rfl, hMa, hba⟩
      have za := hba.size
      (try simp at za)
      have yq0 : wa.cell? ⟨wr.heap.size, 0, none⟩ = some (.slice none 0 0) := hba.at (by (repeat (first | with_reducible assumption | (simp [go_sem]; done) | with_reducible apply cell_alloc | with_reducible apply cell_drew | with_reducible apply cell_drewN | (with_reducible apply Ab.at; with_reducible assumption) | (with_reducible refine cell_set ?_ ?_; rotate_left; focus (first | (simp; done) | (simp; omega))) | (with_reducible refine cell_setb ?_ ?_; rotate_left; focus (first | omega | (simp only; omega) | (simp; omega)))))); have yq1 : wa.cell? ⟨wr.heap.size, 1, none⟩ = some (.slice none 0 0) := hba.at (by (repeat (first | with_reducible assumption | (simp [go_sem]; done) | with_reducible apply cell_alloc | with_reducible apply cell_drew | with_reducible apply cell_drewN | (with_reducible apply Ab.at; with_reducible assumption) | (with_reducible refine cell_set ?_ ?_; rotate_left; focus (first | (simp; done) | (simp; omega))) | (with_reducible refine cell_setb ?_ ?_; rotate_left; focus (first | omega | (simp only; omega) | (simp; omega)))))); have yq2 : wa.cell? ⟨wr.heap.size, 2, none⟩ = some (.int .i64 0) := hba.at (by (repeat (first | with_reducible assumption | (simp [go_sem]; done) | with_reducible apply cell_alloc | with_reducible apply cell_drew | with_reducible apply cell_drewN | (with_reducible apply Ab.at; with_reducible assumption) | (with_reducible refine cell_set ?_ ?_; rotate_left; focus (first | (simp; done) | (simp; omega))) | (with_reducible refine cell_setb ?_ ?_; rotate_left; focus (first | omega | (simp only; omega) | (simp; omega)))))); have yq3 : wa.cell? ⟨wr.heap.size, 3, none⟩ = some (.bool false) := hba.at (by (repeat (first | with_reducible assumption | (simp [go_sem]; done) | with_reducible apply cell_alloc | with_reducible apply cell_drew | with_reducible apply cell_drewN | (with_reducible apply Ab.at; with_reducible assumption) | (with_reducible refine cell_set ?_ ?_; rotate_left; focus (first | (simp; done) | (simp; omega))) | (with_reducible refine cell_setb ?_ ?_; rotate_left; focus (first | omega | (simp only; omega) | (simp; omega)))))); have yq4 : wa.cell? ⟨wr.heap.size, 4, none⟩ = some (.slice none 0 0) := hba.at (by (repeat (first | with_reducible assumption | (simp [go_sem]; done) | with_reducible apply cell_alloc | with_reducible apply cell_drew | with_reducible apply cell_drewN | (with_reducible apply Ab.at; with_reducible assumption) | (with_reducible refine cell_set ?_ ?_; rotate_left; focus (first | (simp; done) | (simp; omega))) | (with_reducible refine cell_setb ?_ ?_; rotate_left; focus (first | omega | (simp only; omega) | (simp; omega)))))); have yq5 : wa.cell? ⟨wr.heap.size, 5, none⟩ = some (.slice none 0 0) := hba.at (by (repeat (first | with_reducible assumption | (simp [go_sem]; done) | with_reducible apply cell_alloc | with_reducible apply cell_drew | with_reducible apply cell_drewN | (with_reducible apply Ab.at; with_reducible assumption) | (with_reducible refine cell_set ?_ ?_; rotate_left; focus (first | (simp; done) | (simp; omega))) | (with_reducible refine cell_setb ?_ ?_; rotate_left; focus (first | omega | (simp only; omega) | (simp; omega)))))); have yq6 : wa.cell? ⟨wr.heap.size, 6, none⟩ = some (.int .i64 0) := hba.at (by (repeat (first | with_reducible assumption | (simp [go_sem]; done) | with_reducible apply cell_alloc | with_reducible apply cell_drew | with_reducible apply cell_drewN | (with_reducible apply Ab.at; with_reducible assumption) | (with_reducible refine cell_set ?_ ?_; rotate_left; focus (first | (simp; done) | (simp; omega))) | (with_reducible refine cell_setb ?_ ?_; rotate_left; focus (first | omega | (simp only; omega) | (simp; omega)))))); have yq7 : wa.cell? ⟨wr.heap.size, 7, none⟩ = some (.bool false) := hba.at (by (repeat (first | with_reducible assumption | (simp [go_sem]; done) | with_reducible apply cell_alloc | with_reducible apply cell_drew | with_reducible apply cell_drewN | (with_reducible apply Ab.at; with_reducible assumption) | (with_reducible refine cell_set ?_ ?_; rotate_left; focus (first | (simp; done) | (simp; omega))) | (with_reducible refine cell_setb ?_ ?_; rotate_left; focus (first | omega | (simp only; omega) | (simp; omega)))))); have yq8 : wa.cell? ⟨wr.heap.size, 8, none⟩ = some (.int .i64 0) := hba.at (by (repeat (first | with_reducible assumption | (simp [go_sem]; done) | with_reducible apply cell_alloc | with_reducible apply cell_drew | with_reducible apply cell_drewN | (with_reducible apply Ab.at; with_reducible assumption) | (with_reducible refine cell_set ?_ ?_; rotate_left; focus (first | (simp; done) | (simp; omega))) | (with_reducible refine cell_setb ?_ ?_; rotate_left; focus (first | omega | (simp only; omega) | (simp; omega))))))
      have yr0 : wa.frozen? ⟨wr.heap.size, 0, none⟩ = false := (hba.frozen (p := ⟨wr.heap.size, 0, none⟩) (by first | (simp; done) | omega | (simp; omega))).trans (by (repeat (first | with_reducible assumption | (simp [go_sem]; done) | (with_reducible refine fr_alloc ?_ ?_; focus (first | (simp; done) | omega | (simp; omega))) | (with_reducible refine Ab.fr (by assumption) ?_ ?_; focus (first | (simp; done) | omega | (simp; omega)))))); have yr1 : wa.frozen? ⟨wr.heap.size, 1, none⟩ = false := (hba.frozen (p := ⟨wr.heap.size, 1, none⟩) (by first | (simp; done) | omega | (simp; omega))).trans (by (repeat (first | with_reducible assumption | (simp [go_sem]; done) | (with_reducible refine fr_alloc ?_ ?_; focus (first | (simp; done) | omega | (simp; omega))) | (with_reducible refine Ab.fr (by assumption) ?_ ?_; focus (first | (simp; done) | omega | (simp; omega)))))); have yr2 : wa.frozen? ⟨wr.heap.size, 2, none⟩ = false := (hba.frozen (p := ⟨wr.heap.size, 2, none⟩) (by first | (simp; done) | omega | (simp; omega))).trans (by (repeat (first | with_reducible assumption | (simp [go_sem]; done) | (with_reducible refine fr_alloc ?_ ?_; focus (first | (simp; done) | omega | (simp; omega))) | (with_reducible refine Ab.fr (by assumption) ?_ ?_; focus (first | (simp; done) | omega | (simp; omega)))))); have yr3 : wa.frozen? ⟨wr.heap.size, 3, none⟩ = false := (hba.frozen (p := ⟨wr.heap.size, 3, none⟩) (by first | (simp; done) | omega | (simp; omega))).trans (by (repeat (first | with_reducible assumption | (simp [go_sem]; done) | (with_reducible refine fr_alloc ?_ ?_; focus (first | (simp; done) | omega | (simp; omega))) | (with_reducible refine Ab.fr (by assumption) ?_ ?_; focus (first | (simp; done) | omega | (simp; omega)))))); have yr4 : wa.frozen? ⟨wr.heap.size, 4, none⟩ = false := (hba.frozen (p := ⟨wr.heap.size, 4, none⟩) (by first | (simp; done) | omega | (simp; omega))).trans (by (repeat (first | with_reducible assumption | (simp [go_sem]; done) | (with_reducible refine fr_alloc ?_ ?_; focus (first | (simp; done) | omega | (simp; omega))) | (with_reducible refine Ab.fr (by assumption) ?_ ?_; focus (first | (simp; done) | omega | (simp; omega)))))); have yr5 : wa.frozen? ⟨wr.heap.size, 5, none⟩ = false := (hba.frozen (p := ⟨wr.heap.size, 5, none⟩) (by first | (simp; done) | omega | (simp; omega))).trans (by (repeat (first | with_reducible assumption | (simp [go_sem]; done) | (with_reducible refine fr_alloc ?_ ?_; focus (first | (simp; done) | omega | (simp; omega))) | (with_reducible refine Ab.fr (by assumption) ?_ ?_; focus (first | (simp; done) | omega | (simp; omega)))))); have yr6 : wa.frozen? ⟨wr.heap.size, 6, none⟩ = false := (hba.frozen (p := ⟨wr.heap.size, 6, none⟩) (by first | (simp; done) | omega | (simp; omega))).trans (by (repeat (first | with_reducible assumption | (simp [go_sem]; done) | (with_reducible refine fr_alloc ?_ ?_; focus (first | (simp; done) | omega | (simp; omega))) | (with_reducible refine Ab.fr (by assumption) ?_ ?_; focus (first | (simp; done) | omega | (simp; omega)))))); have yr7 : wa.frozen? ⟨wr.heap.size, 7, none⟩ = false := (hba.frozen (p := ⟨wr.heap.size, 7, none⟩) (by first | (simp; done) | omega | (simp; omega))).trans (by (repeat (first | with_reducible assumption | (simp [go_sem]; done) | (with_reducible refine fr_alloc ?_ ?_; focus (first | (simp; done) | omega | (simp; omega))) | (with_reducible refine Ab.fr (by assumption) ?_ ?_; focus (first | (simp; done) | omega | (simp; omega)))))); have yr8 : wa.frozen? ⟨wr.heap.size, 8, none⟩ = false := (hba.frozen (p := ⟨wr.heap.size, 8, none⟩) (by first | (simp; done) | omega | (simp; omega))).trans (by (repeat (first | with_reducible assumption | (simp [go_sem]; done) | (with_reducible refine fr_alloc ?_ ?_; focus (first | (simp; done) | omega | (simp; omega))) | (with_reducible refine Ab.fr (by assumption) ?_ ?_; focus (first | (simp; done) | omega | (simp; omega))))))
      have yna := fun (o : Obj) (j : Nat) => World.cell?_alloc_lt wa o ⟨wr.heap.size, j, none⟩ (by first | (simp; done) | omega | (simp; omega))
      have ynb := fun (o : Obj) (j : Nat) => ((Ab.refl wa).alloc o).frozen (p := ⟨wr.heap.size, j, none⟩) (by first | (simp; done) | omega | (simp; omega))
      (try go_wp2_with fail)
      (refine hK.out _ _ ?_ (fun hHeld => ?_)
       · (try dsimp only); try trivial
       clear hK K
       (try simp only [Act.put, List.setIfInBounds_toArray, List.set_cons_zero, List.set_cons_succ]))
      (refine wpAnyH_ready (rs := [1]) (by kernel_rfl) (by simp) ?_)
      refine (AllReadyH.cons rfl (fun K hK => ?_) AllReadyH.nil)
      ·
        (go_simp
         (refine hK.out _ _ ?_ (fun hHeld => ?_)
          · (try dsimp only); try trivial
          clear hK K
          (try simp only [Act.put, List.setIfInBounds_toArray, List.set_cons_zero, List.set_cons_succ])))
        (refine wpAnyH_ready (rs := [2]) (by kernel_rfl) (by simp) ?_)
        refine (AllReadyH.cons rfl (fun K hK => ?_) AllReadyH.nil)
        ·
          go_simp
          (go_at_call 10)
          refine (ssave_n ma Slots.G2 _ (hMa.ab (by repeat (first | with_reducible exact Ab.refl _ | with_reducible assumption | with_reducible refine Ab.drew ?_ | with_reducible refine Ab.drewN ?_ _ | with_reducible refine Ab.alloc ?_ _ | with_reducible refine Ab.trans ?_ (by assumption) | with_reducible refine Ab.set ?_ (by first | (simp; done) | omega | (simp; omega)) _))) (some ⟨wa.heap.size, 0, none⟩) b1 1001 kk1.out 1001 ((yy1.out _ _ (0, 0) (by (repeat (first | exact new_plain (by first | (simp; done) | omega | (simp; omega)) | with_reducible refine old_alloc ?_ | with_reducible refine old_drew ?_ | with_reducible refine old_set ?_ (by first | (simp; done) | omega | (simp; omega)) | with_reducible refine old_ab (by assumption) ?_))))) (by omega)).mono ?_
          rintro e wb ⟨rb, nb, eb, mb, hb, rfl, hMb, hbb⟩
          have hmb := (Prod.mk.inj (hb.out.trans (Slots.nm_many b1 kk1.out))).2
          obtain ⟨rfl, rfl⟩ := Prod.mk.inj hmb
          clear hb hmb hMb
          have zb := hbb.size
          (try simp at zb)
          have xq0 : wb.cell? ⟨wr.heap.size, 0, none⟩ = some (.slice none 0 0) := hbb.at (by (repeat (first | with_reducible assumption | (simp [go_sem]; done) | with_reducible apply cell_alloc | with_reducible apply cell_drew | with_reducible apply cell_drewN | (with_reducible apply Ab.at; with_reducible assumption) | (with_reducible refine cell_set ?_ ?_; rotate_left; focus (first | (simp; done) | (simp; omega))) | (with_reducible refine cell_setb ?_ ?_; rotate_left; focus (first | omega | (simp only; omega) | (simp; omega)))))); have xq1 : wb.cell? ⟨wr.heap.size, 1, none⟩ = some (.slice none 0 0) := hbb.at (by (repeat (first | with_reducible assumption | (simp [go_sem]; done) | with_reducible apply cell_alloc | with_reducible apply cell_drew | with_reducible apply cell_drewN | (with_reducible apply Ab.at; with_reducible assumption) | (with_reducible refine cell_set ?_ ?_; rotate_left; focus (first | (simp; done) | (simp; omega))) | (with_reducible refine cell_setb ?_ ?_; rotate_left; focus (first | omega | (simp only; omega) | (simp; omega)))))); have xq2 : wb.cell? ⟨wr.heap.size, 2, none⟩ = some (.int .i64 0) := hbb.at (by (repeat (first | with_reducible assumption | (simp [go_sem]; done) | with_reducible apply cell_alloc | with_reducible apply cell_drew | with_reducible apply cell_drewN | (with_reducible apply Ab.at; with_reducible assumption) | (with_reducible refine cell_set ?_ ?_; rotate_left; focus (first | (simp; done) | (simp; omega))) | (with_reducible refine cell_setb ?_ ?_; rotate_left; focus (first | omega | (simp only; omega) | (simp; omega)))))); have xq3 : wb.cell? ⟨wr.heap.size, 3, none⟩ = some (.bool false) := hbb.at (by (repeat (first | with_reducible assumption | (simp [go_sem]; done) | with_reducible apply cell_alloc | with_reducible apply cell_drew | with_reducible apply cell_drewN | (with_reducible apply Ab.at; with_reducible assumption) | (with_reducible refine cell_set ?_ ?_; rotate_left; focus (first | (simp; done) | (simp; omega))) | (with_reducible refine cell_setb ?_ ?_; rotate_left; focus (first | omega | (simp only; omega) | (simp; omega)))))); have xq4 : wb.cell? ⟨wr.heap.size, 4, none⟩ = some (.slice none 0 0) := hbb.at (by (repeat (first | with_reducible assumption | (simp [go_sem]; done) | with_reducible apply cell_alloc | with_reducible apply cell_drew | with_reducible apply cell_drewN | (with_reducible apply Ab.at; with_reducible assumption) | (with_reducible refine cell_set ?_ ?_; rotate_left; focus (first | (simp; done) | (simp; omega))) | (with_reducible refine cell_setb ?_ ?_; rotate_left; focus (first | omega | (simp only; omega) | (simp; omega)))))); have xq5 : wb.cell? ⟨wr.heap.size, 5, none⟩ = some (.slice none 0 0) := hbb.at (by (repeat (first | with_reducible assumption | (simp [go_sem]; done) | with_reducible apply cell_alloc | with_reducible apply cell_drew | with_reducible apply cell_drewN | (with_reducible apply Ab.at; with_reducible assumption) | (with_reducible refine cell_set ?_ ?_; rotate_left; focus (first | (simp; done) | (simp; omega))) | (with_reducible refine cell_setb ?_ ?_; rotate_left; focus (first | omega | (simp only; omega) | (simp; omega)))))); have xq6 : wb.cell? ⟨wr.heap.size, 6, none⟩ = some (.int .i64 0) := hbb.at (by (repeat (first | with_reducible assumption | (simp [go_sem]; done) | with_reducible apply cell_alloc | with_reducible apply cell_drew | with_reducible apply cell_drewN | (with_reducible apply Ab.at; with_reducible assumption) | (with_reducible refine cell_set ?_ ?_; rotate_left; focus (first | (simp; done) | (simp; omega))) | (with_reducible refine cell_setb ?_ ?_; rotate_left; focus (first | omega | (simp only; omega) | (simp; omega)))))); have xq7 : wb.cell? ⟨wr.heap.size, 7, none⟩ = some (.bool false) := hbb.at (by (repeat (first | with_reducible assumption | (simp [go_sem]; done) | with_reducible apply cell_alloc | with_reducible apply cell_drew | with_reducible apply cell_drewN | (with_reducible apply Ab.at; with_reducible assumption) | (with_reducible refine cell_set ?_ ?_; rotate_left; focus (first | (simp; done) | (simp; omega))) | (with_reducible refine cell_setb ?_ ?_; rotate_left; focus (first | omega | (simp only; omega) | (simp; omega)))))); have xq8 : wb.cell? ⟨wr.heap.size, 8, none⟩ = some (.int .i64 0) := hbb.at (by (repeat (first | with_reducible assumption | (simp [go_sem]; done) | with_reducible apply cell_alloc | with_reducible apply cell_drew | with_reducible apply cell_drewN | (with_reducible apply Ab.at; with_reducible assumption) | (with_reducible refine cell_set ?_ ?_; rotate_left; focus (first | (simp; done) | (simp; omega))) | (with_reducible refine cell_setb ?_ ?_; rotate_left; focus (first | omega | (simp only; omega) | (simp; omega))))))
          have xr0 : wb.frozen? ⟨wr.heap.size, 0, none⟩ = false := (hbb.frozen (p := ⟨wr.heap.size, 0, none⟩) (by first | (simp; done) | omega | (simp; omega))).trans (by (repeat (first | with_reducible assumption | (simp [go_sem]; done) | (with_reducible refine fr_alloc ?_ ?_; focus (first | (simp; done) | omega | (simp; omega))) | (with_reducible refine Ab.fr (by assumption) ?_ ?_; focus (first | (simp; done) | omega | (simp; omega)))))); have xr1 : wb.frozen? ⟨wr.heap.size, 1, none⟩ = false := (hbb.frozen (p := ⟨wr.heap.size, 1, none⟩) (by first | (simp; done) | omega | (simp; omega))).trans (by (repeat (first | with_reducible assumption | (simp [go_sem]; done) | (with_reducible refine fr_alloc ?_ ?_; focus (first | (simp; done) | omega | (simp; omega))) | (with_reducible refine Ab.fr (by assumption) ?_ ?_; focus (first | (simp; done) | omega | (simp; omega)))))); have xr2 : wb.frozen? ⟨wr.heap.size, 2, none⟩ = false := (hbb.frozen (p := ⟨wr.heap.size, 2, none⟩) (by first | (simp; done) | omega | (simp; omega))).trans (by (repeat (first | with_reducible assumption | (simp [go_sem]; done) | (with_reducible refine fr_alloc ?_ ?_; focus (first | (simp; done) | omega | (simp; omega))) | (with_reducible refine Ab.fr (by assumption) ?_ ?_; focus (first | (simp; done) | omega | (simp; omega)))))); have xr3 : wb.frozen? ⟨wr.heap.size, 3, none⟩ = false := (hbb.frozen (p := ⟨wr.heap.size, 3, none⟩) (by first | (simp; done) | omega | (simp; omega))).trans (by (repeat (first | with_reducible assumption | (simp [go_sem]; done) | (with_reducible refine fr_alloc ?_ ?_; focus (first | (simp; done) | omega | (simp; omega))) | (with_reducible refine Ab.fr (by assumption) ?_ ?_; focus (first | (simp; done) | omega | (simp; omega)))))); have xr4 : wb.frozen? ⟨wr.heap.size, 4, none⟩ = false := (hbb.frozen (p := ⟨wr.heap.size, 4, none⟩) (by first | (simp; done) | omega | (simp; omega))).trans (by (repeat (first | with_reducible assumption | (simp [go_sem]; done) | (with_reducible refine fr_alloc ?_ ?_; focus (first | (simp; done) | omega | (simp; omega))) | (with_reducible refine Ab.fr (by assumption) ?_ ?_; focus (first | (simp; done) | omega | (simp; omega)))))); have xr5 : wb.frozen? ⟨wr.heap.size, 5, none⟩ = false := (hbb.frozen (p := ⟨wr.heap.size, 5, none⟩) (by first | (simp; done) | omega | (simp; omega))).trans (by (repeat (first | with_reducible assumption | (simp [go_sem]; done) | (with_reducible refine fr_alloc ?_ ?_; focus (first | (simp; done) | omega | (simp; omega))) | (with_reducible refine Ab.fr (by assumption) ?_ ?_; focus (first | (simp; done) | omega | (simp; omega)))))); have xr6 : wb.frozen? ⟨wr.heap.size, 6, none⟩ = false := (hbb.frozen (p := ⟨wr.heap.size, 6, none⟩) (by first | (simp; done) | omega | (simp; omega))).trans (by (repeat (first | with_reducible assumption | (simp [go_sem]; done) | (with_reducible refine fr_alloc ?_ ?_; focus (first | (simp; done) | omega | (simp; omega))) | (with_reducible refine Ab.fr (by assumption) ?_ ?_; focus (first | (simp; done) | omega | (simp; omega)))))); have xr7 : wb.frozen? ⟨wr.heap.size, 7, none⟩ = false := (hbb.frozen (p := ⟨wr.heap.size, 7, none⟩) (by first | (simp; done) | omega | (simp; omega))).trans (by (repeat (first | with_reducible assumption | (simp [go_sem]; done) | (with_reducible refine fr_alloc ?_ ?_; focus (first | (simp; done) | omega | (simp; omega))) | (with_reducible refine Ab.fr (by assumption) ?_ ?_; focus (first | (simp; done) | omega | (simp; omega)))))); have xr8 : wb.frozen? ⟨wr.heap.size, 8, none⟩ = false := (hbb.frozen (p := ⟨wr.heap.size, 8, none⟩) (by first | (simp; done) | omega | (simp; omega))).trans (by (repeat (first | with_reducible assumption | (simp [go_sem]; done) | (with_reducible refine fr_alloc ?_ ?_; focus (first | (simp; done) | omega | (simp; omega))) | (with_reducible refine Ab.fr (by assumption) ?_ ?_; focus (first | (simp; done) | omega | (simp; omega))))))
          have xna := fun (o : Obj) (j : Nat) => World.cell?_alloc_lt wb o ⟨wr.heap.size, j, none⟩ (by first | (simp; done) | omega | (simp; omega))
          have xnb := fun (o : Obj) (j : Nat) => ((Ab.refl wb).alloc o).frozen (p := ⟨wr.heap.size, j, none⟩) (by first | (simp; done) | omega | (simp; omega))
          (try go_wp2_with fail)
          (refine hK.out _ _ ?_ (fun hHeld => ?_)
           · (try dsimp only); try trivial
           clear hK K
           (try simp only [Act.put, List.setIfInBounds_toArray, List.set_cons_zero, List.set_cons_succ]))
          (refine wpAnyH_take (i := 3) (v := ?_) rfl (by kernel_rfl) (by kernel_rfl) (by kernel_rfl) (fun _ _ _ h => h) (Or.inl ⟨by kernel_rfl, ?_⟩) (by assumption) ?_
           rotate_left
           · (intro w hSw; (try dsimp only at hSw); go_simp; (try with_reducible rfl))
           (try simp only [Act.put, List.setIfInBounds_toArray, List.set_cons_zero, List.set_cons_succ]))
          (refine wpAnyH_take (i := 4) (v := ?_) rfl (by kernel_rfl) (by kernel_rfl) (by kernel_rfl) (fun _ _ _ h => h) (Or.inl ⟨by kernel_rfl, ?_⟩) (by assumption) ?_
           rotate_left
           · (intro w hSw; (try dsimp only at hSw); go_simp; (try with_reducible rfl))
           (try simp only [Act.put, List.setIfInBounds_toArray, List.set_cons_zero, List.set_cons_succ]))
          (refine wpAnyH_take (i := 5) (v := ?_) rfl (by kernel_rfl) (by kernel_rfl) (by kernel_rfl) (fun _ _ _ h => h) (Or.inl ⟨by kernel_rfl, ?_⟩) (by assumption) ?_
           rotate_left
           · (intro w hSw; (try dsimp only at hSw); go_simp; (try with_reducible rfl))
           (try simp only [Act.put, List.setIfInBounds_toArray, List.set_cons_zero, List.set_cons_succ]))
          (refine wpAnyH_take (i := 6) (v := ?_) rfl (by kernel_rfl) (by kernel_rfl) (by kernel_rfl) (fun _ _ _ h => h) (Or.inl ⟨by kernel_rfl, ?_⟩) (by assumption) ?_
           rotate_left
           · (intro w hSw; (try dsimp only at hSw); go_simp; (try with_reducible rfl))
           (try simp only [Act.put, List.setIfInBounds_toArray, List.set_cons_zero, List.set_cons_succ]))
          (refine wpAnyH_ready (rs := [8]) (by kernel_rfl) (by simp) ?_)
          refine AllReadyH.cons rfl (fun K hK => ?_) AllReadyH.nil
          (go_simp
           (refine hK.out _ _ ?_ (fun hHeld => ?_)
            · (try dsimp only); try trivial
            clear hK K
            (try simp only [Act.put, List.setIfInBounds_toArray, List.set_cons_zero, List.set_cons_succ])))
          (refine wpAnyH_ready (rs := [9]) (by kernel_rfl) (by simp) ?_)
          refine AllReadyH.cons rfl (fun K hK => ?_) AllReadyH.nil
          (go_simp
           (refine hK.out _ _ ?_ (fun hHeld => ?_)
            · (try dsimp only); try trivial
            clear hK K
            (try simp only [Act.put, List.setIfInBounds_toArray, List.set_cons_zero, List.set_cons_succ])))
          (refine wpAnyH_ready (rs := [10]) (by kernel_rfl) (by simp) ?_)
          refine AllReadyH.cons rfl (fun K hK => ?_) AllReadyH.nil
          (go_simp
           (refine hK.out _ _ ?_ (fun hHeld => ?_)
            · (try dsimp only); try trivial
            clear hK K
            (try simp only [Act.put, List.setIfInBounds_toArray, List.set_cons_zero, List.set_cons_succ])))
          refine wpAnyH_done (by kernel_rfl) ?_ _
          refine hK _ _ ?_
          refine ⟨rfl, ?_, ?_, ?_, ?_⟩
          · dsimp only; (repeat rw [Array.size_setIfInBounds]); exact hsT
          · dsimp only; (repeat rw [opq_ne _ _ _ _ _ (by decide)]); exact f2
          · dsimp only; (repeat rw [opq_ne _ _ _ _ _ (by decide)]); rw [opq_at _ _ 309 _ _ (by (repeat rw [Array.size_setIfInBounds]); exact hsT) (by decide)]
          · exact (by repeat (first | with_reducible exact Ab.refl _ | with_reducible assumption | with_reducible refine Ab.drew ?_ | with_reducible refine Ab.drewN ?_ _ | with_reducible refine Ab.alloc ?_ _ | with_reducible refine Ab.trans ?_ (by assumption) | with_reducible refine Ab.set ?_ (by first | (simp; done) | omega | (simp; omega)) _))
    ·
      (go_simp
       (refine hK.out _ _ ?_ (fun hHeld => ?_)
        · (try dsimp only); try trivial
        clear hK K
        (try simp only [Act.put, List.setIfInBounds_toArray, List.set_cons_zero, List.set_cons_succ])))
      (refine wpAnyH_ready (rs := [0]) (by kernel_rfl) (by simp) ?_)
      refine (AllReadyH.cons rfl (fun K hK => ?_) AllReadyH.nil)
      ·
        go_simp
        (go_at_call 11)
        refine (sgiven_any _).mono ?_
        rintro e wa ⟨ma, rfl, hMa, hba⟩
        have za := hba.size
        (try simp at za)
        have yq0 : wa.cell? ⟨wr.heap.size, 0, none⟩ = some (.slice none 0 0) := hba.at (by (repeat (first | with_reducible assumption | (simp [go_sem]; done) | with_reducible apply cell_alloc | with_reducible apply cell_drew | with_reducible apply cell_drewN | (with_reducible apply Ab.at; with_reducible assumption) | (with_reducible refine cell_set ?_ ?_; rotate_left; focus (first | (simp; done) | (simp; omega))) | (with_reducible refine cell_setb ?_ ?_; rotate_left; focus (first | omega | (simp only; omega) | (simp; omega)))))); have yq1 : wa.cell? ⟨wr.heap.size, 1, none⟩ = some (.slice none 0 0) := hba.at (by (repeat (first | with_reducible assumption | (simp [go_sem]; done) | with_reducible apply cell_alloc | with_reducible apply cell_drew | with_reducible apply cell_drewN | (with_reducible apply Ab.at; with_reducible assumption) | (with_reducible refine cell_set ?_ ?_; rotate_left; focus (first | (simp; done) | (simp; omega))) | (with_reducible refine cell_setb ?_ ?_; rotate_left; focus (first | omega | (simp only; omega) | (simp; omega)))))); have yq2 : wa.cell? ⟨wr.heap.size, 2, none⟩ = some (.int .i64 0) := hba.at (by (repeat (first | with_reducible assumption | (simp [go_sem]; done) | with_reducible apply cell_alloc | with_reducible apply cell_drew | with_reducible apply cell_drewN | (with_reducible apply Ab.at; with_reducible assumption) | (with_reducible refine cell_set ?_ ?_; rotate_left; focus (first | (simp; done) | (simp; omega))) | (with_reducible refine cell_setb ?_ ?_; rotate_left; focus (first | omega | (simp only; omega) | (simp; omega)))))); have yq3 : wa.cell? ⟨wr.heap.size, 3, none⟩ = some (.bool false) := hba.at (by (repeat (first | with_reducible assumption | (simp [go_sem]; done) | with_reducible apply cell_alloc | with_reducible apply cell_drew | with_reducible apply cell_drewN | (with_reducible apply Ab.at; with_reducible assumption) | (with_reducible refine cell_set ?_ ?_; rotate_left; focus (first | (simp; done) | (simp; omega))) | (with_reducible refine cell_setb ?_ ?_; rotate_left; focus (first | omega | (simp only; omega) | (simp; omega)))))); have yq4 : wa.cell? ⟨wr.heap.size, 4, none⟩ = some (.slice none 0 0) := hba.at (by (repeat (first | with_reducible assumption | (simp [go_sem]; done) | with_reducible apply cell_alloc | with_reducible apply cell_drew | with_reducible apply cell_drewN | (with_reducible apply Ab.at; with_reducible assumption) | (with_reducible refine cell_set ?_ ?_; rotate_left; focus (first | (simp; done) | (simp; omega))) | (with_reducible refine cell_setb ?_ ?_; rotate_left; focus (first | omega | (simp only; omega) | (simp; omega)))))); have yq5 : wa.cell? ⟨wr.heap.size, 5, none⟩ = some (.slice none 0 0) := hba.at (by (repeat (first | with_reducible assumption | (simp [go_sem]; done) | with_reducible apply cell_alloc | with_reducible apply cell_drew | with_reducible apply cell_drewN | (with_reducible apply Ab.at; with_reducible assumption) | (with_reducible refine cell_set ?_ ?_; rotate_left; focus (first | (simp; done) | (simp; omega))) | (with_reducible refine cell_setb ?_ ?_; rotate_left; focus (first | omega | (simp only; omega) | (simp; omega)))))); have yq6 : wa.cell? ⟨wr.heap.size, 6, none⟩ = some (.int .i64 0) := hba.at (by (repeat (first | with_reducible assumption | (simp [go_sem]; done) | with_reducible apply cell_alloc | with_reducible apply cell_drew | with_reducible apply cell_drewN | (with_reducible apply Ab.at; with_reducible assumption) | (with_reducible refine cell_set ?_ ?_; rotate_left; focus (first | (simp; done) | (simp; omega))) | (with_reducible refine cell_setb ?_ ?_; rotate_left; focus (first | omega | (simp only; omega) | (simp; omega)))))); have yq7 : wa.cell? ⟨wr.heap.size, 7, none⟩ = some (.bool false) := hba.at (by (repeat (first | with_reducible assumption | (simp [go_sem]; done) | with_reducible apply cell_alloc | with_reducible apply cell_drew | with_reducible apply cell_drewN | (with_reducible apply Ab.at; with_reducible assumption) | (with_reducible refine cell_set ?_ ?_; rotate_left; focus (first | (simp; done) | (simp; omega))) | (with_reducible refine cell_setb ?_ ?_; rotate_left; focus (first | omega | (simp only; omega) | (simp; omega)))))); have yq8 : wa.cell? ⟨wr.heap.size, 8, none⟩ = some (.int .i64 0) := hba.at (by (repeat (first | with_reducible assumption | (simp [go_sem]; done) | with_reducible apply cell_alloc | with_reducible apply cell_drew | with_reducible apply cell_drewN | (with_reducible apply Ab.at; with_reducible assumption) | (with_reducible refine cell_set ?_ ?_; rotate_left; focus (first | (simp; done) | (simp; omega))) | (with_reducible refine cell_setb ?_ ?_; rotate_left; focus (first | omega | (simp only; omega) | (simp; omega))))))
        have yr0 : wa.frozen? ⟨wr.heap.size, 0, none⟩ = false := (hba.frozen (p := ⟨wr.heap.size, 0, none⟩) (by first | (simp; done) | omega | (simp; omega))).trans (by (repeat (first | with_reducible assumption | (simp [go_sem]; done) | (with_reducible refine fr_alloc ?_ ?_; focus (first | (simp; done) | omega | (simp; omega))) | (with_reducible refine Ab.fr (by assumption) ?_ ?_; focus (first | (simp; done) | omega | (simp; omega)))))); have yr1 : wa.frozen? ⟨wr.heap.size, 1, none⟩ = false := (hba.frozen (p := ⟨wr.heap.size, 1, none⟩) (by first | (simp; done) | omega | (simp; omega))).trans (by (repeat (first | with_reducible assumption | (simp [go_sem]; done) | (with_reducible refine fr_alloc ?_ ?_; focus (first | (simp; done) | omega | (simp; omega))) | (with_reducible refine Ab.fr (by assumption) ?_ ?_; focus (first | (simp; done) | omega | (simp; omega)))))); have yr2 : wa.frozen? ⟨wr.heap.size, 2, none⟩ = false := (hba.frozen (p := ⟨wr.heap.size, 2, none⟩) (by first | (simp; done) | omega | (simp; omega))).trans (by (repeat (first | with_reducible assumption | (simp [go_sem]; done) | (with_reducible refine fr_alloc ?_ ?_; focus (first | (simp; done) | omega | (simp; omega))) | (with_reducible refine Ab.fr (by assumption) ?_ ?_; focus (first | (simp; done) | omega | (simp; omega)))))); have yr3 : wa.frozen? ⟨wr.heap.size, 3, none⟩ = false := (hba.frozen (p := ⟨wr.heap.size, 3, none⟩) (by first | (simp; done) | omega | (simp; omega))).trans (by (repeat (first | with_reducible assumption | (simp [go_sem]; done) | (with_reducible refine fr_alloc ?_ ?_; focus (first | (simp; done) | omega | (simp; omega))) | (with_reducible refine Ab.fr (by assumption) ?_ ?_; focus (first | (simp; done) | omega | (simp; omega)))))); have yr4 : wa.frozen? ⟨wr.heap.size, 4, none⟩ = false := (hba.frozen (p := ⟨wr.heap.size, 4, none⟩) (by first | (simp; done) | omega | (simp; omega))).trans (by (repeat (first | with_reducible assumption | (simp [go_sem]; done) | (with_reducible refine fr_alloc ?_ ?_; focus (first | (simp; done) | omega | (simp; omega))) | (with_reducible refine Ab.fr (by assumption) ?_ ?_; focus (first | (simp; done) | omega | (simp; omega)))))); have yr5 : wa.frozen? ⟨wr.heap.size, 5, none⟩ = false := (hba.frozen (p := ⟨wr.heap.size, 5, none⟩) (by first | (simp; done) | omega | (simp; omega))).trans (by (repeat (first | with_reducible assumption | (simp [go_sem]; done) | (with_reducible refine fr_alloc ?_ ?_; focus (first | (simp; done) | omega | (simp; omega))) | (with_reducible refine Ab.fr (by assumption) ?_ ?_; focus (first | (simp; done) | omega | (simp; omega)))))); have yr6 : wa.frozen? ⟨wr.heap.size, 6, none⟩ = false := (hba.frozen (p := ⟨wr.heap.size, 6, none⟩) (by first | (simp; done) | omega | (simp; omega))).trans (by (repeat (first | with_reducible assumption | (simp [go_sem]; done) | (with_reducible refine fr_alloc ?_ ?_; focus (first | (simp; done) | omega | (simp; omega))) | (with_reducible refine Ab.fr (by assumption) ?_ ?_; focus (first | (simp; done) | omega | (simp; omega)))))); have yr7 : wa.frozen? ⟨wr.heap.size, 7, none⟩ = false := (hba.frozen (p := ⟨wr.heap.size, 7, none⟩) (by first | (simp; done) | omega | (simp; omega))).trans (by (repeat (first | with_reducible assumption | (simp [go_sem]; done) | (with_reducible refine fr_alloc ?_ ?_; focus (first | (simp; done) | omega | (simp; omega))) | (with_reducible refine Ab.fr (by assumption) ?_ ?_; focus (first | (simp; done) | omega | (simp; omega)))))); have yr8 : wa.frozen? ⟨wr.heap.size, 8, none⟩ = false := (hba.frozen (p := ⟨wr.heap.size, 8, none⟩) (by first | (simp; done) | omega | (simp; omega))).trans (by (repeat (first | with_reducible assumption | (simp [go_sem]; done) | (with_reducible refine fr_alloc ?_ ?_; focus (first | (simp; done) | omega | (simp; omega))) | (with_reducible refine Ab.fr (by assumption) ?_ ?_; focus (first | (simp; done) | omega | (simp; omega))))))
        have yna := fun (o : Obj) (j : Nat) => World.cell?_alloc_lt wa o ⟨wr.heap.size, j, none⟩ (by first | (simp; done) | omega | (simp; omega))
        have ynb := fun (o : Obj) (j : Nat) => ((Ab.refl wa).alloc o).frozen (p := ⟨wr.heap.size, j, none⟩) (by first | (simp; done) | omega | (simp; omega))
        (try go_wp2_with fail)
        (refine hK.out _ _ ?_ (fun hHeld => ?_)
         · (try dsimp only); try trivial
         clear hK K
         (try simp only [Act.put, List.setIfInBounds_toArray, List.set_cons_zero, List.set_cons_succ]))
        (refine wpAnyH_ready (rs := [2]) (by kernel_rfl) (by simp) ?_)
        refine (AllReadyH.cons rfl (fun K hK => ?_) AllReadyH.nil)
        ·
          go_simp
          (go_at_call 10)
          refine (ssave_n ma Slots.G2 _ (hMa.ab (by repeat (first | with_reducible exact Ab.refl _ | with_reducible assumption | with_reducible refine Ab.drew ?_ | with_reducible refine Ab.drewN ?_ _ | with_reducible refine Ab.alloc ?_ _ | with_reducible refine Ab.trans ?_ (by assumption) | with_reducible refine Ab.set ?_ (by first | (simp; done) | omega | (simp; omega)) _))) (some ⟨wr.heap.size + 1, 0, none⟩) b1 1001 kk1.out 1001 ((yy1.out _ _ (0, 0) (by (repeat (first | exact new_plain (by first | (simp; done) | omega | (simp; omega)) | with_reducible refine old_alloc ?_ | with_reducible refine old_drew ?_ | with_reducible refine old_set ?_ (by first | (simp; done) | omega | (simp; omega)) | with_reducible refine old_ab (by assumption) ?_))))) (by omega)).mono ?_
          rintro e wb ⟨rb, nb, eb, mb, hb, rfl, hMb, hbb⟩
          have hmb := (Prod.mk.inj (hb.out.trans (Slots.nm_many b1 kk1.out))).2
          obtain ⟨rfl, rfl⟩ := Prod.mk.inj hmb
          clear hb hmb hMb
          have zb := hbb.size
          (try simp at zb)
          have xq0 : wb.cell? ⟨wr.heap.size, 0, none⟩ = some (.slice none 0 0) := hbb.at (by (repeat (first | with_reducible assumption | (simp [go_sem]; done) | with_reducible apply cell_alloc | with_reducible apply cell_drew | with_reducible apply cell_drewN | (with_reducible apply Ab.at; with_reducible assumption) | (with_reducible refine cell_set ?_ ?_; rotate_left; focus (first | (simp; done) | (simp; omega))) | (with_reducible refine cell_setb ?_ ?_; rotate_left; focus (first | omega | (simp only; omega) | (simp; omega)))))); have xq1 : wb.cell? ⟨wr.heap.size, 1, none⟩ = some (.slice none 0 0) := hbb.at (by (repeat (first | with_reducible assumption | (simp [go_sem]; done) | with_reducible apply cell_alloc | with_reducible apply cell_drew | with_reducible apply cell_drewN | (with_reducible apply Ab.at; with_reducible assumption) | (with_reducible refine cell_set ?_ ?_; rotate_left; focus (first | (simp; done) | (simp; omega))) | (with_reducible refine cell_setb ?_ ?_; rotate_left; focus (first | omega | (simp only; omega) | (simp; omega)))))); have xq2 : wb.cell? ⟨wr.heap.size, 2, none⟩ = some (.int .i64 0) := hbb.at (by (repeat (first | with_reducible assumption | (simp [go_sem]; done) | with_reducible apply cell_alloc | with_reducible apply cell_drew | with_reducible apply cell_drewN | (with_reducible apply Ab.at; with_reducible assumption) | (with_reducible refine cell_set ?_ ?_; rotate_left; focus (first | (simp; done) | (simp; omega))) | (with_reducible refine cell_setb ?_ ?_; rotate_left; focus (first | omega | (simp only; omega) | (simp; omega)))))); have xq3 : wb.cell? ⟨wr.heap.size, 3, none⟩ = some (.bool false) := hbb.at (by (repeat (first | with_reducible assumption | (simp [go_sem]; done) | with_reducible apply cell_alloc | with_reducible apply cell_drew | with_reducible apply cell_drewN | (with_reducible apply Ab.at; with_reducible assumption) | (with_reducible refine cell_set ?_ ?_; rotate_left; focus (first | (simp; done) | (simp; omega))) | (with_reducible refine cell_setb ?_ ?_; rotate_left; focus (first | omega | (simp only; omega) | (simp; omega)))))); have xq4 : wb.cell? ⟨wr.heap.size, 4, none⟩ = some (.slice none 0 0) := hbb.at (by (repeat (first | with_reducible assumption | (simp [go_sem]; done) | with_reducible apply cell_alloc | with_reducible apply cell_drew | with_reducible apply cell_drewN | (with_reducible apply Ab.at; with_reducible assumption) | (with_reducible refine cell_set ?_ ?_; rotate_left; focus (first | (simp; done) | (simp; omega))) | (with_reducible refine cell_setb ?_ ?_; rotate_left; focus (first | omega | (simp only; omega) | (simp; omega)))))); have xq5 : wb.cell? ⟨wr.heap.size, 5, none⟩ = some (.slice none 0 0) := hbb.at (by (repeat (first | with_reducible assumption | (simp [go_sem]; done) | with_reducible apply cell_alloc | with_reducible apply cell_drew | with_reducible apply cell_drewN | (with_reducible apply Ab.at; with_reducible assumption) | (with_reducible refine cell_set ?_ ?_; rotate_left; focus (first | (simp; done) | (simp; omega))) | (with_reducible refine cell_setb ?_ ?_; rotate_left; focus (first | omega | (simp only; omega) | (simp; omega)))))); have xq6 : wb.cell? ⟨wr.heap.size, 6, none⟩ = some (.int .i64 0) := hbb.at (by (repeat (first | with_reducible assumption | (simp [go_sem]; done) | with_reducible apply cell_alloc | with_reducible apply cell_drew | with_reducible apply cell_drewN | (with_reducible apply Ab.at; with_reducible assumption) | (with_reducible refine cell_set ?_ ?_; rotate_left; focus (first | (simp; done) | (simp; omega))) | (with_reducible refine cell_setb ?_ ?_; rotate_left; focus (first | omega | (simp only; omega) | (simp; omega)))))); have xq7 : wb.cell? ⟨wr.heap.size, 7, none⟩ = some (.bool false) := hbb.at (by (repeat (first | with_reducible assumption | (simp [go_sem]; done) | with_reducible apply cell_alloc | with_reducible apply cell_drew | with_reducible apply cell_drewN | (with_reducible apply Ab.at; with_reducible assumption) | (with_reducible refine cell_set ?_ ?_; rotate_left; focus (first | (simp; done) | (simp; omega))) | (with_reducible refine cell_setb ?_ ?_; rotate_left; focus (first | omega | (simp only; omega) | (simp; omega)))))); have xq8 : wb.cell? ⟨wr.heap.size, 8, none⟩ = some (.int .i64 0) := hbb.at (by (repeat (first | with_reducible assumption | (simp [go_sem]; done) | with_reducible apply cell_alloc | with_reducible apply cell_drew | with_reducible apply cell_drewN | (with_reducible apply Ab.at; with_reducible assumption) | (with_reducible refine cell_set ?_ ?_; rotate_left; focus (first | (simp; done) | (simp; omega))) | (with_reducible refine cell_setb ?_ ?_; rotate_left; focus (first | omega | (simp only; omega) | (simp; omega))))))
          have xr0 : wb.frozen? ⟨wr.heap.size, 0, none⟩ = false := (hbb.frozen (p := ⟨wr.heap.size, 0, none⟩) (by first | (simp; done) | omega | (simp; omega))).trans (by (repeat (first | with_reducible assumption | (simp [go_sem]; done) | (with_reducible refine fr_alloc ?_ ?_; focus (first | (simp; done) | omega | (simp; omega))) | (with_reducible refine Ab.fr (by assumption) ?_ ?_; focus (first | (simp; done) | omega | (simp; omega)))))); have xr1 : wb.frozen? ⟨wr.heap.size, 1, none⟩ = false := (hbb.frozen (p := ⟨wr.heap.size, 1, none⟩) (by first | (simp; done) | omega | (simp; omega))).trans (by (repeat (first | with_reducible assumption | (simp [go_sem]; done) | (with_reducible refine fr_alloc ?_ ?_; focus (first | (simp; done) | omega | (simp; omega))) | (with_reducible refine Ab.fr (by assumption) ?_ ?_; focus (first | (simp; done) | omega | (simp; omega)))))); have xr2 : wb.frozen? ⟨wr.heap.size, 2, none⟩ = false := (hbb.frozen (p := ⟨wr.heap.size, 2, none⟩) (by first | (simp; done) | omega | (simp; omega))).trans (by (repeat (first | with_reducible assumption | (simp [go_sem]; done) | (with_reducible refine fr_alloc ?_ ?_; focus (first | (simp; done) | omega | (simp; omega))) | (with_reducible refine Ab.fr (by assumption) ?_ ?_; focus (first | (simp; done) | omega | (simp; omega)))))); have xr3 : wb.frozen? ⟨wr.heap.size, 3, none⟩ = false := (hbb.frozen (p := ⟨wr.heap.size, 3, none⟩) (by first | (simp; done) | omega | (simp; omega))).trans (by (repeat (first | with_reducible assumption | (simp [go_sem]; done) | (with_reducible refine fr_alloc ?_ ?_; focus (first | (simp; done) | omega | (simp; omega))) | (with_reducible refine Ab.fr (by assumption) ?_ ?_; focus (first | (simp; done) | omega | (simp; omega)))))); have xr4 : wb.frozen? ⟨wr.heap.size, 4, none⟩ = false := (hbb.frozen (p := ⟨wr.heap.size, 4, none⟩) (by first | (simp; done) | omega | (simp; omega))).trans (by (repeat (first | with_reducible assumption | (simp [go_sem]; done) | (with_reducible refine fr_alloc ?_ ?_; focus (first | (simp; done) | omega | (simp; omega))) | (with_reducible refine Ab.fr (by assumption) ?_ ?_; focus (first | (simp; done) | omega | (simp; omega)))))); have xr5 : wb.frozen? ⟨wr.heap.size, 5, none⟩ = false := (hbb.frozen (p := ⟨wr.heap.size, 5, none⟩) (by first | (simp; done) | omega | (simp; omega))).trans (by (repeat (first | with_reducible assumption | (simp [go_sem]; done) | (with_reducible refine fr_alloc ?_ ?_; focus (first | (simp; done) | omega | (simp; omega))) | (with_reducible refine Ab.fr (by assumption) ?_ ?_; focus (first | (simp; done) | omega | (simp; omega)))))); have xr6 : wb.frozen? ⟨wr.heap.size, 6, none⟩ = false := (hbb.frozen (p := ⟨wr.heap.size, 6, none⟩) (by first | (simp; done) | omega | (simp; omega))).trans (by (repeat (first | with_reducible assumption | (simp [go_sem]; done) | (with_reducible refine fr_alloc ?_ ?_; focus (first | (simp; done) | omega | (simp; omega))) | (with_reducible refine Ab.fr (by assumption) ?_ ?_; focus (first | (simp; done) | omega | (simp; omega)))))); have xr7 : wb.frozen? ⟨wr.heap.size, 7, none⟩ = false := (hbb.frozen (p := ⟨wr.heap.size, 7, none⟩) (by first | (simp; done) | omega | (simp; omega))).trans (by (repeat (first | with_reducible assumption | (simp [go_sem]; done) | (with_reducible refine fr_alloc ?_ ?_; focus (first | (simp; done) | omega | (simp; omega))) | (with_reducible refine Ab.fr (by assumption) ?_ ?_; focus (first | (simp; done) | omega | (simp; omega)))))); have xr8 : wb.frozen? ⟨wr.heap.size, 8, none⟩ = false := (hbb.frozen (p := ⟨wr.heap.size, 8, none⟩) (by first | (simp; done) | omega | (simp; omega))).trans (by (repeat (first | with_reducible assumption | (simp [go_sem]; done) | (with_reducible refine fr_alloc ?_ ?_; focus (first | (simp; done) | omega | (simp; omega))) | (with_reducible refine Ab.fr (by assumption) ?_ ?_; focus (first | (simp; done) | omega | (simp; omega))))))
          have xna := fun (o : Obj) (j : Nat) => World.cell?_alloc_lt wb o ⟨wr.heap.size, j, none⟩ (by first | (simp; done) | omega | (simp; omega))
          have xnb := fun (o : Obj) (j : Nat) => ((Ab.refl wb).alloc o).frozen (p := ⟨wr.heap.size, j, none⟩) (by first | (simp; done) | omega | (simp; omega))
          (try go_wp2_with fail)
          (refine hK.out _ _ ?_ (fun hHeld => ?_)
           · (try dsimp only); try trivial
           clear hK K
           (try simp only [Act.put, List.setIfInBounds_toArray, List.set_cons_zero, List.set_cons_succ]))
          (refine wpAnyH_take (i := 3) (v := ?_) rfl (by kernel_rfl) (by kernel_rfl) (by kernel_rfl) (fun _ _ _ h => h) (Or.inl ⟨by kernel_rfl, ?_⟩) (by assumption) ?_
           rotate_left
           · (intro w hSw; (try dsimp only at hSw); go_simp; (try with_reducible rfl))
           (try simp only [Act.put, List.setIfInBounds_toArray, List.set_cons_zero, List.set_cons_succ]))
          (refine wpAnyH_take (i := 4) (v := ?_) rfl (by kernel_rfl) (by kernel_rfl) (by kernel_rfl) (fun _ _ _ h => h) (Or.inl ⟨by kernel_rfl, ?_⟩) (by assumption) ?_
           rotate_left
           · (intro w hSw; (try dsimp only at hSw); go_simp; (try with_reducible rfl))
           (try simp only [Act.put, List.setIfInBounds_toArray, List.set_cons_zero, List.set_cons_succ]))
          (refine wpAnyH_take (i := 5) (v := ?_) rfl (by kernel_rfl) (by kernel_rfl) (by kernel_rfl) (fun _ _ _ h => h) (Or.inl ⟨by kernel_rfl, ?_⟩) (by assumption) ?_
           rotate_left
           · (intro w hSw; (try dsimp only at hSw); go_simp; (try with_reducible rfl))
           (try simp only [Act.put, List.setIfInBounds_toArray, List.set_cons_zero, List.set_cons_succ]))
          (refine wpAnyH_take (i := 6) (v := ?_) rfl (by kernel_rfl) (by kernel_rfl) (by kernel_rfl) (fun _ _ _ h => h) (Or.inl ⟨by kernel_rfl, ?_⟩) (by assumption) ?_
           rotate_left
           · (intro w hSw; (try dsimp only at hSw); go_simp; (try with_reducible rfl))
           (try simp only [Act.put, List.setIfInBounds_toArray, List.set_cons_zero, List.set_cons_succ]))
          (refine wpAnyH_ready (rs := [8]) (by kernel_rfl) (by simp) ?_)
          refine AllReadyH.cons rfl (fun K hK => ?_) AllReadyH.nil
          (go_simp
           (refine hK.out _ _ ?_ (fun hHeld => ?_)
            · (try dsimp only); try trivial
            clear hK K
            (try simp only [Act.put, List.setIfInBounds_toArray, List.set_cons_zero, List.set_cons_succ])))
          (refine wpAnyH_ready (rs := [9]) (by kernel_rfl) (by simp) ?_)
          refine AllReadyH.cons rfl (fun K hK => ?_) AllReadyH.nil
          (go_simp
           (refine hK.out _ _ ?_ (fun hHeld => ?_)
            · (try dsimp only); try trivial
            clear hK K
            (try simp only [Act.put, List.setIfInBounds_toArray, List.set_cons_zero, List.set_cons_succ])))
          (refine wpAnyH_ready (rs := [10]) (by kernel_rfl) (by simp) ?_)
          refine AllReadyH.cons rfl (fun K hK => ?_) AllReadyH.nil
          (go_simp
           (refine hK.out _ _ ?_ (fun hHeld => ?_)
            · (try dsimp only); try trivial
            clear hK K
            (try simp only [Act.put, List.setIfInBounds_toArray, List.set_cons_zero, List.set_cons_succ])))
          refine wpAnyH_done (by kernel_rfl) ?_ _
          refine hK _ _ ?_
          refine ⟨rfl, ?_, ?_, ?_, ?_⟩
          · dsimp only; (repeat rw [Array.size_setIfInBounds]); exact hsT
          · dsimp only; (repeat rw [opq_ne _ _ _ _ _ (by decide)]); exact f2
          · dsimp only; (repeat rw [opq_ne _ _ _ _ _ (by decide)]); rw [opq_at _ _ 309 _ _ (by (repeat rw [Array.size_setIfInBounds]); exact hsT) (by decide)]
          · exact (by repeat (first | with_reducible exact Ab.refl _ | with_reducible assumption | with_reducible refine Ab.drew ?_ | with_reducible refine Ab.drewN ?_ _ | with_reducible refine Ab.alloc ?_ _ | with_reducible refine Ab.trans ?_ (by assumption) | with_reducible refine Ab.set ?_ (by first | (simp; done) | omega | (simp; omega)) _))
set_option maxRecDepth 1000000 in
theorem lit_309 (g : Nat → Value) : (List.range 309).map g = g 0 :: g 1 :: g 2 :: g 3 :: g 4 :: g 5 :: g 6 :: g 7 :: g 8 :: g 9 :: g 10 :: g 11 :: g 12 :: g 13 :: g 14 :: g 15 :: g 16 :: g 17 :: g 18 :: g 19 :: g 20 :: g 21 :: g 22 :: g 23 :: g 24 :: g 25 :: g 26 :: g 27 :: g 28 :: g 29 :: g 30 :: g 31 :: g 32 :: g 33 :: g 34 :: g 35 :: g 36 :: g 37 :: g 38 :: g 39 :: g 40 :: g 41 :: g 42 :: g 43 :: g 44 :: g 45 :: g 46 :: g 47 :: g 48 :: g 49 :: g 50 :: g 51 :: g 52 :: g 53 :: g 54 :: g 55 :: g 56 :: g 57 :: g 58 :: g 59 :: g 60 :: g 61 :: g 62 :: g 63 :: g 64 :: g 65 :: g 66 :: g 67 :: g 68 :: g 69 :: g 70 :: g 71 :: g 72 :: g 73 :: g 74 :: g 75 :: g 76 :: g 77 :: g 78 :: g 79 :: g 80 :: g 81 :: g 82 :: g 83 :: g 84 :: g 85 :: g 86 :: g 87 :: g 88 :: g 89 :: g 90 :: g 91 :: g 92 :: g 93 :: g 94 :: g 95 :: g 96 :: g 97 :: g 98 :: g 99 :: g 100 :: g 101 :: g 102 :: g 103 :: g 104 :: g 105 :: g 106 :: g 107 :: g 108 :: g 109 :: g 110 :: g 111 :: g 112 :: g 113 :: g 114 :: g 115 :: g 116 :: g 117 :: g 118 :: g 119 :: g 120 :: g 121 :: g 122 :: g 123 :: g 124 :: g 125 :: g 126 :: g 127 :: g 128 :: g 129 :: g 130 :: g 131 :: g 132 :: g 133 :: g 134 :: g 135 :: g 136 :: g 137 :: g 138 :: g 139 :: g 140 :: g 141 :: g 142 :: g 143 :: g 144 :: g 145 :: g 146 :: g 147 :: g 148 :: g 149 :: g 150 :: g 151 :: g 152 :: g 153 :: g 154 :: g 155 :: g 156 :: g 157 :: g 158 :: g 159 :: g 160 :: g 161 :: g 162 :: g 163 :: g 164 :: g 165 :: g 166 :: g 167 :: g 168 :: g 169 :: g 170 :: g 171 :: g 172 :: g 173 :: g 174 :: g 175 :: g 176 :: g 177 :: g 178 :: g 179 :: g 180 :: g 181 :: g 182 :: g 183 :: g 184 :: g 185 :: g 186 :: g 187 :: g 188 :: g 189 :: g 190 :: g 191 :: g 192 :: g 193 :: g 194 :: g 195 :: g 196 :: g 197 :: g 198 :: g 199 :: g 200 :: g 201 :: g 202 :: g 203 :: g 204 :: g 205 :: g 206 :: g 207 :: g 208 :: g 209 :: g 210 :: g 211 :: g 212 :: g 213 :: g 214 :: g 215 :: g 216 :: g 217 :: g 218 :: g 219 :: g 220 :: g 221 :: g 222 :: g 223 :: g 224 :: g 225 :: g 226 :: g 227 :: g 228 :: g 229 :: g 230 :: g 231 :: g 232 :: g 233 :: g 234 :: g 235 :: g 236 :: g 237 :: g 238 :: g 239 :: g 240 :: g 241 :: g 242 :: g 243 :: g 244 :: g 245 :: g 246 :: g 247 :: g 248 :: g 249 :: g 250 :: g 251 :: g 252 :: g 253 :: g 254 :: g 255 :: g 256 :: g 257 :: g 258 :: g 259 :: g 260 :: g 261 :: g 262 :: g 263 :: g 264 :: g 265 :: g 266 :: g 267 :: g 268 :: g 269 :: g 270 :: g 271 :: g 272 :: g 273 :: g 274 :: g 275 :: g 276 :: g 277 :: g 278 :: g 279 :: g 280 :: g 281 :: g 282 :: g 283 :: g 284 :: g 285 :: g 286 :: g 287 :: g 288 :: g 289 :: g 290 :: g 291 :: g 292 :: g 293 :: g 294 :: g 295 :: g 296 :: g 297 :: g 298 :: g 299 :: g 300 :: g 301 :: g 302 :: g 303 :: g 304 :: g 305 :: g 306 :: g 307 :: g 308 :: [] := by rfl
end Go.Proofs.Ytakgglpfgpkboaa
