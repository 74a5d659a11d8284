/- WalNames: its two drawn regions, each over a frame kept as a letter. Written by genwnames.py. Own work. -/
import Derived.Test.YtehagdpcegpbjaaWMath5
import Derived.Test.YtehagdpcegpbjaaWAliveC
import Derived.Test.YtehagdpcegpbjaaOpq
set_option linter.unusedVariables false
set_option linter.unusedSimpArgs false
namespace Go.Proofs.Ytehagdpcegpbjaa
open Go.RowKit

theorem wn_cells4 {W w' : World} {b : Nat} {v0 v1 v2 v3 : Value} (hb : Ab W w') (h : W.cell? ⟨b, 0, none⟩ = some v0 ∧ W.cell? ⟨b, 1, none⟩ = some v1 ∧ W.cell? ⟨b, 2, none⟩ = some v2 ∧ W.cell? ⟨b, 3, none⟩ = some v3) :
    w'.cell? ⟨b, 0, none⟩ = some v0 ∧ w'.cell? ⟨b, 1, none⟩ = some v1 ∧ w'.cell? ⟨b, 2, none⟩ = some v2 ∧ w'.cell? ⟨b, 3, none⟩ = some v3 := ⟨hb.at h.1, hb.at h.2.1, hb.at h.2.2.1, hb.at h.2.2.2⟩
theorem wappend_n (A B : Option Addr) (ca cb : Nat) (s t : List UInt8) (cap : Int) (dn : Bool) (f n : Int) (w : World) (hs : RB w 0 A s) (ht : RB w 0 B t) (hca : s.length ≤ ca) (hcb : t.length ≤ cb) (ls : s.length ≤ 1000000) (lt : t.length ≤ 1000000) (g : Option (List Frame.Rec)) (hi : Wal.Is ⟨⟨s, t, cap, dn⟩, f, n⟩ g) (C : Option Addr) (cc : Nat) (b : List UInt8) (nb : Nat) (hnb : b.length = nb) (hb : RB w 0 C b) (hcc : nb ≤ cc) (lb : nb ≤ 1000000) :
    Calls Try.prog 11 #[.agg #[.slice A s.length ca, .slice B t.length cb, .int .i64 cap, .bool dn, .int .i64 f, .int .i64 n], .slice C nb cc] w (RetLog3 w (Wal.append ⟨⟨s, t, cap, dn⟩, f, n⟩ b g)) := by
  subst hnb
  exact wappend_any A B ca cb s t cap dn f n w hs ht hca hcb ls lt g hi C cc b hb hcc lb

/-- Behind region 9. -/
def NK9 (w : World) (act : Act) (wx : World) : Prop :=
  act.defers = [] ∧ act.tmps.size = 359 ∧ act.tmps.getD 1 undef = .pointer (some ⟨w.heap.size, 0, none⟩) ∧ act.tmps.getD 16 undef = .bool true ∧ act.tmps.getD 19 undef = .int .i64 4 ∧ Ab (w.alloc (.cells #[.slice none 0 0, .slice none 0 0, .int .i64 1000, .bool false] 24)) wx
noncomputable def code9 : Code := ((Try.f3.body.bind (findR 9)).getD .skip)
set_option maxRecDepth 1000000 in
set_option maxHeartbeats 9600000 in
theorem reg9 (w wr : World) (HA : Ab (w.alloc (.cells #[.slice none 0 0, .slice none 0 0, .int .i64 1000, .bool false] 24)) wr) (T : Array Value) (hsT : T.size = 359) (f1 : T.getD 1 undef = .pointer (some ⟨w.heap.size, 0, none⟩)) (f16 : T.getD 16 undef = .bool true) (K' : Act → World → Prop) (P0 : Ending → World → Prop) (hK : ∀ a' w', NK9 w a' w' → K' a' w') :
    Code.wp Try.prog code9 (Exit.then K' (bodyPost Try.prog Try.f3 P0)) ⟨T, []⟩ wr := by
  obtain ⟨ZZ1, b1, kk1, _, mm1, yy1⟩ := make_bytes 1001 (by omega) 1001 rfl
  have gsT := opq_set
  have zr := HA.size
  simp at zr
  conv => arg 2; whnf
  refine wp_region_held_drew (by kernel_rfl) (S := fun _ => True) ?_ (fun hHeld => ?_)
  · try trivial
  (refine wpAnyH_ready (rs := [0, 1, 7]) (by kernel_rfl) (by simp) ?_)
  refine (AllReadyH.cons rfl (fun K hK => ?_) (AllReadyH.cons rfl (fun K hK => ?_) (AllReadyH.cons rfl (fun K hK => ?_) AllReadyH.nil)))
  ·
    go_simp
    (go_at_call 13)
    refine (given_false _).mono ?_
    rintro e wa ⟨ra, Da, Ea, ca, da, Ha, rfl, pa, sa, hba⟩
    have ga : Wal.Good ra [WalEx.r5, WalEx.r6] := by rw [Ha.out]; exact WalEx.good_56
    have La := good_lens ga
    have za := hba.size
    (try simp at za)
    (try go_wp2_with fail)
    (refine hK.out _ _ ?_ (fun hHeld => ?_)
     · (try dsimp only); try trivial
     clear hK K
     (try simp only [Act.put, List.setIfInBounds_toArray, List.set_cons_zero, List.set_cons_succ]))
    (refine wpAnyH_ready (rs := [1, 7]) (by kernel_rfl) (by simp) ?_)
    refine (AllReadyH.cons rfl (fun K hK => ?_) (AllReadyH.cons rfl (fun K hK => ?_) AllReadyH.nil))
    ·
      (go_simp
       (refine hK.out _ _ ?_ (fun hHeld => ?_)
        · (try dsimp only); try trivial
        clear hK K
        (try simp only [Act.put, List.setIfInBounds_toArray, List.set_cons_zero, List.set_cons_succ])))
      (refine wpAnyH_ready (rs := [2, 7]) (by kernel_rfl) (by simp) ?_)
      refine (AllReadyH.cons rfl (fun K hK => ?_) (AllReadyH.cons rfl (fun K hK => ?_) AllReadyH.nil))
      ·
        go_simp
        (go_at_call 11)
        refine (wappend_n Da Ea ca da ra.dev.s ra.dev.t ra.dev.cap ra.dev.down ra.first ra.next _ (pa.rb.zero.ab (by repeat (first | with_reducible exact Ab.refl _ | with_reducible assumption | with_reducible refine Ab.drew ?_ | with_reducible refine Ab.drewN ?_ _ | with_reducible refine Ab.alloc ?_ _ | with_reducible refine Ab.trans ?_ (by assumption) | with_reducible refine Ab.set ?_ (by first | (simp; done) | omega | (simp; omega)) _))) (sa.rb.zero.ab (by repeat (first | with_reducible exact Ab.refl _ | with_reducible assumption | with_reducible refine Ab.drew ?_ | with_reducible refine Ab.drewN ?_ _ | with_reducible refine Ab.alloc ?_ _ | with_reducible refine Ab.trans ?_ (by assumption) | with_reducible refine Ab.set ?_ (by first | (simp; done) | omega | (simp; omega)) _))) pa.le sa.le La.1 La.2 (some [WalEx.r5, WalEx.r6]) ga (some ⟨wa.heap.size, 0, none⟩) 1001 b1 1001 kk1.out ((yy1.out _ _ (0, 0) (by (repeat (first | exact new_plain (by first | (simp; done) | omega | (simp; omega)) | with_reducible refine old_alloc ?_ | with_reducible refine old_drew ?_ | with_reducible refine old_set ?_ (by first | (simp; done) | omega | (simp; omega)) | with_reducible refine old_ab (by assumption) ?_))))) (by omega) (by omega)).mono ?_
        rintro e wb ⟨rb, nb, eb, Db, Eb, cb, db, hb, rfl, pb, sb, hbb⟩
        have hmb := hb.out.trans ((congrArg (fun l => Wal.append l b1 (some [WalEx.r5, WalEx.r6])) Ha.out).trans (WalEx.nm_g b1 kk1.out))
        have hnb := (Prod.mk.inj hmb).2
        obtain ⟨rfl, rfl⟩ := Prod.mk.inj hnb
        clear hb hmb pb sb
        have zb := hbb.size
        (try simp at zb)
        (try go_wp2_with fail)
        (refine hK.out _ _ ?_ (fun hHeld => ?_)
         · (try dsimp only); try trivial
         clear hK K
         (try simp only [Act.put, List.setIfInBounds_toArray, List.set_cons_zero, List.set_cons_succ]))
        (refine wpAnyH_take (i := 3) (v := ?_) rfl (by kernel_rfl) (by kernel_rfl) (by kernel_rfl) (fun _ _ _ h => h) (Or.inl ⟨by kernel_rfl, ?_⟩) (by assumption) ?_
         rotate_left
         · (intro w hSw; (try dsimp only at hSw); go_simp; (try with_reducible rfl))
         (try simp only [Act.put, List.setIfInBounds_toArray, List.set_cons_zero, List.set_cons_succ]))
        (refine wpAnyH_take (i := 4) (v := ?_) rfl (by kernel_rfl) (by kernel_rfl) (by kernel_rfl) (fun _ _ _ h => h) (Or.inl ⟨by kernel_rfl, ?_⟩) (by assumption) ?_
         rotate_left
         · (intro w hSw; (try dsimp only at hSw); go_simp; (try with_reducible rfl))
         (try simp only [Act.put, List.setIfInBounds_toArray, List.set_cons_zero, List.set_cons_succ]))
        (refine wpAnyH_take (i := 5) (v := ?_) rfl (by kernel_rfl) (by kernel_rfl) (by kernel_rfl) (fun _ _ _ h => h) (Or.inl ⟨by kernel_rfl, ?_⟩) (by assumption) ?_
         rotate_left
         · (intro w hSw; (try dsimp only at hSw); go_simp; (try with_reducible rfl))
         (try simp only [Act.put, List.setIfInBounds_toArray, List.set_cons_zero, List.set_cons_succ]))
        (refine wpAnyH_take (i := 6) (v := ?_) rfl (by kernel_rfl) (by kernel_rfl) (by kernel_rfl) (fun _ _ _ h => h) (Or.inl ⟨by kernel_rfl, ?_⟩) (by assumption) ?_
         rotate_left
         · (intro w hSw; (try dsimp only at hSw); go_simp; (try with_reducible rfl))
         (try simp only [Act.put, List.setIfInBounds_toArray, List.set_cons_zero, List.set_cons_succ]))
        (refine wpAnyH_ready (rs := [7]) (by kernel_rfl) (by simp) ?_)
        refine AllReadyH.cons rfl (fun K hK => ?_) AllReadyH.nil
        (go_simp
         (refine hK.out _ _ ?_ (fun hHeld => ?_)
          · (try dsimp only); try trivial
          clear hK K
          (try simp only [Act.put, List.setIfInBounds_toArray, List.set_cons_zero, List.set_cons_succ])))
        (refine wpAnyH_ready (rs := [8]) (by kernel_rfl) (by simp) ?_)
        refine AllReadyH.cons rfl (fun K hK => ?_) AllReadyH.nil
        (go_simp
         (refine hK.out _ _ ?_ (fun hHeld => ?_)
          · (try dsimp only); try trivial
          clear hK K
          (try simp only [Act.put, List.setIfInBounds_toArray, List.set_cons_zero, List.set_cons_succ])))
        (refine wpAnyH_ready (rs := [9]) (by kernel_rfl) (by simp) ?_)
        refine AllReadyH.cons rfl (fun K hK => ?_) AllReadyH.nil
        (go_simp
         (refine hK.out _ _ ?_ (fun hHeld => ?_)
          · (try dsimp only); try trivial
          clear hK K
          (try simp only [Act.put, List.setIfInBounds_toArray, List.set_cons_zero, List.set_cons_succ])))
        (refine wpAnyH_ready (rs := [10]) (by kernel_rfl) (by simp) ?_)
        refine AllReadyH.cons rfl (fun K hK => ?_) AllReadyH.nil
        (go_simp
         (refine hK.out _ _ ?_ (fun hHeld => ?_)
          · (try dsimp only); try trivial
          clear hK K
          (try simp only [Act.put, List.setIfInBounds_toArray, List.set_cons_zero, List.set_cons_succ])))
        refine wpAnyH_done (by kernel_rfl) ?_ _
        refine hK _ _ ?_
        refine ⟨rfl, ?_, ?_, ?_, ?_, ?_⟩
        · dsimp only; (repeat rw [Array.size_setIfInBounds]); exact hsT
        · dsimp only; (repeat rw [opq_ne _ _ _ _ _ (by decide)]); exact f1
        · dsimp only; (repeat rw [opq_ne _ _ _ _ _ (by decide)]); exact f16
        · dsimp only; rw [opq_at _ _ 359 _ _ (by (repeat rw [Array.size_setIfInBounds]); exact hsT) (by decide)]
        · exact (by repeat (first | with_reducible exact Ab.refl _ | with_reducible assumption | with_reducible refine Ab.drew ?_ | with_reducible refine Ab.drewN ?_ _ | with_reducible refine Ab.alloc ?_ _ | with_reducible refine Ab.trans ?_ (by assumption) | with_reducible refine Ab.set ?_ (by first | (simp; done) | omega | (simp; omega)) _))
      ·
        (go_simp
         (refine hK.out _ _ ?_ (fun hHeld => ?_)
          · (try dsimp only); try trivial
          clear hK K
          (try simp only [Act.put, List.setIfInBounds_toArray, List.set_cons_zero, List.set_cons_succ])))
        (refine wpAnyH_ready (rs := [2]) (by kernel_rfl) (by simp) ?_)
        refine (AllReadyH.cons rfl (fun K hK => ?_) AllReadyH.nil)
        ·
          go_simp
          (go_at_call 11)
          refine (wappend_n Da Ea ca da ra.dev.s ra.dev.t ra.dev.cap ra.dev.down ra.first ra.next _ (pa.rb.zero.ab (by repeat (first | with_reducible exact Ab.refl _ | with_reducible assumption | with_reducible refine Ab.drew ?_ | with_reducible refine Ab.drewN ?_ _ | with_reducible refine Ab.alloc ?_ _ | with_reducible refine Ab.trans ?_ (by assumption) | with_reducible refine Ab.set ?_ (by first | (simp; done) | omega | (simp; omega)) _))) (sa.rb.zero.ab (by repeat (first | with_reducible exact Ab.refl _ | with_reducible assumption | with_reducible refine Ab.drew ?_ | with_reducible refine Ab.drewN ?_ _ | with_reducible refine Ab.alloc ?_ _ | with_reducible refine Ab.trans ?_ (by assumption) | with_reducible refine Ab.set ?_ (by first | (simp; done) | omega | (simp; omega)) _))) pa.le sa.le La.1 La.2 (some [WalEx.r5, WalEx.r6]) ga (some ⟨wa.heap.size, 0, none⟩) 1001 b1 1001 kk1.out ((yy1.out _ _ (0, 0) (by (repeat (first | exact new_plain (by first | (simp; done) | omega | (simp; omega)) | with_reducible refine old_alloc ?_ | with_reducible refine old_drew ?_ | with_reducible refine old_set ?_ (by first | (simp; done) | omega | (simp; omega)) | with_reducible refine old_ab (by assumption) ?_))))) (by omega) (by omega)).mono ?_
          rintro e wb ⟨rb, nb, eb, Db, Eb, cb, db, hb, rfl, pb, sb, hbb⟩
          have hmb := hb.out.trans ((congrArg (fun l => Wal.append l b1 (some [WalEx.r5, WalEx.r6])) Ha.out).trans (WalEx.nm_g b1 kk1.out))
          have hnb := (Prod.mk.inj hmb).2
          obtain ⟨rfl, rfl⟩ := Prod.mk.inj hnb
          clear hb hmb pb sb
          have zb := hbb.size
          (try simp at zb)
          have xq0 : wb.cell? ⟨wa.heap.size + 1, 0, none⟩ = some (.slice none 0 0) := hbb.at (by (repeat (first | with_reducible assumption | (simp [go_sem]; done) | with_reducible apply cell_alloc | with_reducible apply cell_drew | with_reducible apply cell_drewN | (with_reducible apply Ab.at; with_reducible assumption) | (with_reducible refine cell_set ?_ ?_; rotate_left; focus (first | (simp; done) | (simp; omega))) | (with_reducible refine cell_setb ?_ ?_; rotate_left; focus (first | omega | (simp only; omega) | (simp; omega)))))); have xq1 : wb.cell? ⟨wa.heap.size + 1, 1, none⟩ = some (.slice none 0 0) := hbb.at (by (repeat (first | with_reducible assumption | (simp [go_sem]; done) | with_reducible apply cell_alloc | with_reducible apply cell_drew | with_reducible apply cell_drewN | (with_reducible apply Ab.at; with_reducible assumption) | (with_reducible refine cell_set ?_ ?_; rotate_left; focus (first | (simp; done) | (simp; omega))) | (with_reducible refine cell_setb ?_ ?_; rotate_left; focus (first | omega | (simp only; omega) | (simp; omega)))))); have xq2 : wb.cell? ⟨wa.heap.size + 1, 2, none⟩ = some (.int .i64 0) := hbb.at (by (repeat (first | with_reducible assumption | (simp [go_sem]; done) | with_reducible apply cell_alloc | with_reducible apply cell_drew | with_reducible apply cell_drewN | (with_reducible apply Ab.at; with_reducible assumption) | (with_reducible refine cell_set ?_ ?_; rotate_left; focus (first | (simp; done) | (simp; omega))) | (with_reducible refine cell_setb ?_ ?_; rotate_left; focus (first | omega | (simp only; omega) | (simp; omega)))))); have xq3 : wb.cell? ⟨wa.heap.size + 1, 3, none⟩ = some (.bool false) := hbb.at (by (repeat (first | with_reducible assumption | (simp [go_sem]; done) | with_reducible apply cell_alloc | with_reducible apply cell_drew | with_reducible apply cell_drewN | (with_reducible apply Ab.at; with_reducible assumption) | (with_reducible refine cell_set ?_ ?_; rotate_left; focus (first | (simp; done) | (simp; omega))) | (with_reducible refine cell_setb ?_ ?_; rotate_left; focus (first | omega | (simp only; omega) | (simp; omega)))))); have xq4 : wb.cell? ⟨wa.heap.size + 1, 4, none⟩ = some (.int .i64 0) := hbb.at (by (repeat (first | with_reducible assumption | (simp [go_sem]; done) | with_reducible apply cell_alloc | with_reducible apply cell_drew | with_reducible apply cell_drewN | (with_reducible apply Ab.at; with_reducible assumption) | (with_reducible refine cell_set ?_ ?_; rotate_left; focus (first | (simp; done) | (simp; omega))) | (with_reducible refine cell_setb ?_ ?_; rotate_left; focus (first | omega | (simp only; omega) | (simp; omega)))))); have xq5 : wb.cell? ⟨wa.heap.size + 1, 5, none⟩ = some (.int .i64 0) := hbb.at (by (repeat (first | with_reducible assumption | (simp [go_sem]; done) | with_reducible apply cell_alloc | with_reducible apply cell_drew | with_reducible apply cell_drewN | (with_reducible apply Ab.at; with_reducible assumption) | (with_reducible refine cell_set ?_ ?_; rotate_left; focus (first | (simp; done) | (simp; omega))) | (with_reducible refine cell_setb ?_ ?_; rotate_left; focus (first | omega | (simp only; omega) | (simp; omega))))))
          have xr0 : wb.frozen? ⟨wa.heap.size + 1, 0, none⟩ = false := (hbb.frozen (p := ⟨wa.heap.size + 1, 0, none⟩) (by first | (simp; done) | omega | (simp; omega))).trans (by (repeat (first | with_reducible assumption | (simp [go_sem]; done) | (with_reducible refine fr_alloc ?_ ?_; focus (first | (simp; done) | omega | (simp; omega))) | (with_reducible refine Ab.fr (by assumption) ?_ ?_; focus (first | (simp; done) | omega | (simp; omega)))))); have xr1 : wb.frozen? ⟨wa.heap.size + 1, 1, none⟩ = false := (hbb.frozen (p := ⟨wa.heap.size + 1, 1, none⟩) (by first | (simp; done) | omega | (simp; omega))).trans (by (repeat (first | with_reducible assumption | (simp [go_sem]; done) | (with_reducible refine fr_alloc ?_ ?_; focus (first | (simp; done) | omega | (simp; omega))) | (with_reducible refine Ab.fr (by assumption) ?_ ?_; focus (first | (simp; done) | omega | (simp; omega)))))); have xr2 : wb.frozen? ⟨wa.heap.size + 1, 2, none⟩ = false := (hbb.frozen (p := ⟨wa.heap.size + 1, 2, none⟩) (by first | (simp; done) | omega | (simp; omega))).trans (by (repeat (first | with_reducible assumption | (simp [go_sem]; done) | (with_reducible refine fr_alloc ?_ ?_; focus (first | (simp; done) | omega | (simp; omega))) | (with_reducible refine Ab.fr (by assumption) ?_ ?_; focus (first | (simp; done) | omega | (simp; omega)))))); have xr3 : wb.frozen? ⟨wa.heap.size + 1, 3, none⟩ = false := (hbb.frozen (p := ⟨wa.heap.size + 1, 3, none⟩) (by first | (simp; done) | omega | (simp; omega))).trans (by (repeat (first | with_reducible assumption | (simp [go_sem]; done) | (with_reducible refine fr_alloc ?_ ?_; focus (first | (simp; done) | omega | (simp; omega))) | (with_reducible refine Ab.fr (by assumption) ?_ ?_; focus (first | (simp; done) | omega | (simp; omega)))))); have xr4 : wb.frozen? ⟨wa.heap.size + 1, 4, none⟩ = false := (hbb.frozen (p := ⟨wa.heap.size + 1, 4, none⟩) (by first | (simp; done) | omega | (simp; omega))).trans (by (repeat (first | with_reducible assumption | (simp [go_sem]; done) | (with_reducible refine fr_alloc ?_ ?_; focus (first | (simp; done) | omega | (simp; omega))) | (with_reducible refine Ab.fr (by assumption) ?_ ?_; focus (first | (simp; done) | omega | (simp; omega)))))); have xr5 : wb.frozen? ⟨wa.heap.size + 1, 5, none⟩ = false := (hbb.frozen (p := ⟨wa.heap.size + 1, 5, none⟩) (by first | (simp; done) | omega | (simp; omega))).trans (by (repeat (first | with_reducible assumption | (simp [go_sem]; done) | (with_reducible refine fr_alloc ?_ ?_; focus (first | (simp; done) | omega | (simp; omega))) | (with_reducible refine Ab.fr (by assumption) ?_ ?_; focus (first | (simp; done) | omega | (simp; omega))))))
          have xna := fun (o : Obj) (j : Nat) => World.cell?_alloc_lt wb o ⟨wa.heap.size + 1, j, none⟩ (by first | (simp; done) | omega | (simp; omega))
          have xnb := fun (o : Obj) (j : Nat) => ((Ab.refl wb).alloc o).frozen (p := ⟨wa.heap.size + 1, j, none⟩) (by first | (simp; done) | omega | (simp; omega))
          (try go_wp2_with fail)
          (refine hK.out _ _ ?_ (fun hHeld => ?_)
           · (try dsimp only); try trivial
           clear hK K
           (try simp only [Act.put, List.setIfInBounds_toArray, List.set_cons_zero, List.set_cons_succ]))
          (refine wpAnyH_take (i := 3) (v := ?_) rfl (by kernel_rfl) (by kernel_rfl) (by kernel_rfl) (fun _ _ _ h => h) (Or.inl ⟨by kernel_rfl, ?_⟩) (by assumption) ?_
           rotate_left
           · (intro w hSw; (try dsimp only at hSw); go_simp; (try with_reducible rfl))
           (try simp only [Act.put, List.setIfInBounds_toArray, List.set_cons_zero, List.set_cons_succ]))
          (refine wpAnyH_take (i := 4) (v := ?_) rfl (by kernel_rfl) (by kernel_rfl) (by kernel_rfl) (fun _ _ _ h => h) (Or.inl ⟨by kernel_rfl, ?_⟩) (by assumption) ?_
           rotate_left
           · (intro w hSw; (try dsimp only at hSw); go_simp; (try with_reducible rfl))
           (try simp only [Act.put, List.setIfInBounds_toArray, List.set_cons_zero, List.set_cons_succ]))
          (refine wpAnyH_take (i := 5) (v := ?_) rfl (by kernel_rfl) (by kernel_rfl) (by kernel_rfl) (fun _ _ _ h => h) (Or.inl ⟨by kernel_rfl, ?_⟩) (by assumption) ?_
           rotate_left
           · (intro w hSw; (try dsimp only at hSw); go_simp; (try with_reducible rfl))
           (try simp only [Act.put, List.setIfInBounds_toArray, List.set_cons_zero, List.set_cons_succ]))
          (refine wpAnyH_take (i := 6) (v := ?_) rfl (by kernel_rfl) (by kernel_rfl) (by kernel_rfl) (fun _ _ _ h => h) (Or.inl ⟨by kernel_rfl, ?_⟩) (by assumption) ?_
           rotate_left
           · (intro w hSw; (try dsimp only at hSw); go_simp; (try with_reducible rfl))
           (try simp only [Act.put, List.setIfInBounds_toArray, List.set_cons_zero, List.set_cons_succ]))
          (refine wpAnyH_ready (rs := [8]) (by kernel_rfl) (by simp) ?_)
          refine AllReadyH.cons rfl (fun K hK => ?_) AllReadyH.nil
          (go_simp
           (refine hK.out _ _ ?_ (fun hHeld => ?_)
            · (try dsimp only); try trivial
            clear hK K
            (try simp only [Act.put, List.setIfInBounds_toArray, List.set_cons_zero, List.set_cons_succ])))
          (refine wpAnyH_ready (rs := [9]) (by kernel_rfl) (by simp) ?_)
          refine AllReadyH.cons rfl (fun K hK => ?_) AllReadyH.nil
          (go_simp
           (refine hK.out _ _ ?_ (fun hHeld => ?_)
            · (try dsimp only); try trivial
            clear hK K
            (try simp only [Act.put, List.setIfInBounds_toArray, List.set_cons_zero, List.set_cons_succ])))
          (refine wpAnyH_ready (rs := [10]) (by kernel_rfl) (by simp) ?_)
          refine AllReadyH.cons rfl (fun K hK => ?_) AllReadyH.nil
          (go_simp
           (refine hK.out _ _ ?_ (fun hHeld => ?_)
            · (try dsimp only); try trivial
            clear hK K
            (try simp only [Act.put, List.setIfInBounds_toArray, List.set_cons_zero, List.set_cons_succ])))
          refine wpAnyH_done (by kernel_rfl) ?_ _
          refine hK _ _ ?_
          refine ⟨rfl, ?_, ?_, ?_, ?_, ?_⟩
          · dsimp only; (repeat rw [Array.size_setIfInBounds]); exact hsT
          · dsimp only; (repeat rw [opq_ne _ _ _ _ _ (by decide)]); exact f1
          · dsimp only; (repeat rw [opq_ne _ _ _ _ _ (by decide)]); exact f16
          · dsimp only; rw [opq_at _ _ 359 _ _ (by (repeat rw [Array.size_setIfInBounds]); exact hsT) (by decide)]
          · exact (by repeat (first | with_reducible exact Ab.refl _ | with_reducible assumption | with_reducible refine Ab.drew ?_ | with_reducible refine Ab.drewN ?_ _ | with_reducible refine Ab.alloc ?_ _ | with_reducible refine Ab.trans ?_ (by assumption) | with_reducible refine Ab.set ?_ (by first | (simp; done) | omega | (simp; omega)) _))
    ·
      (go_simp
       (refine hK.out _ _ ?_ (fun hHeld => ?_)
        · (try dsimp only); try trivial
        clear hK K
        (try simp only [Act.put, List.setIfInBounds_toArray, List.set_cons_zero, List.set_cons_succ])))
      (refine wpAnyH_ready (rs := [1]) (by kernel_rfl) (by simp) ?_)
      refine (AllReadyH.cons rfl (fun K hK => ?_) AllReadyH.nil)
      ·
        (go_simp
         (refine hK.out _ _ ?_ (fun hHeld => ?_)
          · (try dsimp only); try trivial
          clear hK K
          (try simp only [Act.put, List.setIfInBounds_toArray, List.set_cons_zero, List.set_cons_succ])))
        (refine wpAnyH_ready (rs := [2]) (by kernel_rfl) (by simp) ?_)
        refine (AllReadyH.cons rfl (fun K hK => ?_) AllReadyH.nil)
        ·
          go_simp
          (go_at_call 11)
          refine (wappend_n Da Ea ca da ra.dev.s ra.dev.t ra.dev.cap ra.dev.down ra.first ra.next _ (pa.rb.zero.ab (by repeat (first | with_reducible exact Ab.refl _ | with_reducible assumption | with_reducible refine Ab.drew ?_ | with_reducible refine Ab.drewN ?_ _ | with_reducible refine Ab.alloc ?_ _ | with_reducible refine Ab.trans ?_ (by assumption) | with_reducible refine Ab.set ?_ (by first | (simp; done) | omega | (simp; omega)) _))) (sa.rb.zero.ab (by repeat (first | with_reducible exact Ab.refl _ | with_reducible assumption | with_reducible refine Ab.drew ?_ | with_reducible refine Ab.drewN ?_ _ | with_reducible refine Ab.alloc ?_ _ | with_reducible refine Ab.trans ?_ (by assumption) | with_reducible refine Ab.set ?_ (by first | (simp; done) | omega | (simp; omega)) _))) pa.le sa.le La.1 La.2 (some [WalEx.r5, WalEx.r6]) ga (some ⟨wa.heap.size + 1, 0, none⟩) 1001 b1 1001 kk1.out ((yy1.out _ _ (0, 0) (by (repeat (first | exact new_plain (by first | (simp; done) | omega | (simp; omega)) | with_reducible refine old_alloc ?_ | with_reducible refine old_drew ?_ | with_reducible refine old_set ?_ (by first | (simp; done) | omega | (simp; omega)) | with_reducible refine old_ab (by assumption) ?_))))) (by omega) (by omega)).mono ?_
          rintro e wb ⟨rb, nb, eb, Db, Eb, cb, db, hb, rfl, pb, sb, hbb⟩
          have hmb := hb.out.trans ((congrArg (fun l => Wal.append l b1 (some [WalEx.r5, WalEx.r6])) Ha.out).trans (WalEx.nm_g b1 kk1.out))
          have hnb := (Prod.mk.inj hmb).2
          obtain ⟨rfl, rfl⟩ := Prod.mk.inj hnb
          clear hb hmb pb sb
          have zb := hbb.size
          (try simp at zb)
          have xq0 : wb.cell? ⟨wa.heap.size, 0, none⟩ = some (.slice none 0 0) := hbb.at (by (repeat (first | with_reducible assumption | (simp [go_sem]; done) | with_reducible apply cell_alloc | with_reducible apply cell_drew | with_reducible apply cell_drewN | (with_reducible apply Ab.at; with_reducible assumption) | (with_reducible refine cell_set ?_ ?_; rotate_left; focus (first | (simp; done) | (simp; omega))) | (with_reducible refine cell_setb ?_ ?_; rotate_left; focus (first | omega | (simp only; omega) | (simp; omega)))))); have xq1 : wb.cell? ⟨wa.heap.size, 1, none⟩ = some (.slice none 0 0) := hbb.at (by (repeat (first | with_reducible assumption | (simp [go_sem]; done) | with_reducible apply cell_alloc | with_reducible apply cell_drew | with_reducible apply cell_drewN | (with_reducible apply Ab.at; with_reducible assumption) | (with_reducible refine cell_set ?_ ?_; rotate_left; focus (first | (simp; done) | (simp; omega))) | (with_reducible refine cell_setb ?_ ?_; rotate_left; focus (first | omega | (simp only; omega) | (simp; omega)))))); have xq2 : wb.cell? ⟨wa.heap.size, 2, none⟩ = some (.int .i64 0) := hbb.at (by (repeat (first | with_reducible assumption | (simp [go_sem]; done) | with_reducible apply cell_alloc | with_reducible apply cell_drew | with_reducible apply cell_drewN | (with_reducible apply Ab.at; with_reducible assumption) | (with_reducible refine cell_set ?_ ?_; rotate_left; focus (first | (simp; done) | (simp; omega))) | (with_reducible refine cell_setb ?_ ?_; rotate_left; focus (first | omega | (simp only; omega) | (simp; omega)))))); have xq3 : wb.cell? ⟨wa.heap.size, 3, none⟩ = some (.bool false) := hbb.at (by (repeat (first | with_reducible assumption | (simp [go_sem]; done) | with_reducible apply cell_alloc | with_reducible apply cell_drew | with_reducible apply cell_drewN | (with_reducible apply Ab.at; with_reducible assumption) | (with_reducible refine cell_set ?_ ?_; rotate_left; focus (first | (simp; done) | (simp; omega))) | (with_reducible refine cell_setb ?_ ?_; rotate_left; focus (first | omega | (simp only; omega) | (simp; omega)))))); have xq4 : wb.cell? ⟨wa.heap.size, 4, none⟩ = some (.int .i64 0) := hbb.at (by (repeat (first | with_reducible assumption | (simp [go_sem]; done) | with_reducible apply cell_alloc | with_reducible apply cell_drew | with_reducible apply cell_drewN | (with_reducible apply Ab.at; with_reducible assumption) | (with_reducible refine cell_set ?_ ?_; rotate_left; focus (first | (simp; done) | (simp; omega))) | (with_reducible refine cell_setb ?_ ?_; rotate_left; focus (first | omega | (simp only; omega) | (simp; omega)))))); have xq5 : wb.cell? ⟨wa.heap.size, 5, none⟩ = some (.int .i64 0) := hbb.at (by (repeat (first | with_reducible assumption | (simp [go_sem]; done) | with_reducible apply cell_alloc | with_reducible apply cell_drew | with_reducible apply cell_drewN | (with_reducible apply Ab.at; with_reducible assumption) | (with_reducible refine cell_set ?_ ?_; rotate_left; focus (first | (simp; done) | (simp; omega))) | (with_reducible refine cell_setb ?_ ?_; rotate_left; focus (first | omega | (simp only; omega) | (simp; omega))))))
          have xr0 : wb.frozen? ⟨wa.heap.size, 0, none⟩ = false := (hbb.frozen (p := ⟨wa.heap.size, 0, none⟩) (by first | (simp; done) | omega | (simp; omega))).trans (by (repeat (first | with_reducible assumption | (simp [go_sem]; done) | (with_reducible refine fr_alloc ?_ ?_; focus (first | (simp; done) | omega | (simp; omega))) | (with_reducible refine Ab.fr (by assumption) ?_ ?_; focus (first | (simp; done) | omega | (simp; omega)))))); have xr1 : wb.frozen? ⟨wa.heap.size, 1, none⟩ = false := (hbb.frozen (p := ⟨wa.heap.size, 1, none⟩) (by first | (simp; done) | omega | (simp; omega))).trans (by (repeat (first | with_reducible assumption | (simp [go_sem]; done) | (with_reducible refine fr_alloc ?_ ?_; focus (first | (simp; done) | omega | (simp; omega))) | (with_reducible refine Ab.fr (by assumption) ?_ ?_; focus (first | (simp; done) | omega | (simp; omega)))))); have xr2 : wb.frozen? ⟨wa.heap.size, 2, none⟩ = false := (hbb.frozen (p := ⟨wa.heap.size, 2, none⟩) (by first | (simp; done) | omega | (simp; omega))).trans (by (repeat (first | with_reducible assumption | (simp [go_sem]; done) | (with_reducible refine fr_alloc ?_ ?_; focus (first | (simp; done) | omega | (simp; omega))) | (with_reducible refine Ab.fr (by assumption) ?_ ?_; focus (first | (simp; done) | omega | (simp; omega)))))); have xr3 : wb.frozen? ⟨wa.heap.size, 3, none⟩ = false := (hbb.frozen (p := ⟨wa.heap.size, 3, none⟩) (by first | (simp; done) | omega | (simp; omega))).trans (by (repeat (first | with_reducible assumption | (simp [go_sem]; done) | (with_reducible refine fr_alloc ?_ ?_; focus (first | (simp; done) | omega | (simp; omega))) | (with_reducible refine Ab.fr (by assumption) ?_ ?_; focus (first | (simp; done) | omega | (simp; omega)))))); have xr4 : wb.frozen? ⟨wa.heap.size, 4, none⟩ = false := (hbb.frozen (p := ⟨wa.heap.size, 4, none⟩) (by first | (simp; done) | omega | (simp; omega))).trans (by (repeat (first | with_reducible assumption | (simp [go_sem]; done) | (with_reducible refine fr_alloc ?_ ?_; focus (first | (simp; done) | omega | (simp; omega))) | (with_reducible refine Ab.fr (by assumption) ?_ ?_; focus (first | (simp; done) | omega | (simp; omega)))))); have xr5 : wb.frozen? ⟨wa.heap.size, 5, none⟩ = false := (hbb.frozen (p := ⟨wa.heap.size, 5, none⟩) (by first | (simp; done) | omega | (simp; omega))).trans (by (repeat (first | with_reducible assumption | (simp [go_sem]; done) | (with_reducible refine fr_alloc ?_ ?_; focus (first | (simp; done) | omega | (simp; omega))) | (with_reducible refine Ab.fr (by assumption) ?_ ?_; focus (first | (simp; done) | omega | (simp; omega))))))
          have xna := fun (o : Obj) (j : Nat) => World.cell?_alloc_lt wb o ⟨wa.heap.size, j, none⟩ (by first | (simp; done) | omega | (simp; omega))
          have xnb := fun (o : Obj) (j : Nat) => ((Ab.refl wb).alloc o).frozen (p := ⟨wa.heap.size, j, none⟩) (by first | (simp; done) | omega | (simp; omega))
          (try go_wp2_with fail)
          (refine hK.out _ _ ?_ (fun hHeld => ?_)
           · (try dsimp only); try trivial
           clear hK K
           (try simp only [Act.put, List.setIfInBounds_toArray, List.set_cons_zero, List.set_cons_succ]))
          (refine wpAnyH_take (i := 3) (v := ?_) rfl (by kernel_rfl) (by kernel_rfl) (by kernel_rfl) (fun _ _ _ h => h) (Or.inl ⟨by kernel_rfl, ?_⟩) (by assumption) ?_
           rotate_left
           · (intro w hSw; (try dsimp only at hSw); go_simp; (try with_reducible rfl))
           (try simp only [Act.put, List.setIfInBounds_toArray, List.set_cons_zero, List.set_cons_succ]))
          (refine wpAnyH_take (i := 4) (v := ?_) rfl (by kernel_rfl) (by kernel_rfl) (by kernel_rfl) (fun _ _ _ h => h) (Or.inl ⟨by kernel_rfl, ?_⟩) (by assumption) ?_
           rotate_left
           · (intro w hSw; (try dsimp only at hSw); go_simp; (try with_reducible rfl))
           (try simp only [Act.put, List.setIfInBounds_toArray, List.set_cons_zero, List.set_cons_succ]))
          (refine wpAnyH_take (i := 5) (v := ?_) rfl (by kernel_rfl) (by kernel_rfl) (by kernel_rfl) (fun _ _ _ h => h) (Or.inl ⟨by kernel_rfl, ?_⟩) (by assumption) ?_
           rotate_left
           · (intro w hSw; (try dsimp only at hSw); go_simp; (try with_reducible rfl))
           (try simp only [Act.put, List.setIfInBounds_toArray, List.set_cons_zero, List.set_cons_succ]))
          (refine wpAnyH_take (i := 6) (v := ?_) rfl (by kernel_rfl) (by kernel_rfl) (by kernel_rfl) (fun _ _ _ h => h) (Or.inl ⟨by kernel_rfl, ?_⟩) (by assumption) ?_
           rotate_left
           · (intro w hSw; (try dsimp only at hSw); go_simp; (try with_reducible rfl))
           (try simp only [Act.put, List.setIfInBounds_toArray, List.set_cons_zero, List.set_cons_succ]))
          (refine wpAnyH_ready (rs := [8]) (by kernel_rfl) (by simp) ?_)
          refine AllReadyH.cons rfl (fun K hK => ?_) AllReadyH.nil
          (go_simp
           (refine hK.out _ _ ?_ (fun hHeld => ?_)
            · (try dsimp only); try trivial
            clear hK K
            (try simp only [Act.put, List.setIfInBounds_toArray, List.set_cons_zero, List.set_cons_succ])))
          (refine wpAnyH_ready (rs := [9]) (by kernel_rfl) (by simp) ?_)
          refine AllReadyH.cons rfl (fun K hK => ?_) AllReadyH.nil
          (go_simp
           (refine hK.out _ _ ?_ (fun hHeld => ?_)
            · (try dsimp only); try trivial
            clear hK K
            (try simp only [Act.put, List.setIfInBounds_toArray, List.set_cons_zero, List.set_cons_succ])))
          (refine wpAnyH_ready (rs := [10]) (by kernel_rfl) (by simp) ?_)
          refine AllReadyH.cons rfl (fun K hK => ?_) AllReadyH.nil
          (go_simp
           (refine hK.out _ _ ?_ (fun hHeld => ?_)
            · (try dsimp only); try trivial
            clear hK K
            (try simp only [Act.put, List.setIfInBounds_toArray, List.set_cons_zero, List.set_cons_succ])))
          refine wpAnyH_done (by kernel_rfl) ?_ _
          refine hK _ _ ?_
          refine ⟨rfl, ?_, ?_, ?_, ?_, ?_⟩
          · dsimp only; (repeat rw [Array.size_setIfInBounds]); exact hsT
          · dsimp only; (repeat rw [opq_ne _ _ _ _ _ (by decide)]); exact f1
          · dsimp only; (repeat rw [opq_ne _ _ _ _ _ (by decide)]); exact f16
          · dsimp only; rw [opq_at _ _ 359 _ _ (by (repeat rw [Array.size_setIfInBounds]); exact hsT) (by decide)]
          · exact (by repeat (first | with_reducible exact Ab.refl _ | with_reducible assumption | with_reducible refine Ab.drew ?_ | with_reducible refine Ab.drewN ?_ _ | with_reducible refine Ab.alloc ?_ _ | with_reducible refine Ab.trans ?_ (by assumption) | with_reducible refine Ab.set ?_ (by first | (simp; done) | omega | (simp; omega)) _))
  ·
    (go_simp
     (refine hK.out _ _ ?_ (fun hHeld => ?_)
      · (try dsimp only); try trivial
      clear hK K
      (try simp only [Act.put, List.setIfInBounds_toArray, List.set_cons_zero, List.set_cons_succ])))
    (refine wpAnyH_ready (rs := [0, 7]) (by kernel_rfl) (by simp) ?_)
    refine (AllReadyH.cons rfl (fun K hK => ?_) (AllReadyH.cons rfl (fun K hK => ?_) AllReadyH.nil))
    ·
      go_simp
      (go_at_call 13)
      refine (given_false _).mono ?_
      rintro e wa ⟨ra, Da, Ea, ca, da, Ha, rfl, pa, sa, hba⟩
      have ga : Wal.Good ra [WalEx.r5, WalEx.r6] := by rw [Ha.out]; exact WalEx.good_56
      have La := good_lens ga
      have za := hba.size
      (try simp at za)
      (try go_wp2_with fail)
      (refine hK.out _ _ ?_ (fun hHeld => ?_)
       · (try dsimp only); try trivial
       clear hK K
       (try simp only [Act.put, List.setIfInBounds_toArray, List.set_cons_zero, List.set_cons_succ]))
      (refine wpAnyH_ready (rs := [2, 7]) (by kernel_rfl) (by simp) ?_)
      refine (AllReadyH.cons rfl (fun K hK => ?_) (AllReadyH.cons rfl (fun K hK => ?_) AllReadyH.nil))
      ·
        go_simp
        (go_at_call 11)
        refine (wappend_n Da Ea ca da ra.dev.s ra.dev.t ra.dev.cap ra.dev.down ra.first ra.next _ (pa.rb.zero.ab (by repeat (first | with_reducible exact Ab.refl _ | with_reducible assumption | with_reducible refine Ab.drew ?_ | with_reducible refine Ab.drewN ?_ _ | with_reducible refine Ab.alloc ?_ _ | with_reducible refine Ab.trans ?_ (by assumption) | with_reducible refine Ab.set ?_ (by first | (simp; done) | omega | (simp; omega)) _))) (sa.rb.zero.ab (by repeat (first | with_reducible exact Ab.refl _ | with_reducible assumption | with_reducible refine Ab.drew ?_ | with_reducible refine Ab.drewN ?_ _ | with_reducible refine Ab.alloc ?_ _ | with_reducible refine Ab.trans ?_ (by assumption) | with_reducible refine Ab.set ?_ (by first | (simp; done) | omega | (simp; omega)) _))) pa.le sa.le La.1 La.2 (some [WalEx.r5, WalEx.r6]) ga (some ⟨wr.heap.size, 0, none⟩) 1001 b1 1001 kk1.out ((yy1.out _ _ (0, 0) (by (repeat (first | exact new_plain (by first | (simp; done) | omega | (simp; omega)) | with_reducible refine old_alloc ?_ | with_reducible refine old_drew ?_ | with_reducible refine old_set ?_ (by first | (simp; done) | omega | (simp; omega)) | with_reducible refine old_ab (by assumption) ?_))))) (by omega) (by omega)).mono ?_
        rintro e wb ⟨rb, nb, eb, Db, Eb, cb, db, hb, rfl, pb, sb, hbb⟩
        have hmb := hb.out.trans ((congrArg (fun l => Wal.append l b1 (some [WalEx.r5, WalEx.r6])) Ha.out).trans (WalEx.nm_g b1 kk1.out))
        have hnb := (Prod.mk.inj hmb).2
        obtain ⟨rfl, rfl⟩ := Prod.mk.inj hnb
        clear hb hmb pb sb
        have zb := hbb.size
        (try simp at zb)
        (try go_wp2_with fail)
        (refine hK.out _ _ ?_ (fun hHeld => ?_)
         · (try dsimp only); try trivial
         clear hK K
         (try simp only [Act.put, List.setIfInBounds_toArray, List.set_cons_zero, List.set_cons_succ]))
        (refine wpAnyH_take (i := 3) (v := ?_) rfl (by kernel_rfl) (by kernel_rfl) (by kernel_rfl) (fun _ _ _ h => h) (Or.inl ⟨by kernel_rfl, ?_⟩) (by assumption) ?_
         rotate_left
         · (intro w hSw; (try dsimp only at hSw); go_simp; (try with_reducible rfl))
         (try simp only [Act.put, List.setIfInBounds_toArray, List.set_cons_zero, List.set_cons_succ]))
        (refine wpAnyH_take (i := 4) (v := ?_) rfl (by kernel_rfl) (by kernel_rfl) (by kernel_rfl) (fun _ _ _ h => h) (Or.inl ⟨by kernel_rfl, ?_⟩) (by assumption) ?_
         rotate_left
         · (intro w hSw; (try dsimp only at hSw); go_simp; (try with_reducible rfl))
         (try simp only [Act.put, List.setIfInBounds_toArray, List.set_cons_zero, List.set_cons_succ]))
        (refine wpAnyH_take (i := 5) (v := ?_) rfl (by kernel_rfl) (by kernel_rfl) (by kernel_rfl) (fun _ _ _ h => h) (Or.inl ⟨by kernel_rfl, ?_⟩) (by assumption) ?_
         rotate_left
         · (intro w hSw; (try dsimp only at hSw); go_simp; (try with_reducible rfl))
         (try simp only [Act.put, List.setIfInBounds_toArray, List.set_cons_zero, List.set_cons_succ]))
        (refine wpAnyH_take (i := 6) (v := ?_) rfl (by kernel_rfl) (by kernel_rfl) (by kernel_rfl) (fun _ _ _ h => h) (Or.inl ⟨by kernel_rfl, ?_⟩) (by assumption) ?_
         rotate_left
         · (intro w hSw; (try dsimp only at hSw); go_simp; (try with_reducible rfl))
         (try simp only [Act.put, List.setIfInBounds_toArray, List.set_cons_zero, List.set_cons_succ]))
        (refine wpAnyH_ready (rs := [7]) (by kernel_rfl) (by simp) ?_)
        refine AllReadyH.cons rfl (fun K hK => ?_) AllReadyH.nil
        (go_simp
         (refine hK.out _ _ ?_ (fun hHeld => ?_)
          · (try dsimp only); try trivial
          clear hK K
          (try simp only [Act.put, List.setIfInBounds_toArray, List.set_cons_zero, List.set_cons_succ])))
        (refine wpAnyH_ready (rs := [8]) (by kernel_rfl) (by simp) ?_)
        refine AllReadyH.cons rfl (fun K hK => ?_) AllReadyH.nil
        (go_simp
         (refine hK.out _ _ ?_ (fun hHeld => ?_)
          · (try dsimp only); try trivial
          clear hK K
          (try simp only [Act.put, List.setIfInBounds_toArray, List.set_cons_zero, List.set_cons_succ])))
        (refine wpAnyH_ready (rs := [9]) (by kernel_rfl) (by simp) ?_)
        refine AllReadyH.cons rfl (fun K hK => ?_) AllReadyH.nil
        (go_simp
         (refine hK.out _ _ ?_ (fun hHeld => ?_)
          · (try dsimp only); try trivial
          clear hK K
          (try simp only [Act.put, List.setIfInBounds_toArray, List.set_cons_zero, List.set_cons_succ])))
        (refine wpAnyH_ready (rs := [10]) (by kernel_rfl) (by simp) ?_)
        refine AllReadyH.cons rfl (fun K hK => ?_) AllReadyH.nil
        (go_simp
         (refine hK.out _ _ ?_ (fun hHeld => ?_)
          · (try dsimp only); try trivial
          clear hK K
          (try simp only [Act.put, List.setIfInBounds_toArray, List.set_cons_zero, List.set_cons_succ])))
        refine wpAnyH_done (by kernel_rfl) ?_ _
        refine hK _ _ ?_
        refine ⟨rfl, ?_, ?_, ?_, ?_, ?_⟩
        · dsimp only; (repeat rw [Array.size_setIfInBounds]); exact hsT
        · dsimp only; (repeat rw [opq_ne _ _ _ _ _ (by decide)]); exact f1
        · dsimp only; (repeat rw [opq_ne _ _ _ _ _ (by decide)]); exact f16
        · dsimp only; rw [opq_at _ _ 359 _ _ (by (repeat rw [Array.size_setIfInBounds]); exact hsT) (by decide)]
        · exact (by repeat (first | with_reducible exact Ab.refl _ | with_reducible assumption | with_reducible refine Ab.drew ?_ | with_reducible refine Ab.drewN ?_ _ | with_reducible refine Ab.alloc ?_ _ | with_reducible refine Ab.trans ?_ (by assumption) | with_reducible refine Ab.set ?_ (by first | (simp; done) | omega | (simp; omega)) _))
      ·
        (go_simp
         (refine hK.out _ _ ?_ (fun hHeld => ?_)
          · (try dsimp only); try trivial
          clear hK K
          (try simp only [Act.put, List.setIfInBounds_toArray, List.set_cons_zero, List.set_cons_succ])))
        (refine wpAnyH_ready (rs := [2]) (by kernel_rfl) (by simp) ?_)
        refine (AllReadyH.cons rfl (fun K hK => ?_) AllReadyH.nil)
        ·
          go_simp
          (go_at_call 11)
          refine (wappend_n Da Ea ca da ra.dev.s ra.dev.t ra.dev.cap ra.dev.down ra.first ra.next _ (pa.rb.zero.ab (by repeat (first | with_reducible exact Ab.refl _ | with_reducible assumption | with_reducible refine Ab.drew ?_ | with_reducible refine Ab.drewN ?_ _ | with_reducible refine Ab.alloc ?_ _ | with_reducible refine Ab.trans ?_ (by assumption) | with_reducible refine Ab.set ?_ (by first | (simp; done) | omega | (simp; omega)) _))) (sa.rb.zero.ab (by repeat (first | with_reducible exact Ab.refl _ | with_reducible assumption | with_reducible refine Ab.drew ?_ | with_reducible refine Ab.drewN ?_ _ | with_reducible refine Ab.alloc ?_ _ | with_reducible refine Ab.trans ?_ (by assumption) | with_reducible refine Ab.set ?_ (by first | (simp; done) | omega | (simp; omega)) _))) pa.le sa.le La.1 La.2 (some [WalEx.r5, WalEx.r6]) ga (some ⟨wr.heap.size, 0, none⟩) 1001 b1 1001 kk1.out ((yy1.out _ _ (0, 0) (by (repeat (first | exact new_plain (by first | (simp; done) | omega | (simp; omega)) | with_reducible refine old_alloc ?_ | with_reducible refine old_drew ?_ | with_reducible refine old_set ?_ (by first | (simp; done) | omega | (simp; omega)) | with_reducible refine old_ab (by assumption) ?_))))) (by omega) (by omega)).mono ?_
          rintro e wb ⟨rb, nb, eb, Db, Eb, cb, db, hb, rfl, pb, sb, hbb⟩
          have hmb := hb.out.trans ((congrArg (fun l => Wal.append l b1 (some [WalEx.r5, WalEx.r6])) Ha.out).trans (WalEx.nm_g b1 kk1.out))
          have hnb := (Prod.mk.inj hmb).2
          obtain ⟨rfl, rfl⟩ := Prod.mk.inj hnb
          clear hb hmb pb sb
          have zb := hbb.size
          (try simp at zb)
          have xq0 : wb.cell? ⟨wa.heap.size, 0, none⟩ = some (.slice none 0 0) := hbb.at (by (repeat (first | with_reducible assumption | (simp [go_sem]; done) | with_reducible apply cell_alloc | with_reducible apply cell_drew | with_reducible apply cell_drewN | (with_reducible apply Ab.at; with_reducible assumption) | (with_reducible refine cell_set ?_ ?_; rotate_left; focus (first | (simp; done) | (simp; omega))) | (with_reducible refine cell_setb ?_ ?_; rotate_left; focus (first | omega | (simp only; omega) | (simp; omega)))))); have xq1 : wb.cell? ⟨wa.heap.size, 1, none⟩ = some (.slice none 0 0) := hbb.at (by (repeat (first | with_reducible assumption | (simp [go_sem]; done) | with_reducible apply cell_alloc | with_reducible apply cell_drew | with_reducible apply cell_drewN | (with_reducible apply Ab.at; with_reducible assumption) | (with_reducible refine cell_set ?_ ?_; rotate_left; focus (first | (simp; done) | (simp; omega))) | (with_reducible refine cell_setb ?_ ?_; rotate_left; focus (first | omega | (simp only; omega) | (simp; omega)))))); have xq2 : wb.cell? ⟨wa.heap.size, 2, none⟩ = some (.int .i64 0) := hbb.at (by (repeat (first | with_reducible assumption | (simp [go_sem]; done) | with_reducible apply cell_alloc | with_reducible apply cell_drew | with_reducible apply cell_drewN | (with_reducible apply Ab.at; with_reducible assumption) | (with_reducible refine cell_set ?_ ?_; rotate_left; focus (first | (simp; done) | (simp; omega))) | (with_reducible refine cell_setb ?_ ?_; rotate_left; focus (first | omega | (simp only; omega) | (simp; omega)))))); have xq3 : wb.cell? ⟨wa.heap.size, 3, none⟩ = some (.bool false) := hbb.at (by (repeat (first | with_reducible assumption | (simp [go_sem]; done) | with_reducible apply cell_alloc | with_reducible apply cell_drew | with_reducible apply cell_drewN | (with_reducible apply Ab.at; with_reducible assumption) | (with_reducible refine cell_set ?_ ?_; rotate_left; focus (first | (simp; done) | (simp; omega))) | (with_reducible refine cell_setb ?_ ?_; rotate_left; focus (first | omega | (simp only; omega) | (simp; omega)))))); have xq4 : wb.cell? ⟨wa.heap.size, 4, none⟩ = some (.int .i64 0) := hbb.at (by (repeat (first | with_reducible assumption | (simp [go_sem]; done) | with_reducible apply cell_alloc | with_reducible apply cell_drew | with_reducible apply cell_drewN | (with_reducible apply Ab.at; with_reducible assumption) | (with_reducible refine cell_set ?_ ?_; rotate_left; focus (first | (simp; done) | (simp; omega))) | (with_reducible refine cell_setb ?_ ?_; rotate_left; focus (first | omega | (simp only; omega) | (simp; omega)))))); have xq5 : wb.cell? ⟨wa.heap.size, 5, none⟩ = some (.int .i64 0) := hbb.at (by (repeat (first | with_reducible assumption | (simp [go_sem]; done) | with_reducible apply cell_alloc | with_reducible apply cell_drew | with_reducible apply cell_drewN | (with_reducible apply Ab.at; with_reducible assumption) | (with_reducible refine cell_set ?_ ?_; rotate_left; focus (first | (simp; done) | (simp; omega))) | (with_reducible refine cell_setb ?_ ?_; rotate_left; focus (first | omega | (simp only; omega) | (simp; omega))))))
          have xr0 : wb.frozen? ⟨wa.heap.size, 0, none⟩ = false := (hbb.frozen (p := ⟨wa.heap.size, 0, none⟩) (by first | (simp; done) | omega | (simp; omega))).trans (by (repeat (first | with_reducible assumption | (simp [go_sem]; done) | (with_reducible refine fr_alloc ?_ ?_; focus (first | (simp; done) | omega | (simp; omega))) | (with_reducible refine Ab.fr (by assumption) ?_ ?_; focus (first | (simp; done) | omega | (simp; omega)))))); have xr1 : wb.frozen? ⟨wa.heap.size, 1, none⟩ = false := (hbb.frozen (p := ⟨wa.heap.size, 1, none⟩) (by first | (simp; done) | omega | (simp; omega))).trans (by (repeat (first | with_reducible assumption | (simp [go_sem]; done) | (with_reducible refine fr_alloc ?_ ?_; focus (first | (simp; done) | omega | (simp; omega))) | (with_reducible refine Ab.fr (by assumption) ?_ ?_; focus (first | (simp; done) | omega | (simp; omega)))))); have xr2 : wb.frozen? ⟨wa.heap.size, 2, none⟩ = false := (hbb.frozen (p := ⟨wa.heap.size, 2, none⟩) (by first | (simp; done) | omega | (simp; omega))).trans (by (repeat (first | with_reducible assumption | (simp [go_sem]; done) | (with_reducible refine fr_alloc ?_ ?_; focus (first | (simp; done) | omega | (simp; omega))) | (with_reducible refine Ab.fr (by assumption) ?_ ?_; focus (first | (simp; done) | omega | (simp; omega)))))); have xr3 : wb.frozen? ⟨wa.heap.size, 3, none⟩ = false := (hbb.frozen (p := ⟨wa.heap.size, 3, none⟩) (by first | (simp; done) | omega | (simp; omega))).trans (by (repeat (first | with_reducible assumption | (simp [go_sem]; done) | (with_reducible refine fr_alloc ?_ ?_; focus (first | (simp; done) | omega | (simp; omega))) | (with_reducible refine Ab.fr (by assumption) ?_ ?_; focus (first | (simp; done) | omega | (simp; omega)))))); have xr4 : wb.frozen? ⟨wa.heap.size, 4, none⟩ = false := (hbb.frozen (p := ⟨wa.heap.size, 4, none⟩) (by first | (simp; done) | omega | (simp; omega))).trans (by (repeat (first | with_reducible assumption | (simp [go_sem]; done) | (with_reducible refine fr_alloc ?_ ?_; focus (first | (simp; done) | omega | (simp; omega))) | (with_reducible refine Ab.fr (by assumption) ?_ ?_; focus (first | (simp; done) | omega | (simp; omega)))))); have xr5 : wb.frozen? ⟨wa.heap.size, 5, none⟩ = false := (hbb.frozen (p := ⟨wa.heap.size, 5, none⟩) (by first | (simp; done) | omega | (simp; omega))).trans (by (repeat (first | with_reducible assumption | (simp [go_sem]; done) | (with_reducible refine fr_alloc ?_ ?_; focus (first | (simp; done) | omega | (simp; omega))) | (with_reducible refine Ab.fr (by assumption) ?_ ?_; focus (first | (simp; done) | omega | (simp; omega))))))
          have xna := fun (o : Obj) (j : Nat) => World.cell?_alloc_lt wb o ⟨wa.heap.size, j, none⟩ (by first | (simp; done) | omega | (simp; omega))
          have xnb := fun (o : Obj) (j : Nat) => ((Ab.refl wb).alloc o).frozen (p := ⟨wa.heap.size, j, none⟩) (by first | (simp; done) | omega | (simp; omega))
          (try go_wp2_with fail)
          (refine hK.out _ _ ?_ (fun hHeld => ?_)
           · (try dsimp only); try trivial
           clear hK K
           (try simp only [Act.put, List.setIfInBounds_toArray, List.set_cons_zero, List.set_cons_succ]))
          (refine wpAnyH_take (i := 3) (v := ?_) rfl (by kernel_rfl) (by kernel_rfl) (by kernel_rfl) (fun _ _ _ h => h) (Or.inl ⟨by kernel_rfl, ?_⟩) (by assumption) ?_
           rotate_left
           · (intro w hSw; (try dsimp only at hSw); go_simp; (try with_reducible rfl))
           (try simp only [Act.put, List.setIfInBounds_toArray, List.set_cons_zero, List.set_cons_succ]))
          (refine wpAnyH_take (i := 4) (v := ?_) rfl (by kernel_rfl) (by kernel_rfl) (by kernel_rfl) (fun _ _ _ h => h) (Or.inl ⟨by kernel_rfl, ?_⟩) (by assumption) ?_
           rotate_left
           · (intro w hSw; (try dsimp only at hSw); go_simp; (try with_reducible rfl))
           (try simp only [Act.put, List.setIfInBounds_toArray, List.set_cons_zero, List.set_cons_succ]))
          (refine wpAnyH_take (i := 5) (v := ?_) rfl (by kernel_rfl) (by kernel_rfl) (by kernel_rfl) (fun _ _ _ h => h) (Or.inl ⟨by kernel_rfl, ?_⟩) (by assumption) ?_
           rotate_left
           · (intro w hSw; (try dsimp only at hSw); go_simp; (try with_reducible rfl))
           (try simp only [Act.put, List.setIfInBounds_toArray, List.set_cons_zero, List.set_cons_succ]))
          (refine wpAnyH_take (i := 6) (v := ?_) rfl (by kernel_rfl) (by kernel_rfl) (by kernel_rfl) (fun _ _ _ h => h) (Or.inl ⟨by kernel_rfl, ?_⟩) (by assumption) ?_
           rotate_left
           · (intro w hSw; (try dsimp only at hSw); go_simp; (try with_reducible rfl))
           (try simp only [Act.put, List.setIfInBounds_toArray, List.set_cons_zero, List.set_cons_succ]))
          (refine wpAnyH_ready (rs := [8]) (by kernel_rfl) (by simp) ?_)
          refine AllReadyH.cons rfl (fun K hK => ?_) AllReadyH.nil
          (go_simp
           (refine hK.out _ _ ?_ (fun hHeld => ?_)
            · (try dsimp only); try trivial
            clear hK K
            (try simp only [Act.put, List.setIfInBounds_toArray, List.set_cons_zero, List.set_cons_succ])))
          (refine wpAnyH_ready (rs := [9]) (by kernel_rfl) (by simp) ?_)
          refine AllReadyH.cons rfl (fun K hK => ?_) AllReadyH.nil
          (go_simp
           (refine hK.out _ _ ?_ (fun hHeld => ?_)
            · (try dsimp only); try trivial
            clear hK K
            (try simp only [Act.put, List.setIfInBounds_toArray, List.set_cons_zero, List.set_cons_succ])))
          (refine wpAnyH_ready (rs := [10]) (by kernel_rfl) (by simp) ?_)
          refine AllReadyH.cons rfl (fun K hK => ?_) AllReadyH.nil
          (go_simp
           (refine hK.out _ _ ?_ (fun hHeld => ?_)
            · (try dsimp only); try trivial
            clear hK K
            (try simp only [Act.put, List.setIfInBounds_toArray, List.set_cons_zero, List.set_cons_succ])))
          refine wpAnyH_done (by kernel_rfl) ?_ _
          refine hK _ _ ?_
          refine ⟨rfl, ?_, ?_, ?_, ?_, ?_⟩
          · dsimp only; (repeat rw [Array.size_setIfInBounds]); exact hsT
          · dsimp only; (repeat rw [opq_ne _ _ _ _ _ (by decide)]); exact f1
          · dsimp only; (repeat rw [opq_ne _ _ _ _ _ (by decide)]); exact f16
          · dsimp only; rw [opq_at _ _ 359 _ _ (by (repeat rw [Array.size_setIfInBounds]); exact hsT) (by decide)]
          · exact (by repeat (first | with_reducible exact Ab.refl _ | with_reducible assumption | with_reducible refine Ab.drew ?_ | with_reducible refine Ab.drewN ?_ _ | with_reducible refine Ab.alloc ?_ _ | with_reducible refine Ab.trans ?_ (by assumption) | with_reducible refine Ab.set ?_ (by first | (simp; done) | omega | (simp; omega)) _))
    ·
      (go_simp
       (refine hK.out _ _ ?_ (fun hHeld => ?_)
        · (try dsimp only); try trivial
        clear hK K
        (try simp only [Act.put, List.setIfInBounds_toArray, List.set_cons_zero, List.set_cons_succ])))
      (refine wpAnyH_ready (rs := [0]) (by kernel_rfl) (by simp) ?_)
      refine (AllReadyH.cons rfl (fun K hK => ?_) AllReadyH.nil)
      ·
        go_simp
        (go_at_call 13)
        refine (given_false _).mono ?_
        rintro e wa ⟨ra, Da, Ea, ca, da, Ha, rfl, pa, sa, hba⟩
        have ga : Wal.Good ra [WalEx.r5, WalEx.r6] := by rw [Ha.out]; exact WalEx.good_56
        have La := good_lens ga
        have za := hba.size
        (try simp at za)
        have yq0 : wa.cell? ⟨wr.heap.size + 1, 0, none⟩ = some (.slice none 0 0) := hba.at (by (repeat (first | with_reducible assumption | (simp [go_sem]; done) | with_reducible apply cell_alloc | with_reducible apply cell_drew | with_reducible apply cell_drewN | (with_reducible apply Ab.at; with_reducible assumption) | (with_reducible refine cell_set ?_ ?_; rotate_left; focus (first | (simp; done) | (simp; omega))) | (with_reducible refine cell_setb ?_ ?_; rotate_left; focus (first | omega | (simp only; omega) | (simp; omega)))))); have yq1 : wa.cell? ⟨wr.heap.size + 1, 1, none⟩ = some (.slice none 0 0) := hba.at (by (repeat (first | with_reducible assumption | (simp [go_sem]; done) | with_reducible apply cell_alloc | with_reducible apply cell_drew | with_reducible apply cell_drewN | (with_reducible apply Ab.at; with_reducible assumption) | (with_reducible refine cell_set ?_ ?_; rotate_left; focus (first | (simp; done) | (simp; omega))) | (with_reducible refine cell_setb ?_ ?_; rotate_left; focus (first | omega | (simp only; omega) | (simp; omega)))))); have yq2 : wa.cell? ⟨wr.heap.size + 1, 2, none⟩ = some (.int .i64 0) := hba.at (by (repeat (first | with_reducible assumption | (simp [go_sem]; done) | with_reducible apply cell_alloc | with_reducible apply cell_drew | with_reducible apply cell_drewN | (with_reducible apply Ab.at; with_reducible assumption) | (with_reducible refine cell_set ?_ ?_; rotate_left; focus (first | (simp; done) | (simp; omega))) | (with_reducible refine cell_setb ?_ ?_; rotate_left; focus (first | omega | (simp only; omega) | (simp; omega)))))); have yq3 : wa.cell? ⟨wr.heap.size + 1, 3, none⟩ = some (.bool false) := hba.at (by (repeat (first | with_reducible assumption | (simp [go_sem]; done) | with_reducible apply cell_alloc | with_reducible apply cell_drew | with_reducible apply cell_drewN | (with_reducible apply Ab.at; with_reducible assumption) | (with_reducible refine cell_set ?_ ?_; rotate_left; focus (first | (simp; done) | (simp; omega))) | (with_reducible refine cell_setb ?_ ?_; rotate_left; focus (first | omega | (simp only; omega) | (simp; omega)))))); have yq4 : wa.cell? ⟨wr.heap.size + 1, 4, none⟩ = some (.int .i64 0) := hba.at (by (repeat (first | with_reducible assumption | (simp [go_sem]; done) | with_reducible apply cell_alloc | with_reducible apply cell_drew | with_reducible apply cell_drewN | (with_reducible apply Ab.at; with_reducible assumption) | (with_reducible refine cell_set ?_ ?_; rotate_left; focus (first | (simp; done) | (simp; omega))) | (with_reducible refine cell_setb ?_ ?_; rotate_left; focus (first | omega | (simp only; omega) | (simp; omega)))))); have yq5 : wa.cell? ⟨wr.heap.size + 1, 5, none⟩ = some (.int .i64 0) := hba.at (by (repeat (first | with_reducible assumption | (simp [go_sem]; done) | with_reducible apply cell_alloc | with_reducible apply cell_drew | with_reducible apply cell_drewN | (with_reducible apply Ab.at; with_reducible assumption) | (with_reducible refine cell_set ?_ ?_; rotate_left; focus (first | (simp; done) | (simp; omega))) | (with_reducible refine cell_setb ?_ ?_; rotate_left; focus (first | omega | (simp only; omega) | (simp; omega))))))
        have yr0 : wa.frozen? ⟨wr.heap.size + 1, 0, none⟩ = false := (hba.frozen (p := ⟨wr.heap.size + 1, 0, none⟩) (by first | (simp; done) | omega | (simp; omega))).trans (by (repeat (first | with_reducible assumption | (simp [go_sem]; done) | (with_reducible refine fr_alloc ?_ ?_; focus (first | (simp; done) | omega | (simp; omega))) | (with_reducible refine Ab.fr (by assumption) ?_ ?_; focus (first | (simp; done) | omega | (simp; omega)))))); have yr1 : wa.frozen? ⟨wr.heap.size + 1, 1, none⟩ = false := (hba.frozen (p := ⟨wr.heap.size + 1, 1, none⟩) (by first | (simp; done) | omega | (simp; omega))).trans (by (repeat (first | with_reducible assumption | (simp [go_sem]; done) | (with_reducible refine fr_alloc ?_ ?_; focus (first | (simp; done) | omega | (simp; omega))) | (with_reducible refine Ab.fr (by assumption) ?_ ?_; focus (first | (simp; done) | omega | (simp; omega)))))); have yr2 : wa.frozen? ⟨wr.heap.size + 1, 2, none⟩ = false := (hba.frozen (p := ⟨wr.heap.size + 1, 2, none⟩) (by first | (simp; done) | omega | (simp; omega))).trans (by (repeat (first | with_reducible assumption | (simp [go_sem]; done) | (with_reducible refine fr_alloc ?_ ?_; focus (first | (simp; done) | omega | (simp; omega))) | (with_reducible refine Ab.fr (by assumption) ?_ ?_; focus (first | (simp; done) | omega | (simp; omega)))))); have yr3 : wa.frozen? ⟨wr.heap.size + 1, 3, none⟩ = false := (hba.frozen (p := ⟨wr.heap.size + 1, 3, none⟩) (by first | (simp; done) | omega | (simp; omega))).trans (by (repeat (first | with_reducible assumption | (simp [go_sem]; done) | (with_reducible refine fr_alloc ?_ ?_; focus (first | (simp; done) | omega | (simp; omega))) | (with_reducible refine Ab.fr (by assumption) ?_ ?_; focus (first | (simp; done) | omega | (simp; omega)))))); have yr4 : wa.frozen? ⟨wr.heap.size + 1, 4, none⟩ = false := (hba.frozen (p := ⟨wr.heap.size + 1, 4, none⟩) (by first | (simp; done) | omega | (simp; omega))).trans (by (repeat (first | with_reducible assumption | (simp [go_sem]; done) | (with_reducible refine fr_alloc ?_ ?_; focus (first | (simp; done) | omega | (simp; omega))) | (with_reducible refine Ab.fr (by assumption) ?_ ?_; focus (first | (simp; done) | omega | (simp; omega)))))); have yr5 : wa.frozen? ⟨wr.heap.size + 1, 5, none⟩ = false := (hba.frozen (p := ⟨wr.heap.size + 1, 5, none⟩) (by first | (simp; done) | omega | (simp; omega))).trans (by (repeat (first | with_reducible assumption | (simp [go_sem]; done) | (with_reducible refine fr_alloc ?_ ?_; focus (first | (simp; done) | omega | (simp; omega))) | (with_reducible refine Ab.fr (by assumption) ?_ ?_; focus (first | (simp; done) | omega | (simp; omega))))))
        have yna := fun (o : Obj) (j : Nat) => World.cell?_alloc_lt wa o ⟨wr.heap.size + 1, j, none⟩ (by first | (simp; done) | omega | (simp; omega))
        have ynb := fun (o : Obj) (j : Nat) => ((Ab.refl wa).alloc o).frozen (p := ⟨wr.heap.size + 1, j, none⟩) (by first | (simp; done) | omega | (simp; omega))
        (try go_wp2_with fail)
        (refine hK.out _ _ ?_ (fun hHeld => ?_)
         · (try dsimp only); try trivial
         clear hK K
         (try simp only [Act.put, List.setIfInBounds_toArray, List.set_cons_zero, List.set_cons_succ]))
        (refine wpAnyH_ready (rs := [2]) (by kernel_rfl) (by simp) ?_)
        refine (AllReadyH.cons rfl (fun K hK => ?_) AllReadyH.nil)
        ·
          go_simp
          (go_at_call 11)
          refine (wappend_n Da Ea ca da ra.dev.s ra.dev.t ra.dev.cap ra.dev.down ra.first ra.next _ (pa.rb.zero.ab (by repeat (first | with_reducible exact Ab.refl _ | with_reducible assumption | with_reducible refine Ab.drew ?_ | with_reducible refine Ab.drewN ?_ _ | with_reducible refine Ab.alloc ?_ _ | with_reducible refine Ab.trans ?_ (by assumption) | with_reducible refine Ab.set ?_ (by first | (simp; done) | omega | (simp; omega)) _))) (sa.rb.zero.ab (by repeat (first | with_reducible exact Ab.refl _ | with_reducible assumption | with_reducible refine Ab.drew ?_ | with_reducible refine Ab.drewN ?_ _ | with_reducible refine Ab.alloc ?_ _ | with_reducible refine Ab.trans ?_ (by assumption) | with_reducible refine Ab.set ?_ (by first | (simp; done) | omega | (simp; omega)) _))) pa.le sa.le La.1 La.2 (some [WalEx.r5, WalEx.r6]) ga (some ⟨wr.heap.size, 0, none⟩) 1001 b1 1001 kk1.out ((yy1.out _ _ (0, 0) (by (repeat (first | exact new_plain (by first | (simp; done) | omega | (simp; omega)) | with_reducible refine old_alloc ?_ | with_reducible refine old_drew ?_ | with_reducible refine old_set ?_ (by first | (simp; done) | omega | (simp; omega)) | with_reducible refine old_ab (by assumption) ?_))))) (by omega) (by omega)).mono ?_
          rintro e wb ⟨rb, nb, eb, Db, Eb, cb, db, hb, rfl, pb, sb, hbb⟩
          have hmb := hb.out.trans ((congrArg (fun l => Wal.append l b1 (some [WalEx.r5, WalEx.r6])) Ha.out).trans (WalEx.nm_g b1 kk1.out))
          have hnb := (Prod.mk.inj hmb).2
          obtain ⟨rfl, rfl⟩ := Prod.mk.inj hnb
          clear hb hmb pb sb
          have zb := hbb.size
          (try simp at zb)
          have xq0 : wb.cell? ⟨wr.heap.size + 1, 0, none⟩ = some (.slice none 0 0) := hbb.at (by (repeat (first | with_reducible assumption | (simp [go_sem]; done) | with_reducible apply cell_alloc | with_reducible apply cell_drew | with_reducible apply cell_drewN | (with_reducible apply Ab.at; with_reducible assumption) | (with_reducible refine cell_set ?_ ?_; rotate_left; focus (first | (simp; done) | (simp; omega))) | (with_reducible refine cell_setb ?_ ?_; rotate_left; focus (first | omega | (simp only; omega) | (simp; omega)))))); have xq1 : wb.cell? ⟨wr.heap.size + 1, 1, none⟩ = some (.slice none 0 0) := hbb.at (by (repeat (first | with_reducible assumption | (simp [go_sem]; done) | with_reducible apply cell_alloc | with_reducible apply cell_drew | with_reducible apply cell_drewN | (with_reducible apply Ab.at; with_reducible assumption) | (with_reducible refine cell_set ?_ ?_; rotate_left; focus (first | (simp; done) | (simp; omega))) | (with_reducible refine cell_setb ?_ ?_; rotate_left; focus (first | omega | (simp only; omega) | (simp; omega)))))); have xq2 : wb.cell? ⟨wr.heap.size + 1, 2, none⟩ = some (.int .i64 0) := hbb.at (by (repeat (first | with_reducible assumption | (simp [go_sem]; done) | with_reducible apply cell_alloc | with_reducible apply cell_drew | with_reducible apply cell_drewN | (with_reducible apply Ab.at; with_reducible assumption) | (with_reducible refine cell_set ?_ ?_; rotate_left; focus (first | (simp; done) | (simp; omega))) | (with_reducible refine cell_setb ?_ ?_; rotate_left; focus (first | omega | (simp only; omega) | (simp; omega)))))); have xq3 : wb.cell? ⟨wr.heap.size + 1, 3, none⟩ = some (.bool false) := hbb.at (by (repeat (first | with_reducible assumption | (simp [go_sem]; done) | with_reducible apply cell_alloc | with_reducible apply cell_drew | with_reducible apply cell_drewN | (with_reducible apply Ab.at; with_reducible assumption) | (with_reducible refine cell_set ?_ ?_; rotate_left; focus (first | (simp; done) | (simp; omega))) | (with_reducible refine cell_setb ?_ ?_; rotate_left; focus (first | omega | (simp only; omega) | (simp; omega)))))); have xq4 : wb.cell? ⟨wr.heap.size + 1, 4, none⟩ = some (.int .i64 0) := hbb.at (by (repeat (first | with_reducible assumption | (simp [go_sem]; done) | with_reducible apply cell_alloc | with_reducible apply cell_drew | with_reducible apply cell_drewN | (with_reducible apply Ab.at; with_reducible assumption) | (with_reducible refine cell_set ?_ ?_; rotate_left; focus (first | (simp; done) | (simp; omega))) | (with_reducible refine cell_setb ?_ ?_; rotate_left; focus (first | omega | (simp only; omega) | (simp; omega)))))); have xq5 : wb.cell? ⟨wr.heap.size + 1, 5, none⟩ = some (.int .i64 0) := hbb.at (by (repeat (first | with_reducible assumption | (simp [go_sem]; done) | with_reducible apply cell_alloc | with_reducible apply cell_drew | with_reducible apply cell_drewN | (with_reducible apply Ab.at; with_reducible assumption) | (with_reducible refine cell_set ?_ ?_; rotate_left; focus (first | (simp; done) | (simp; omega))) | (with_reducible refine cell_setb ?_ ?_; rotate_left; focus (first | omega | (simp only; omega) | (simp; omega))))))
          have xr0 : wb.frozen? ⟨wr.heap.size + 1, 0, none⟩ = false := (hbb.frozen (p := ⟨wr.heap.size + 1, 0, none⟩) (by first | (simp; done) | omega | (simp; omega))).trans (by (repeat (first | with_reducible assumption | (simp [go_sem]; done) | (with_reducible refine fr_alloc ?_ ?_; focus (first | (simp; done) | omega | (simp; omega))) | (with_reducible refine Ab.fr (by assumption) ?_ ?_; focus (first | (simp; done) | omega | (simp; omega)))))); have xr1 : wb.frozen? ⟨wr.heap.size + 1, 1, none⟩ = false := (hbb.frozen (p := ⟨wr.heap.size + 1, 1, none⟩) (by first | (simp; done) | omega | (simp; omega))).trans (by (repeat (first | with_reducible assumption | (simp [go_sem]; done) | (with_reducible refine fr_alloc ?_ ?_; focus (first | (simp; done) | omega | (simp; omega))) | (with_reducible refine Ab.fr (by assumption) ?_ ?_; focus (first | (simp; done) | omega | (simp; omega)))))); have xr2 : wb.frozen? ⟨wr.heap.size + 1, 2, none⟩ = false := (hbb.frozen (p := ⟨wr.heap.size + 1, 2, none⟩) (by first | (simp; done) | omega | (simp; omega))).trans (by (repeat (first | with_reducible assumption | (simp [go_sem]; done) | (with_reducible refine fr_alloc ?_ ?_; focus (first | (simp; done) | omega | (simp; omega))) | (with_reducible refine Ab.fr (by assumption) ?_ ?_; focus (first | (simp; done) | omega | (simp; omega)))))); have xr3 : wb.frozen? ⟨wr.heap.size + 1, 3, none⟩ = false := (hbb.frozen (p := ⟨wr.heap.size + 1, 3, none⟩) (by first | (simp; done) | omega | (simp; omega))).trans (by (repeat (first | with_reducible assumption | (simp [go_sem]; done) | (with_reducible refine fr_alloc ?_ ?_; focus (first | (simp; done) | omega | (simp; omega))) | (with_reducible refine Ab.fr (by assumption) ?_ ?_; focus (first | (simp; done) | omega | (simp; omega)))))); have xr4 : wb.frozen? ⟨wr.heap.size + 1, 4, none⟩ = false := (hbb.frozen (p := ⟨wr.heap.size + 1, 4, none⟩) (by first | (simp; done) | omega | (simp; omega))).trans (by (repeat (first | with_reducible assumption | (simp [go_sem]; done) | (with_reducible refine fr_alloc ?_ ?_; focus (first | (simp; done) | omega | (simp; omega))) | (with_reducible refine Ab.fr (by assumption) ?_ ?_; focus (first | (simp; done) | omega | (simp; omega)))))); have xr5 : wb.frozen? ⟨wr.heap.size + 1, 5, none⟩ = false := (hbb.frozen (p := ⟨wr.heap.size + 1, 5, none⟩) (by first | (simp; done) | omega | (simp; omega))).trans (by (repeat (first | with_reducible assumption | (simp [go_sem]; done) | (with_reducible refine fr_alloc ?_ ?_; focus (first | (simp; done) | omega | (simp; omega))) | (with_reducible refine Ab.fr (by assumption) ?_ ?_; focus (first | (simp; done) | omega | (simp; omega))))))
          have xna := fun (o : Obj) (j : Nat) => World.cell?_alloc_lt wb o ⟨wr.heap.size + 1, j, none⟩ (by first | (simp; done) | omega | (simp; omega))
          have xnb := fun (o : Obj) (j : Nat) => ((Ab.refl wb).alloc o).frozen (p := ⟨wr.heap.size + 1, j, none⟩) (by first | (simp; done) | omega | (simp; omega))
          (try go_wp2_with fail)
          (refine hK.out _ _ ?_ (fun hHeld => ?_)
           · (try dsimp only); try trivial
           clear hK K
           (try simp only [Act.put, List.setIfInBounds_toArray, List.set_cons_zero, List.set_cons_succ]))
          (refine wpAnyH_take (i := 3) (v := ?_) rfl (by kernel_rfl) (by kernel_rfl) (by kernel_rfl) (fun _ _ _ h => h) (Or.inl ⟨by kernel_rfl, ?_⟩) (by assumption) ?_
           rotate_left
           · (intro w hSw; (try dsimp only at hSw); go_simp; (try with_reducible rfl))
           (try simp only [Act.put, List.setIfInBounds_toArray, List.set_cons_zero, List.set_cons_succ]))
          (refine wpAnyH_take (i := 4) (v := ?_) rfl (by kernel_rfl) (by kernel_rfl) (by kernel_rfl) (fun _ _ _ h => h) (Or.inl ⟨by kernel_rfl, ?_⟩) (by assumption) ?_
           rotate_left
           · (intro w hSw; (try dsimp only at hSw); go_simp; (try with_reducible rfl))
           (try simp only [Act.put, List.setIfInBounds_toArray, List.set_cons_zero, List.set_cons_succ]))
          (refine wpAnyH_take (i := 5) (v := ?_) rfl (by kernel_rfl) (by kernel_rfl) (by kernel_rfl) (fun _ _ _ h => h) (Or.inl ⟨by kernel_rfl, ?_⟩) (by assumption) ?_
           rotate_left
           · (intro w hSw; (try dsimp only at hSw); go_simp; (try with_reducible rfl))
           (try simp only [Act.put, List.setIfInBounds_toArray, List.set_cons_zero, List.set_cons_succ]))
          (refine wpAnyH_take (i := 6) (v := ?_) rfl (by kernel_rfl) (by kernel_rfl) (by kernel_rfl) (fun _ _ _ h => h) (Or.inl ⟨by kernel_rfl, ?_⟩) (by assumption) ?_
           rotate_left
           · (intro w hSw; (try dsimp only at hSw); go_simp; (try with_reducible rfl))
           (try simp only [Act.put, List.setIfInBounds_toArray, List.set_cons_zero, List.set_cons_succ]))
          (refine wpAnyH_ready (rs := [8]) (by kernel_rfl) (by simp) ?_)
          refine AllReadyH.cons rfl (fun K hK => ?_) AllReadyH.nil
          (go_simp
           (refine hK.out _ _ ?_ (fun hHeld => ?_)
            · (try dsimp only); try trivial
            clear hK K
            (try simp only [Act.put, List.setIfInBounds_toArray, List.set_cons_zero, List.set_cons_succ])))
          (refine wpAnyH_ready (rs := [9]) (by kernel_rfl) (by simp) ?_)
          refine AllReadyH.cons rfl (fun K hK => ?_) AllReadyH.nil
          (go_simp
           (refine hK.out _ _ ?_ (fun hHeld => ?_)
            · (try dsimp only); try trivial
            clear hK K
            (try simp only [Act.put, List.setIfInBounds_toArray, List.set_cons_zero, List.set_cons_succ])))
          (refine wpAnyH_ready (rs := [10]) (by kernel_rfl) (by simp) ?_)
          refine AllReadyH.cons rfl (fun K hK => ?_) AllReadyH.nil
          (go_simp
           (refine hK.out _ _ ?_ (fun hHeld => ?_)
            · (try dsimp only); try trivial
            clear hK K
            (try simp only [Act.put, List.setIfInBounds_toArray, List.set_cons_zero, List.set_cons_succ])))
          refine wpAnyH_done (by kernel_rfl) ?_ _
          refine hK _ _ ?_
          refine ⟨rfl, ?_, ?_, ?_, ?_, ?_⟩
          · dsimp only; (repeat rw [Array.size_setIfInBounds]); exact hsT
          · dsimp only; (repeat rw [opq_ne _ _ _ _ _ (by decide)]); exact f1
          · dsimp only; (repeat rw [opq_ne _ _ _ _ _ (by decide)]); exact f16
          · dsimp only; rw [opq_at _ _ 359 _ _ (by (repeat rw [Array.size_setIfInBounds]); exact hsT) (by decide)]
          · exact (by repeat (first | with_reducible exact Ab.refl _ | with_reducible assumption | with_reducible refine Ab.drew ?_ | with_reducible refine Ab.drewN ?_ _ | with_reducible refine Ab.alloc ?_ _ | with_reducible refine Ab.trans ?_ (by assumption) | with_reducible refine Ab.set ?_ (by first | (simp; done) | omega | (simp; omega)) _))
  ·
    (go_simp
     (refine hK.out _ _ ?_ (fun hHeld => ?_)
      · (try dsimp only); try trivial
      clear hK K
      (try simp only [Act.put, List.setIfInBounds_toArray, List.set_cons_zero, List.set_cons_succ])))
    (refine wpAnyH_ready (rs := [0, 1]) (by kernel_rfl) (by simp) ?_)
    refine (AllReadyH.cons rfl (fun K hK => ?_) (AllReadyH.cons rfl (fun K hK => ?_) AllReadyH.nil))
    ·
      go_simp
      (go_at_call 13)
      refine (given_false _).mono ?_
      rintro e wa ⟨ra, Da, Ea, ca, da, Ha, rfl, pa, sa, hba⟩
      have ga : Wal.Good ra [WalEx.r5, WalEx.r6] := by rw [Ha.out]; exact WalEx.good_56
      have La := good_lens ga
      have za := hba.size
      (try simp at za)
      have yq0 : wa.cell? ⟨wr.heap.size, 0, none⟩ = some (.slice none 0 0) := hba.at (by (repeat (first | with_reducible assumption | (simp [go_sem]; done) | with_reducible apply cell_alloc | with_reducible apply cell_drew | with_reducible apply cell_drewN | (with_reducible apply Ab.at; with_reducible assumption) | (with_reducible refine cell_set ?_ ?_; rotate_left; focus (first | (simp; done) | (simp; omega))) | (with_reducible refine cell_setb ?_ ?_; rotate_left; focus (first | omega | (simp only; omega) | (simp; omega)))))); have yq1 : wa.cell? ⟨wr.heap.size, 1, none⟩ = some (.slice none 0 0) := hba.at (by (repeat (first | with_reducible assumption | (simp [go_sem]; done) | with_reducible apply cell_alloc | with_reducible apply cell_drew | with_reducible apply cell_drewN | (with_reducible apply Ab.at; with_reducible assumption) | (with_reducible refine cell_set ?_ ?_; rotate_left; focus (first | (simp; done) | (simp; omega))) | (with_reducible refine cell_setb ?_ ?_; rotate_left; focus (first | omega | (simp only; omega) | (simp; omega)))))); have yq2 : wa.cell? ⟨wr.heap.size, 2, none⟩ = some (.int .i64 0) := hba.at (by (repeat (first | with_reducible assumption | (simp [go_sem]; done) | with_reducible apply cell_alloc | with_reducible apply cell_drew | with_reducible apply cell_drewN | (with_reducible apply Ab.at; with_reducible assumption) | (with_reducible refine cell_set ?_ ?_; rotate_left; focus (first | (simp; done) | (simp; omega))) | (with_reducible refine cell_setb ?_ ?_; rotate_left; focus (first | omega | (simp only; omega) | (simp; omega)))))); have yq3 : wa.cell? ⟨wr.heap.size, 3, none⟩ = some (.bool false) := hba.at (by (repeat (first | with_reducible assumption | (simp [go_sem]; done) | with_reducible apply cell_alloc | with_reducible apply cell_drew | with_reducible apply cell_drewN | (with_reducible apply Ab.at; with_reducible assumption) | (with_reducible refine cell_set ?_ ?_; rotate_left; focus (first | (simp; done) | (simp; omega))) | (with_reducible refine cell_setb ?_ ?_; rotate_left; focus (first | omega | (simp only; omega) | (simp; omega)))))); have yq4 : wa.cell? ⟨wr.heap.size, 4, none⟩ = some (.int .i64 0) := hba.at (by (repeat (first | with_reducible assumption | (simp [go_sem]; done) | with_reducible apply cell_alloc | with_reducible apply cell_drew | with_reducible apply cell_drewN | (with_reducible apply Ab.at; with_reducible assumption) | (with_reducible refine cell_set ?_ ?_; rotate_left; focus (first | (simp; done) | (simp; omega))) | (with_reducible refine cell_setb ?_ ?_; rotate_left; focus (first | omega | (simp only; omega) | (simp; omega)))))); have yq5 : wa.cell? ⟨wr.heap.size, 5, none⟩ = some (.int .i64 0) := hba.at (by (repeat (first | with_reducible assumption | (simp [go_sem]; done) | with_reducible apply cell_alloc | with_reducible apply cell_drew | with_reducible apply cell_drewN | (with_reducible apply Ab.at; with_reducible assumption) | (with_reducible refine cell_set ?_ ?_; rotate_left; focus (first | (simp; done) | (simp; omega))) | (with_reducible refine cell_setb ?_ ?_; rotate_left; focus (first | omega | (simp only; omega) | (simp; omega))))))
      have yr0 : wa.frozen? ⟨wr.heap.size, 0, none⟩ = false := (hba.frozen (p := ⟨wr.heap.size, 0, none⟩) (by first | (simp; done) | omega | (simp; omega))).trans (by (repeat (first | with_reducible assumption | (simp [go_sem]; done) | (with_reducible refine fr_alloc ?_ ?_; focus (first | (simp; done) | omega | (simp; omega))) | (with_reducible refine Ab.fr (by assumption) ?_ ?_; focus (first | (simp; done) | omega | (simp; omega)))))); have yr1 : wa.frozen? ⟨wr.heap.size, 1, none⟩ = false := (hba.frozen (p := ⟨wr.heap.size, 1, none⟩) (by first | (simp; done) | omega | (simp; omega))).trans (by (repeat (first | with_reducible assumption | (simp [go_sem]; done) | (with_reducible refine fr_alloc ?_ ?_; focus (first | (simp; done) | omega | (simp; omega))) | (with_reducible refine Ab.fr (by assumption) ?_ ?_; focus (first | (simp; done) | omega | (simp; omega)))))); have yr2 : wa.frozen? ⟨wr.heap.size, 2, none⟩ = false := (hba.frozen (p := ⟨wr.heap.size, 2, none⟩) (by first | (simp; done) | omega | (simp; omega))).trans (by (repeat (first | with_reducible assumption | (simp [go_sem]; done) | (with_reducible refine fr_alloc ?_ ?_; focus (first | (simp; done) | omega | (simp; omega))) | (with_reducible refine Ab.fr (by assumption) ?_ ?_; focus (first | (simp; done) | omega | (simp; omega)))))); have yr3 : wa.frozen? ⟨wr.heap.size, 3, none⟩ = false := (hba.frozen (p := ⟨wr.heap.size, 3, none⟩) (by first | (simp; done) | omega | (simp; omega))).trans (by (repeat (first | with_reducible assumption | (simp [go_sem]; done) | (with_reducible refine fr_alloc ?_ ?_; focus (first | (simp; done) | omega | (simp; omega))) | (with_reducible refine Ab.fr (by assumption) ?_ ?_; focus (first | (simp; done) | omega | (simp; omega)))))); have yr4 : wa.frozen? ⟨wr.heap.size, 4, none⟩ = false := (hba.frozen (p := ⟨wr.heap.size, 4, none⟩) (by first | (simp; done) | omega | (simp; omega))).trans (by (repeat (first | with_reducible assumption | (simp [go_sem]; done) | (with_reducible refine fr_alloc ?_ ?_; focus (first | (simp; done) | omega | (simp; omega))) | (with_reducible refine Ab.fr (by assumption) ?_ ?_; focus (first | (simp; done) | omega | (simp; omega)))))); have yr5 : wa.frozen? ⟨wr.heap.size, 5, none⟩ = false := (hba.frozen (p := ⟨wr.heap.size, 5, none⟩) (by first | (simp; done) | omega | (simp; omega))).trans (by (repeat (first | with_reducible assumption | (simp [go_sem]; done) | (with_reducible refine fr_alloc ?_ ?_; focus (first | (simp; done) | omega | (simp; omega))) | (with_reducible refine Ab.fr (by assumption) ?_ ?_; focus (first | (simp; done) | omega | (simp; omega))))))
      have yna := fun (o : Obj) (j : Nat) => World.cell?_alloc_lt wa o ⟨wr.heap.size, j, none⟩ (by first | (simp; done) | omega | (simp; omega))
      have ynb := fun (o : Obj) (j : Nat) => ((Ab.refl wa).alloc o).frozen (p := ⟨wr.heap.size, j, none⟩) (by first | (simp; done) | omega | (simp; omega))
      (try go_wp2_with fail)
      (refine hK.out _ _ ?_ (fun hHeld => ?_)
       · (try dsimp only); try trivial
       clear hK K
       (try simp only [Act.put, List.setIfInBounds_toArray, List.set_cons_zero, List.set_cons_succ]))
      (refine wpAnyH_ready (rs := [1]) (by kernel_rfl) (by simp) ?_)
      refine (AllReadyH.cons rfl (fun K hK => ?_) AllReadyH.nil)
      ·
        (go_simp
         (refine hK.out _ _ ?_ (fun hHeld => ?_)
          · (try dsimp only); try trivial
          clear hK K
          (try simp only [Act.put, List.setIfInBounds_toArray, List.set_cons_zero, List.set_cons_succ])))
        (refine wpAnyH_ready (rs := [2]) (by kernel_rfl) (by simp) ?_)
        refine (AllReadyH.cons rfl (fun K hK => ?_) AllReadyH.nil)
        ·
          go_simp
          (go_at_call 11)
          refine (wappend_n Da Ea ca da ra.dev.s ra.dev.t ra.dev.cap ra.dev.down ra.first ra.next _ (pa.rb.zero.ab (by repeat (first | with_reducible exact Ab.refl _ | with_reducible assumption | with_reducible refine Ab.drew ?_ | with_reducible refine Ab.drewN ?_ _ | with_reducible refine Ab.alloc ?_ _ | with_reducible refine Ab.trans ?_ (by assumption) | with_reducible refine Ab.set ?_ (by first | (simp; done) | omega | (simp; omega)) _))) (sa.rb.zero.ab (by repeat (first | with_reducible exact Ab.refl _ | with_reducible assumption | with_reducible refine Ab.drew ?_ | with_reducible refine Ab.drewN ?_ _ | with_reducible refine Ab.alloc ?_ _ | with_reducible refine Ab.trans ?_ (by assumption) | with_reducible refine Ab.set ?_ (by first | (simp; done) | omega | (simp; omega)) _))) pa.le sa.le La.1 La.2 (some [WalEx.r5, WalEx.r6]) ga (some ⟨wa.heap.size, 0, none⟩) 1001 b1 1001 kk1.out ((yy1.out _ _ (0, 0) (by (repeat (first | exact new_plain (by first | (simp; done) | omega | (simp; omega)) | with_reducible refine old_alloc ?_ | with_reducible refine old_drew ?_ | with_reducible refine old_set ?_ (by first | (simp; done) | omega | (simp; omega)) | with_reducible refine old_ab (by assumption) ?_))))) (by omega) (by omega)).mono ?_
          rintro e wb ⟨rb, nb, eb, Db, Eb, cb, db, hb, rfl, pb, sb, hbb⟩
          have hmb := hb.out.trans ((congrArg (fun l => Wal.append l b1 (some [WalEx.r5, WalEx.r6])) Ha.out).trans (WalEx.nm_g b1 kk1.out))
          have hnb := (Prod.mk.inj hmb).2
          obtain ⟨rfl, rfl⟩ := Prod.mk.inj hnb
          clear hb hmb pb sb
          have zb := hbb.size
          (try simp at zb)
          have xq0 : wb.cell? ⟨wr.heap.size, 0, none⟩ = some (.slice none 0 0) := hbb.at (by (repeat (first | with_reducible assumption | (simp [go_sem]; done) | with_reducible apply cell_alloc | with_reducible apply cell_drew | with_reducible apply cell_drewN | (with_reducible apply Ab.at; with_reducible assumption) | (with_reducible refine cell_set ?_ ?_; rotate_left; focus (first | (simp; done) | (simp; omega))) | (with_reducible refine cell_setb ?_ ?_; rotate_left; focus (first | omega | (simp only; omega) | (simp; omega)))))); have xq1 : wb.cell? ⟨wr.heap.size, 1, none⟩ = some (.slice none 0 0) := hbb.at (by (repeat (first | with_reducible assumption | (simp [go_sem]; done) | with_reducible apply cell_alloc | with_reducible apply cell_drew | with_reducible apply cell_drewN | (with_reducible apply Ab.at; with_reducible assumption) | (with_reducible refine cell_set ?_ ?_; rotate_left; focus (first | (simp; done) | (simp; omega))) | (with_reducible refine cell_setb ?_ ?_; rotate_left; focus (first | omega | (simp only; omega) | (simp; omega)))))); have xq2 : wb.cell? ⟨wr.heap.size, 2, none⟩ = some (.int .i64 0) := hbb.at (by (repeat (first | with_reducible assumption | (simp [go_sem]; done) | with_reducible apply cell_alloc | with_reducible apply cell_drew | with_reducible apply cell_drewN | (with_reducible apply Ab.at; with_reducible assumption) | (with_reducible refine cell_set ?_ ?_; rotate_left; focus (first | (simp; done) | (simp; omega))) | (with_reducible refine cell_setb ?_ ?_; rotate_left; focus (first | omega | (simp only; omega) | (simp; omega)))))); have xq3 : wb.cell? ⟨wr.heap.size, 3, none⟩ = some (.bool false) := hbb.at (by (repeat (first | with_reducible assumption | (simp [go_sem]; done) | with_reducible apply cell_alloc | with_reducible apply cell_drew | with_reducible apply cell_drewN | (with_reducible apply Ab.at; with_reducible assumption) | (with_reducible refine cell_set ?_ ?_; rotate_left; focus (first | (simp; done) | (simp; omega))) | (with_reducible refine cell_setb ?_ ?_; rotate_left; focus (first | omega | (simp only; omega) | (simp; omega)))))); have xq4 : wb.cell? ⟨wr.heap.size, 4, none⟩ = some (.int .i64 0) := hbb.at (by (repeat (first | with_reducible assumption | (simp [go_sem]; done) | with_reducible apply cell_alloc | with_reducible apply cell_drew | with_reducible apply cell_drewN | (with_reducible apply Ab.at; with_reducible assumption) | (with_reducible refine cell_set ?_ ?_; rotate_left; focus (first | (simp; done) | (simp; omega))) | (with_reducible refine cell_setb ?_ ?_; rotate_left; focus (first | omega | (simp only; omega) | (simp; omega)))))); have xq5 : wb.cell? ⟨wr.heap.size, 5, none⟩ = some (.int .i64 0) := hbb.at (by (repeat (first | with_reducible assumption | (simp [go_sem]; done) | with_reducible apply cell_alloc | with_reducible apply cell_drew | with_reducible apply cell_drewN | (with_reducible apply Ab.at; with_reducible assumption) | (with_reducible refine cell_set ?_ ?_; rotate_left; focus (first | (simp; done) | (simp; omega))) | (with_reducible refine cell_setb ?_ ?_; rotate_left; focus (first | omega | (simp only; omega) | (simp; omega))))))
          have xr0 : wb.frozen? ⟨wr.heap.size, 0, none⟩ = false := (hbb.frozen (p := ⟨wr.heap.size, 0, none⟩) (by first | (simp; done) | omega | (simp; omega))).trans (by (repeat (first | with_reducible assumption | (simp [go_sem]; done) | (with_reducible refine fr_alloc ?_ ?_; focus (first | (simp; done) | omega | (simp; omega))) | (with_reducible refine Ab.fr (by assumption) ?_ ?_; focus (first | (simp; done) | omega | (simp; omega)))))); have xr1 : wb.frozen? ⟨wr.heap.size, 1, none⟩ = false := (hbb.frozen (p := ⟨wr.heap.size, 1, none⟩) (by first | (simp; done) | omega | (simp; omega))).trans (by (repeat (first | with_reducible assumption | (simp [go_sem]; done) | (with_reducible refine fr_alloc ?_ ?_; focus (first | (simp; done) | omega | (simp; omega))) | (with_reducible refine Ab.fr (by assumption) ?_ ?_; focus (first | (simp; done) | omega | (simp; omega)))))); have xr2 : wb.frozen? ⟨wr.heap.size, 2, none⟩ = false := (hbb.frozen (p := ⟨wr.heap.size, 2, none⟩) (by first | (simp; done) | omega | (simp; omega))).trans (by (repeat (first | with_reducible assumption | (simp [go_sem]; done) | (with_reducible refine fr_alloc ?_ ?_; focus (first | (simp; done) | omega | (simp; omega))) | (with_reducible refine Ab.fr (by assumption) ?_ ?_; focus (first | (simp; done) | omega | (simp; omega)))))); have xr3 : wb.frozen? ⟨wr.heap.size, 3, none⟩ = false := (hbb.frozen (p := ⟨wr.heap.size, 3, none⟩) (by first | (simp; done) | omega | (simp; omega))).trans (by (repeat (first | with_reducible assumption | (simp [go_sem]; done) | (with_reducible refine fr_alloc ?_ ?_; focus (first | (simp; done) | omega | (simp; omega))) | (with_reducible refine Ab.fr (by assumption) ?_ ?_; focus (first | (simp; done) | omega | (simp; omega)))))); have xr4 : wb.frozen? ⟨wr.heap.size, 4, none⟩ = false := (hbb.frozen (p := ⟨wr.heap.size, 4, none⟩) (by first | (simp; done) | omega | (simp; omega))).trans (by (repeat (first | with_reducible assumption | (simp [go_sem]; done) | (with_reducible refine fr_alloc ?_ ?_; focus (first | (simp; done) | omega | (simp; omega))) | (with_reducible refine Ab.fr (by assumption) ?_ ?_; focus (first | (simp; done) | omega | (simp; omega)))))); have xr5 : wb.frozen? ⟨wr.heap.size, 5, none⟩ = false := (hbb.frozen (p := ⟨wr.heap.size, 5, none⟩) (by first | (simp; done) | omega | (simp; omega))).trans (by (repeat (first | with_reducible assumption | (simp [go_sem]; done) | (with_reducible refine fr_alloc ?_ ?_; focus (first | (simp; done) | omega | (simp; omega))) | (with_reducible refine Ab.fr (by assumption) ?_ ?_; focus (first | (simp; done) | omega | (simp; omega))))))
          have xna := fun (o : Obj) (j : Nat) => World.cell?_alloc_lt wb o ⟨wr.heap.size, j, none⟩ (by first | (simp; done) | omega | (simp; omega))
          have xnb := fun (o : Obj) (j : Nat) => ((Ab.refl wb).alloc o).frozen (p := ⟨wr.heap.size, j, none⟩) (by first | (simp; done) | omega | (simp; omega))
          (try go_wp2_with fail)
          (refine hK.out _ _ ?_ (fun hHeld => ?_)
           · (try dsimp only); try trivial
           clear hK K
           (try simp only [Act.put, List.setIfInBounds_toArray, List.set_cons_zero, List.set_cons_succ]))
          (refine wpAnyH_take (i := 3) (v := ?_) rfl (by kernel_rfl) (by kernel_rfl) (by kernel_rfl) (fun _ _ _ h => h) (Or.inl ⟨by kernel_rfl, ?_⟩) (by assumption) ?_
           rotate_left
           · (intro w hSw; (try dsimp only at hSw); go_simp; (try with_reducible rfl))
           (try simp only [Act.put, List.setIfInBounds_toArray, List.set_cons_zero, List.set_cons_succ]))
          (refine wpAnyH_take (i := 4) (v := ?_) rfl (by kernel_rfl) (by kernel_rfl) (by kernel_rfl) (fun _ _ _ h => h) (Or.inl ⟨by kernel_rfl, ?_⟩) (by assumption) ?_
           rotate_left
           · (intro w hSw; (try dsimp only at hSw); go_simp; (try with_reducible rfl))
           (try simp only [Act.put, List.setIfInBounds_toArray, List.set_cons_zero, List.set_cons_succ]))
          (refine wpAnyH_take (i := 5) (v := ?_) rfl (by kernel_rfl) (by kernel_rfl) (by kernel_rfl) (fun _ _ _ h => h) (Or.inl ⟨by kernel_rfl, ?_⟩) (by assumption) ?_
           rotate_left
           · (intro w hSw; (try dsimp only at hSw); go_simp; (try with_reducible rfl))
           (try simp only [Act.put, List.setIfInBounds_toArray, List.set_cons_zero, List.set_cons_succ]))
          (refine wpAnyH_take (i := 6) (v := ?_) rfl (by kernel_rfl) (by kernel_rfl) (by kernel_rfl) (fun _ _ _ h => h) (Or.inl ⟨by kernel_rfl, ?_⟩) (by assumption) ?_
           rotate_left
           · (intro w hSw; (try dsimp only at hSw); go_simp; (try with_reducible rfl))
           (try simp only [Act.put, List.setIfInBounds_toArray, List.set_cons_zero, List.set_cons_succ]))
          (refine wpAnyH_ready (rs := [8]) (by kernel_rfl) (by simp) ?_)
          refine AllReadyH.cons rfl (fun K hK => ?_) AllReadyH.nil
          (go_simp
           (refine hK.out _ _ ?_ (fun hHeld => ?_)
            · (try dsimp only); try trivial
            clear hK K
            (try simp only [Act.put, List.setIfInBounds_toArray, List.set_cons_zero, List.set_cons_succ])))
          (refine wpAnyH_ready (rs := [9]) (by kernel_rfl) (by simp) ?_)
          refine AllReadyH.cons rfl (fun K hK => ?_) AllReadyH.nil
          (go_simp
           (refine hK.out _ _ ?_ (fun hHeld => ?_)
            · (try dsimp only); try trivial
            clear hK K
            (try simp only [Act.put, List.setIfInBounds_toArray, List.set_cons_zero, List.set_cons_succ])))
          (refine wpAnyH_ready (rs := [10]) (by kernel_rfl) (by simp) ?_)
          refine AllReadyH.cons rfl (fun K hK => ?_) AllReadyH.nil
          (go_simp
           (refine hK.out _ _ ?_ (fun hHeld => ?_)
            · (try dsimp only); try trivial
            clear hK K
            (try simp only [Act.put, List.setIfInBounds_toArray, List.set_cons_zero, List.set_cons_succ])))
          refine wpAnyH_done (by kernel_rfl) ?_ _
          refine hK _ _ ?_
          refine ⟨rfl, ?_, ?_, ?_, ?_, ?_⟩
          · dsimp only; (repeat rw [Array.size_setIfInBounds]); exact hsT
          · dsimp only; (repeat rw [opq_ne _ _ _ _ _ (by decide)]); exact f1
          · dsimp only; (repeat rw [opq_ne _ _ _ _ _ (by decide)]); exact f16
          · dsimp only; rw [opq_at _ _ 359 _ _ (by (repeat rw [Array.size_setIfInBounds]); exact hsT) (by decide)]
          · exact (by repeat (first | with_reducible exact Ab.refl _ | with_reducible assumption | with_reducible refine Ab.drew ?_ | with_reducible refine Ab.drewN ?_ _ | with_reducible refine Ab.alloc ?_ _ | with_reducible refine Ab.trans ?_ (by assumption) | with_reducible refine Ab.set ?_ (by first | (simp; done) | omega | (simp; omega)) _))
    ·
      (go_simp
       (refine hK.out _ _ ?_ (fun hHeld => ?_)
        · (try dsimp only); try trivial
        clear hK K
        (try simp only [Act.put, List.setIfInBounds_toArray, List.set_cons_zero, List.set_cons_succ])))
      (refine wpAnyH_ready (rs := [0]) (by kernel_rfl) (by simp) ?_)
      refine (AllReadyH.cons rfl (fun K hK => ?_) AllReadyH.nil)
      ·
        go_simp
        (go_at_call 13)
        refine (given_false _).mono ?_
        rintro e wa ⟨ra, Da, Ea, ca, da, Ha, rfl, pa, sa, hba⟩
        have ga : Wal.Good ra [WalEx.r5, WalEx.r6] := by rw [Ha.out]; exact WalEx.good_56
        have La := good_lens ga
        have za := hba.size
        (try simp at za)
        have yq0 : wa.cell? ⟨wr.heap.size, 0, none⟩ = some (.slice none 0 0) := hba.at (by (repeat (first | with_reducible assumption | (simp [go_sem]; done) | with_reducible apply cell_alloc | with_reducible apply cell_drew | with_reducible apply cell_drewN | (with_reducible apply Ab.at; with_reducible assumption) | (with_reducible refine cell_set ?_ ?_; rotate_left; focus (first | (simp; done) | (simp; omega))) | (with_reducible refine cell_setb ?_ ?_; rotate_left; focus (first | omega | (simp only; omega) | (simp; omega)))))); have yq1 : wa.cell? ⟨wr.heap.size, 1, none⟩ = some (.slice none 0 0) := hba.at (by (repeat (first | with_reducible assumption | (simp [go_sem]; done) | with_reducible apply cell_alloc | with_reducible apply cell_drew | with_reducible apply cell_drewN | (with_reducible apply Ab.at; with_reducible assumption) | (with_reducible refine cell_set ?_ ?_; rotate_left; focus (first | (simp; done) | (simp; omega))) | (with_reducible refine cell_setb ?_ ?_; rotate_left; focus (first | omega | (simp only; omega) | (simp; omega)))))); have yq2 : wa.cell? ⟨wr.heap.size, 2, none⟩ = some (.int .i64 0) := hba.at (by (repeat (first | with_reducible assumption | (simp [go_sem]; done) | with_reducible apply cell_alloc | with_reducible apply cell_drew | with_reducible apply cell_drewN | (with_reducible apply Ab.at; with_reducible assumption) | (with_reducible refine cell_set ?_ ?_; rotate_left; focus (first | (simp; done) | (simp; omega))) | (with_reducible refine cell_setb ?_ ?_; rotate_left; focus (first | omega | (simp only; omega) | (simp; omega)))))); have yq3 : wa.cell? ⟨wr.heap.size, 3, none⟩ = some (.bool false) := hba.at (by (repeat (first | with_reducible assumption | (simp [go_sem]; done) | with_reducible apply cell_alloc | with_reducible apply cell_drew | with_reducible apply cell_drewN | (with_reducible apply Ab.at; with_reducible assumption) | (with_reducible refine cell_set ?_ ?_; rotate_left; focus (first | (simp; done) | (simp; omega))) | (with_reducible refine cell_setb ?_ ?_; rotate_left; focus (first | omega | (simp only; omega) | (simp; omega)))))); have yq4 : wa.cell? ⟨wr.heap.size, 4, none⟩ = some (.int .i64 0) := hba.at (by (repeat (first | with_reducible assumption | (simp [go_sem]; done) | with_reducible apply cell_alloc | with_reducible apply cell_drew | with_reducible apply cell_drewN | (with_reducible apply Ab.at; with_reducible assumption) | (with_reducible refine cell_set ?_ ?_; rotate_left; focus (first | (simp; done) | (simp; omega))) | (with_reducible refine cell_setb ?_ ?_; rotate_left; focus (first | omega | (simp only; omega) | (simp; omega)))))); have yq5 : wa.cell? ⟨wr.heap.size, 5, none⟩ = some (.int .i64 0) := hba.at (by (repeat (first | with_reducible assumption | (simp [go_sem]; done) | with_reducible apply cell_alloc | with_reducible apply cell_drew | with_reducible apply cell_drewN | (with_reducible apply Ab.at; with_reducible assumption) | (with_reducible refine cell_set ?_ ?_; rotate_left; focus (first | (simp; done) | (simp; omega))) | (with_reducible refine cell_setb ?_ ?_; rotate_left; focus (first | omega | (simp only; omega) | (simp; omega))))))
        have yr0 : wa.frozen? ⟨wr.heap.size, 0, none⟩ = false := (hba.frozen (p := ⟨wr.heap.size, 0, none⟩) (by first | (simp; done) | omega | (simp; omega))).trans (by (repeat (first | with_reducible assumption | (simp [go_sem]; done) | (with_reducible refine fr_alloc ?_ ?_; focus (first | (simp; done) | omega | (simp; omega))) | (with_reducible refine Ab.fr (by assumption) ?_ ?_; focus (first | (simp; done) | omega | (simp; omega)))))); have yr1 : wa.frozen? ⟨wr.heap.size, 1, none⟩ = false := (hba.frozen (p := ⟨wr.heap.size, 1, none⟩) (by first | (simp; done) | omega | (simp; omega))).trans (by (repeat (first | with_reducible assumption | (simp [go_sem]; done) | (with_reducible refine fr_alloc ?_ ?_; focus (first | (simp; done) | omega | (simp; omega))) | (with_reducible refine Ab.fr (by assumption) ?_ ?_; focus (first | (simp; done) | omega | (simp; omega)))))); have yr2 : wa.frozen? ⟨wr.heap.size, 2, none⟩ = false := (hba.frozen (p := ⟨wr.heap.size, 2, none⟩) (by first | (simp; done) | omega | (simp; omega))).trans (by (repeat (first | with_reducible assumption | (simp [go_sem]; done) | (with_reducible refine fr_alloc ?_ ?_; focus (first | (simp; done) | omega | (simp; omega))) | (with_reducible refine Ab.fr (by assumption) ?_ ?_; focus (first | (simp; done) | omega | (simp; omega)))))); have yr3 : wa.frozen? ⟨wr.heap.size, 3, none⟩ = false := (hba.frozen (p := ⟨wr.heap.size, 3, none⟩) (by first | (simp; done) | omega | (simp; omega))).trans (by (repeat (first | with_reducible assumption | (simp [go_sem]; done) | (with_reducible refine fr_alloc ?_ ?_; focus (first | (simp; done) | omega | (simp; omega))) | (with_reducible refine Ab.fr (by assumption) ?_ ?_; focus (first | (simp; done) | omega | (simp; omega)))))); have yr4 : wa.frozen? ⟨wr.heap.size, 4, none⟩ = false := (hba.frozen (p := ⟨wr.heap.size, 4, none⟩) (by first | (simp; done) | omega | (simp; omega))).trans (by (repeat (first | with_reducible assumption | (simp [go_sem]; done) | (with_reducible refine fr_alloc ?_ ?_; focus (first | (simp; done) | omega | (simp; omega))) | (with_reducible refine Ab.fr (by assumption) ?_ ?_; focus (first | (simp; done) | omega | (simp; omega)))))); have yr5 : wa.frozen? ⟨wr.heap.size, 5, none⟩ = false := (hba.frozen (p := ⟨wr.heap.size, 5, none⟩) (by first | (simp; done) | omega | (simp; omega))).trans (by (repeat (first | with_reducible assumption | (simp [go_sem]; done) | (with_reducible refine fr_alloc ?_ ?_; focus (first | (simp; done) | omega | (simp; omega))) | (with_reducible refine Ab.fr (by assumption) ?_ ?_; focus (first | (simp; done) | omega | (simp; omega))))))
        have yna := fun (o : Obj) (j : Nat) => World.cell?_alloc_lt wa o ⟨wr.heap.size, j, none⟩ (by first | (simp; done) | omega | (simp; omega))
        have ynb := fun (o : Obj) (j : Nat) => ((Ab.refl wa).alloc o).frozen (p := ⟨wr.heap.size, j, none⟩) (by first | (simp; done) | omega | (simp; omega))
        (try go_wp2_with fail)
        (refine hK.out _ _ ?_ (fun hHeld => ?_)
         · (try dsimp only); try trivial
         clear hK K
         (try simp only [Act.put, List.setIfInBounds_toArray, List.set_cons_zero, List.set_cons_succ]))
        (refine wpAnyH_ready (rs := [2]) (by kernel_rfl) (by simp) ?_)
        refine (AllReadyH.cons rfl (fun K hK => ?_) AllReadyH.nil)
        ·
          go_simp
          (go_at_call 11)
          refine (wappend_n Da Ea ca da ra.dev.s ra.dev.t ra.dev.cap ra.dev.down ra.first ra.next _ (pa.rb.zero.ab (by repeat (first | with_reducible exact Ab.refl _ | with_reducible assumption | with_reducible refine Ab.drew ?_ | with_reducible refine Ab.drewN ?_ _ | with_reducible refine Ab.alloc ?_ _ | with_reducible refine Ab.trans ?_ (by assumption) | with_reducible refine Ab.set ?_ (by first | (simp; done) | omega | (simp; omega)) _))) (sa.rb.zero.ab (by repeat (first | with_reducible exact Ab.refl _ | with_reducible assumption | with_reducible refine Ab.drew ?_ | with_reducible refine Ab.drewN ?_ _ | with_reducible refine Ab.alloc ?_ _ | with_reducible refine Ab.trans ?_ (by assumption) | with_reducible refine Ab.set ?_ (by first | (simp; done) | omega | (simp; omega)) _))) pa.le sa.le La.1 La.2 (some [WalEx.r5, WalEx.r6]) ga (some ⟨wr.heap.size + 1, 0, none⟩) 1001 b1 1001 kk1.out ((yy1.out _ _ (0, 0) (by (repeat (first | exact new_plain (by first | (simp; done) | omega | (simp; omega)) | with_reducible refine old_alloc ?_ | with_reducible refine old_drew ?_ | with_reducible refine old_set ?_ (by first | (simp; done) | omega | (simp; omega)) | with_reducible refine old_ab (by assumption) ?_))))) (by omega) (by omega)).mono ?_
          rintro e wb ⟨rb, nb, eb, Db, Eb, cb, db, hb, rfl, pb, sb, hbb⟩
          have hmb := hb.out.trans ((congrArg (fun l => Wal.append l b1 (some [WalEx.r5, WalEx.r6])) Ha.out).trans (WalEx.nm_g b1 kk1.out))
          have hnb := (Prod.mk.inj hmb).2
          obtain ⟨rfl, rfl⟩ := Prod.mk.inj hnb
          clear hb hmb pb sb
          have zb := hbb.size
          (try simp at zb)
          have xq0 : wb.cell? ⟨wr.heap.size, 0, none⟩ = some (.slice none 0 0) := hbb.at (by (repeat (first | with_reducible assumption | (simp [go_sem]; done) | with_reducible apply cell_alloc | with_reducible apply cell_drew | with_reducible apply cell_drewN | (with_reducible apply Ab.at; with_reducible assumption) | (with_reducible refine cell_set ?_ ?_; rotate_left; focus (first | (simp; done) | (simp; omega))) | (with_reducible refine cell_setb ?_ ?_; rotate_left; focus (first | omega | (simp only; omega) | (simp; omega)))))); have xq1 : wb.cell? ⟨wr.heap.size, 1, none⟩ = some (.slice none 0 0) := hbb.at (by (repeat (first | with_reducible assumption | (simp [go_sem]; done) | with_reducible apply cell_alloc | with_reducible apply cell_drew | with_reducible apply cell_drewN | (with_reducible apply Ab.at; with_reducible assumption) | (with_reducible refine cell_set ?_ ?_; rotate_left; focus (first | (simp; done) | (simp; omega))) | (with_reducible refine cell_setb ?_ ?_; rotate_left; focus (first | omega | (simp only; omega) | (simp; omega)))))); have xq2 : wb.cell? ⟨wr.heap.size, 2, none⟩ = some (.int .i64 0) := hbb.at (by (repeat (first | with_reducible assumption | (simp [go_sem]; done) | with_reducible apply cell_alloc | with_reducible apply cell_drew | with_reducible apply cell_drewN | (with_reducible apply Ab.at; with_reducible assumption) | (with_reducible refine cell_set ?_ ?_; rotate_left; focus (first | (simp; done) | (simp; omega))) | (with_reducible refine cell_setb ?_ ?_; rotate_left; focus (first | omega | (simp only; omega) | (simp; omega)))))); have xq3 : wb.cell? ⟨wr.heap.size, 3, none⟩ = some (.bool false) := hbb.at (by (repeat (first | with_reducible assumption | (simp [go_sem]; done) | with_reducible apply cell_alloc | with_reducible apply cell_drew | with_reducible apply cell_drewN | (with_reducible apply Ab.at; with_reducible assumption) | (with_reducible refine cell_set ?_ ?_; rotate_left; focus (first | (simp; done) | (simp; omega))) | (with_reducible refine cell_setb ?_ ?_; rotate_left; focus (first | omega | (simp only; omega) | (simp; omega)))))); have xq4 : wb.cell? ⟨wr.heap.size, 4, none⟩ = some (.int .i64 0) := hbb.at (by (repeat (first | with_reducible assumption | (simp [go_sem]; done) | with_reducible apply cell_alloc | with_reducible apply cell_drew | with_reducible apply cell_drewN | (with_reducible apply Ab.at; with_reducible assumption) | (with_reducible refine cell_set ?_ ?_; rotate_left; focus (first | (simp; done) | (simp; omega))) | (with_reducible refine cell_setb ?_ ?_; rotate_left; focus (first | omega | (simp only; omega) | (simp; omega)))))); have xq5 : wb.cell? ⟨wr.heap.size, 5, none⟩ = some (.int .i64 0) := hbb.at (by (repeat (first | with_reducible assumption | (simp [go_sem]; done) | with_reducible apply cell_alloc | with_reducible apply cell_drew | with_reducible apply cell_drewN | (with_reducible apply Ab.at; with_reducible assumption) | (with_reducible refine cell_set ?_ ?_; rotate_left; focus (first | (simp; done) | (simp; omega))) | (with_reducible refine cell_setb ?_ ?_; rotate_left; focus (first | omega | (simp only; omega) | (simp; omega))))))
          have xr0 : wb.frozen? ⟨wr.heap.size, 0, none⟩ = false := (hbb.frozen (p := ⟨wr.heap.size, 0, none⟩) (by first | (simp; done) | omega | (simp; omega))).trans (by (repeat (first | with_reducible assumption | (simp [go_sem]; done) | (with_reducible refine fr_alloc ?_ ?_; focus (first | (simp; done) | omega | (simp; omega))) | (with_reducible refine Ab.fr (by assumption) ?_ ?_; focus (first | (simp; done) | omega | (simp; omega)))))); have xr1 : wb.frozen? ⟨wr.heap.size, 1, none⟩ = false := (hbb.frozen (p := ⟨wr.heap.size, 1, none⟩) (by first | (simp; done) | omega | (simp; omega))).trans (by (repeat (first | with_reducible assumption | (simp [go_sem]; done) | (with_reducible refine fr_alloc ?_ ?_; focus (first | (simp; done) | omega | (simp; omega))) | (with_reducible refine Ab.fr (by assumption) ?_ ?_; focus (first | (simp; done) | omega | (simp; omega)))))); have xr2 : wb.frozen? ⟨wr.heap.size, 2, none⟩ = false := (hbb.frozen (p := ⟨wr.heap.size, 2, none⟩) (by first | (simp; done) | omega | (simp; omega))).trans (by (repeat (first | with_reducible assumption | (simp [go_sem]; done) | (with_reducible refine fr_alloc ?_ ?_; focus (first | (simp; done) | omega | (simp; omega))) | (with_reducible refine Ab.fr (by assumption) ?_ ?_; focus (first | (simp; done) | omega | (simp; omega)))))); have xr3 : wb.frozen? ⟨wr.heap.size, 3, none⟩ = false := (hbb.frozen (p := ⟨wr.heap.size, 3, none⟩) (by first | (simp; done) | omega | (simp; omega))).trans (by (repeat (first | with_reducible assumption | (simp [go_sem]; done) | (with_reducible refine fr_alloc ?_ ?_; focus (first | (simp; done) | omega | (simp; omega))) | (with_reducible refine Ab.fr (by assumption) ?_ ?_; focus (first | (simp; done) | omega | (simp; omega)))))); have xr4 : wb.frozen? ⟨wr.heap.size, 4, none⟩ = false := (hbb.frozen (p := ⟨wr.heap.size, 4, none⟩) (by first | (simp; done) | omega | (simp; omega))).trans (by (repeat (first | with_reducible assumption | (simp [go_sem]; done) | (with_reducible refine fr_alloc ?_ ?_; focus (first | (simp; done) | omega | (simp; omega))) | (with_reducible refine Ab.fr (by assumption) ?_ ?_; focus (first | (simp; done) | omega | (simp; omega)))))); have xr5 : wb.frozen? ⟨wr.heap.size, 5, none⟩ = false := (hbb.frozen (p := ⟨wr.heap.size, 5, none⟩) (by first | (simp; done) | omega | (simp; omega))).trans (by (repeat (first | with_reducible assumption | (simp [go_sem]; done) | (with_reducible refine fr_alloc ?_ ?_; focus (first | (simp; done) | omega | (simp; omega))) | (with_reducible refine Ab.fr (by assumption) ?_ ?_; focus (first | (simp; done) | omega | (simp; omega))))))
          have xna := fun (o : Obj) (j : Nat) => World.cell?_alloc_lt wb o ⟨wr.heap.size, j, none⟩ (by first | (simp; done) | omega | (simp; omega))
          have xnb := fun (o : Obj) (j : Nat) => ((Ab.refl wb).alloc o).frozen (p := ⟨wr.heap.size, j, none⟩) (by first | (simp; done) | omega | (simp; omega))
          (try go_wp2_with fail)
          (refine hK.out _ _ ?_ (fun hHeld => ?_)
           · (try dsimp only); try trivial
           clear hK K
           (try simp only [Act.put, List.setIfInBounds_toArray, List.set_cons_zero, List.set_cons_succ]))
          (refine wpAnyH_take (i := 3) (v := ?_) rfl (by kernel_rfl) (by kernel_rfl) (by kernel_rfl) (fun _ _ _ h => h) (Or.inl ⟨by kernel_rfl, ?_⟩) (by assumption) ?_
           rotate_left
           · (intro w hSw; (try dsimp only at hSw); go_simp; (try with_reducible rfl))
           (try simp only [Act.put, List.setIfInBounds_toArray, List.set_cons_zero, List.set_cons_succ]))
          (refine wpAnyH_take (i := 4) (v := ?_) rfl (by kernel_rfl) (by kernel_rfl) (by kernel_rfl) (fun _ _ _ h => h) (Or.inl ⟨by kernel_rfl, ?_⟩) (by assumption) ?_
           rotate_left
           · (intro w hSw; (try dsimp only at hSw); go_simp; (try with_reducible rfl))
           (try simp only [Act.put, List.setIfInBounds_toArray, List.set_cons_zero, List.set_cons_succ]))
          (refine wpAnyH_take (i := 5) (v := ?_) rfl (by kernel_rfl) (by kernel_rfl) (by kernel_rfl) (fun _ _ _ h => h) (Or.inl ⟨by kernel_rfl, ?_⟩) (by assumption) ?_
           rotate_left
           · (intro w hSw; (try dsimp only at hSw); go_simp; (try with_reducible rfl))
           (try simp only [Act.put, List.setIfInBounds_toArray, List.set_cons_zero, List.set_cons_succ]))
          (refine wpAnyH_take (i := 6) (v := ?_) rfl (by kernel_rfl) (by kernel_rfl) (by kernel_rfl) (fun _ _ _ h => h) (Or.inl ⟨by kernel_rfl, ?_⟩) (by assumption) ?_
           rotate_left
           · (intro w hSw; (try dsimp only at hSw); go_simp; (try with_reducible rfl))
           (try simp only [Act.put, List.setIfInBounds_toArray, List.set_cons_zero, List.set_cons_succ]))
          (refine wpAnyH_ready (rs := [8]) (by kernel_rfl) (by simp) ?_)
          refine AllReadyH.cons rfl (fun K hK => ?_) AllReadyH.nil
          (go_simp
           (refine hK.out _ _ ?_ (fun hHeld => ?_)
            · (try dsimp only); try trivial
            clear hK K
            (try simp only [Act.put, List.setIfInBounds_toArray, List.set_cons_zero, List.set_cons_succ])))
          (refine wpAnyH_ready (rs := [9]) (by kernel_rfl) (by simp) ?_)
          refine AllReadyH.cons rfl (fun K hK => ?_) AllReadyH.nil
          (go_simp
           (refine hK.out _ _ ?_ (fun hHeld => ?_)
            · (try dsimp only); try trivial
            clear hK K
            (try simp only [Act.put, List.setIfInBounds_toArray, List.set_cons_zero, List.set_cons_succ])))
          (refine wpAnyH_ready (rs := [10]) (by kernel_rfl) (by simp) ?_)
          refine AllReadyH.cons rfl (fun K hK => ?_) AllReadyH.nil
          (go_simp
           (refine hK.out _ _ ?_ (fun hHeld => ?_)
            · (try dsimp only); try trivial
            clear hK K
            (try simp only [Act.put, List.setIfInBounds_toArray, List.set_cons_zero, List.set_cons_succ])))
          refine wpAnyH_done (by kernel_rfl) ?_ _
          refine hK _ _ ?_
          refine ⟨rfl, ?_, ?_, ?_, ?_, ?_⟩
          · dsimp only; (repeat rw [Array.size_setIfInBounds]); exact hsT
          · dsimp only; (repeat rw [opq_ne _ _ _ _ _ (by decide)]); exact f1
          · dsimp only; (repeat rw [opq_ne _ _ _ _ _ (by decide)]); exact f16
          · dsimp only; rw [opq_at _ _ 359 _ _ (by (repeat rw [Array.size_setIfInBounds]); exact hsT) (by decide)]
          · exact (by repeat (first | with_reducible exact Ab.refl _ | with_reducible assumption | with_reducible refine Ab.drew ?_ | with_reducible refine Ab.drewN ?_ _ | with_reducible refine Ab.alloc ?_ _ | with_reducible refine Ab.trans ?_ (by assumption) | with_reducible refine Ab.set ?_ (by first | (simp; done) | omega | (simp; omega)) _))
/-- Behind region 10. -/
def NK10 (w : World) (act : Act) (wx : World) : Prop :=
  act.defers = [] ∧ act.tmps.size = 359 ∧ act.tmps.getD 1 undef = .pointer (some ⟨w.heap.size, 0, none⟩) ∧ act.tmps.getD 16 undef = .bool true ∧ act.tmps.getD 19 undef = .int .i64 4 ∧ act.tmps.getD 22 undef = .int .i64 18 ∧ Ab (w.alloc (.cells #[.slice none 0 0, .slice none 0 0, .int .i64 1000, .bool false] 24)) wx
noncomputable def code10 : Code := ((Try.f3.body.bind (findR 10)).getD .skip)
set_option maxRecDepth 1000000 in
set_option maxHeartbeats 9600000 in
theorem reg10 (w wr : World) (HA : Ab (w.alloc (.cells #[.slice none 0 0, .slice none 0 0, .int .i64 1000, .bool false] 24)) wr) (T : Array Value) (hsT : T.size = 359) (f1 : T.getD 1 undef = .pointer (some ⟨w.heap.size, 0, none⟩)) (f16 : T.getD 16 undef = .bool true) (f19 : T.getD 19 undef = .int .i64 4) (K' : Act → World → Prop) (P0 : Ending → World → Prop) (hK : ∀ a' w', NK10 w a' w' → K' a' w') :
    Code.wp Try.prog code10 (Exit.then K' (bodyPost Try.prog Try.f3 P0)) ⟨T, []⟩ wr := by
  obtain ⟨ZZ2, b2, kk2, _, mm2, yy2⟩ := make_bytes 1000 (by omega) 1000 rfl
  have gsT := opq_set
  have zr := HA.size
  simp at zr
  conv => arg 2; whnf
  refine wp_region_held_drew (by kernel_rfl) (S := fun _ => True) ?_ (fun hHeld => ?_)
  · try trivial
  (refine wpAnyH_ready (rs := [0, 1, 7]) (by kernel_rfl) (by simp) ?_)
  refine (AllReadyH.cons rfl (fun K hK => ?_) (AllReadyH.cons rfl (fun K hK => ?_) (AllReadyH.cons rfl (fun K hK => ?_) AllReadyH.nil)))
  ·
    go_simp
    (go_at_call 13)
    refine (given_false _).mono ?_
    rintro e wa ⟨ra, Da, Ea, ca, da, Ha, rfl, pa, sa, hba⟩
    have ga : Wal.Good ra [WalEx.r5, WalEx.r6] := by rw [Ha.out]; exact WalEx.good_56
    have La := good_lens ga
    have za := hba.size
    (try simp at za)
    (try go_wp2_with fail)
    (refine hK.out _ _ ?_ (fun hHeld => ?_)
     · (try dsimp only); try trivial
     clear hK K
     (try simp only [Act.put, List.setIfInBounds_toArray, List.set_cons_zero, List.set_cons_succ]))
    (refine wpAnyH_ready (rs := [1, 7]) (by kernel_rfl) (by simp) ?_)
    refine (AllReadyH.cons rfl (fun K hK => ?_) (AllReadyH.cons rfl (fun K hK => ?_) AllReadyH.nil))
    ·
      (go_simp
       (refine hK.out _ _ ?_ (fun hHeld => ?_)
        · (try dsimp only); try trivial
        clear hK K
        (try simp only [Act.put, List.setIfInBounds_toArray, List.set_cons_zero, List.set_cons_succ])))
      (refine wpAnyH_ready (rs := [2, 7]) (by kernel_rfl) (by simp) ?_)
      refine (AllReadyH.cons rfl (fun K hK => ?_) (AllReadyH.cons rfl (fun K hK => ?_) AllReadyH.nil))
      ·
        go_simp
        (go_at_call 11)
        refine (wappend_n Da Ea ca da ra.dev.s ra.dev.t ra.dev.cap ra.dev.down ra.first ra.next _ (pa.rb.zero.ab (by repeat (first | with_reducible exact Ab.refl _ | with_reducible assumption | with_reducible refine Ab.drew ?_ | with_reducible refine Ab.drewN ?_ _ | with_reducible refine Ab.alloc ?_ _ | with_reducible refine Ab.trans ?_ (by assumption) | with_reducible refine Ab.set ?_ (by first | (simp; done) | omega | (simp; omega)) _))) (sa.rb.zero.ab (by repeat (first | with_reducible exact Ab.refl _ | with_reducible assumption | with_reducible refine Ab.drew ?_ | with_reducible refine Ab.drewN ?_ _ | with_reducible refine Ab.alloc ?_ _ | with_reducible refine Ab.trans ?_ (by assumption) | with_reducible refine Ab.set ?_ (by first | (simp; done) | omega | (simp; omega)) _))) pa.le sa.le La.1 La.2 (some [WalEx.r5, WalEx.r6]) ga (some ⟨wa.heap.size, 0, none⟩) 1000 b2 1000 kk2.out ((yy2.out _ _ (0, 0) (by (repeat (first | exact new_plain (by first | (simp; done) | omega | (simp; omega)) | with_reducible refine old_alloc ?_ | with_reducible refine old_drew ?_ | with_reducible refine old_set ?_ (by first | (simp; done) | omega | (simp; omega)) | with_reducible refine old_ab (by assumption) ?_))))) (by omega) (by omega)).mono ?_
        rintro e wb ⟨rb, nb, eb, Db, Eb, cb, db, hb, rfl, pb, sb, hbb⟩
        have hmb := hb.out.trans ((congrArg (fun l => Wal.append l b2 (some [WalEx.r5, WalEx.r6])) Ha.out).trans (WalEx.nm_h b2 kk2.out))
        have hnb := (Prod.mk.inj hmb).2
        obtain ⟨rfl, rfl⟩ := Prod.mk.inj hnb
        clear hb hmb pb sb
        have zb := hbb.size
        (try simp at zb)
        (try go_wp2_with fail)
        (refine hK.out _ _ ?_ (fun hHeld => ?_)
         · (try dsimp only); try trivial
         clear hK K
         (try simp only [Act.put, List.setIfInBounds_toArray, List.set_cons_zero, List.set_cons_succ]))
        (refine wpAnyH_take (i := 3) (v := ?_) rfl (by kernel_rfl) (by kernel_rfl) (by kernel_rfl) (fun _ _ _ h => h) (Or.inl ⟨by kernel_rfl, ?_⟩) (by assumption) ?_
         rotate_left
         · (intro w hSw; (try dsimp only at hSw); go_simp; (try with_reducible rfl))
         (try simp only [Act.put, List.setIfInBounds_toArray, List.set_cons_zero, List.set_cons_succ]))
        (refine wpAnyH_take (i := 4) (v := ?_) rfl (by kernel_rfl) (by kernel_rfl) (by kernel_rfl) (fun _ _ _ h => h) (Or.inl ⟨by kernel_rfl, ?_⟩) (by assumption) ?_
         rotate_left
         · (intro w hSw; (try dsimp only at hSw); go_simp; (try with_reducible rfl))
         (try simp only [Act.put, List.setIfInBounds_toArray, List.set_cons_zero, List.set_cons_succ]))
        (refine wpAnyH_take (i := 5) (v := ?_) rfl (by kernel_rfl) (by kernel_rfl) (by kernel_rfl) (fun _ _ _ h => h) (Or.inl ⟨by kernel_rfl, ?_⟩) (by assumption) ?_
         rotate_left
         · (intro w hSw; (try dsimp only at hSw); go_simp; (try with_reducible rfl))
         (try simp only [Act.put, List.setIfInBounds_toArray, List.set_cons_zero, List.set_cons_succ]))
        (refine wpAnyH_take (i := 6) (v := ?_) rfl (by kernel_rfl) (by kernel_rfl) (by kernel_rfl) (fun _ _ _ h => h) (Or.inl ⟨by kernel_rfl, ?_⟩) (by assumption) ?_
         rotate_left
         · (intro w hSw; (try dsimp only at hSw); go_simp; (try with_reducible rfl))
         (try simp only [Act.put, List.setIfInBounds_toArray, List.set_cons_zero, List.set_cons_succ]))
        (refine wpAnyH_ready (rs := [7]) (by kernel_rfl) (by simp) ?_)
        refine AllReadyH.cons rfl (fun K hK => ?_) AllReadyH.nil
        (go_simp
         (refine hK.out _ _ ?_ (fun hHeld => ?_)
          · (try dsimp only); try trivial
          clear hK K
          (try simp only [Act.put, List.setIfInBounds_toArray, List.set_cons_zero, List.set_cons_succ])))
        (refine wpAnyH_ready (rs := [8]) (by kernel_rfl) (by simp) ?_)
        refine AllReadyH.cons rfl (fun K hK => ?_) AllReadyH.nil
        (go_simp
         (refine hK.out _ _ ?_ (fun hHeld => ?_)
          · (try dsimp only); try trivial
          clear hK K
          (try simp only [Act.put, List.setIfInBounds_toArray, List.set_cons_zero, List.set_cons_succ])))
        (refine wpAnyH_ready (rs := [9]) (by kernel_rfl) (by simp) ?_)
        refine AllReadyH.cons rfl (fun K hK => ?_) AllReadyH.nil
        (go_simp
         (refine hK.out _ _ ?_ (fun hHeld => ?_)
          · (try dsimp only); try trivial
          clear hK K
          (try simp only [Act.put, List.setIfInBounds_toArray, List.set_cons_zero, List.set_cons_succ])))
        (refine wpAnyH_ready (rs := [10]) (by kernel_rfl) (by simp) ?_)
        refine AllReadyH.cons rfl (fun K hK => ?_) AllReadyH.nil
        (go_simp
         (refine hK.out _ _ ?_ (fun hHeld => ?_)
          · (try dsimp only); try trivial
          clear hK K
          (try simp only [Act.put, List.setIfInBounds_toArray, List.set_cons_zero, List.set_cons_succ])))
        refine wpAnyH_done (by kernel_rfl) ?_ _
        refine hK _ _ ?_
        refine ⟨rfl, ?_, ?_, ?_, ?_, ?_, ?_⟩
        · dsimp only; (repeat rw [Array.size_setIfInBounds]); exact hsT
        · dsimp only; (repeat rw [opq_ne _ _ _ _ _ (by decide)]); exact f1
        · dsimp only; (repeat rw [opq_ne _ _ _ _ _ (by decide)]); exact f16
        · dsimp only; (repeat rw [opq_ne _ _ _ _ _ (by decide)]); exact f19
        · dsimp only; rw [opq_at _ _ 359 _ _ (by (repeat rw [Array.size_setIfInBounds]); exact hsT) (by decide)]
        · exact (by repeat (first | with_reducible exact Ab.refl _ | with_reducible assumption | with_reducible refine Ab.drew ?_ | with_reducible refine Ab.drewN ?_ _ | with_reducible refine Ab.alloc ?_ _ | with_reducible refine Ab.trans ?_ (by assumption) | with_reducible refine Ab.set ?_ (by first | (simp; done) | omega | (simp; omega)) _))
      ·
        (go_simp
         (refine hK.out _ _ ?_ (fun hHeld => ?_)
          · (try dsimp only); try trivial
          clear hK K
          (try simp only [Act.put, List.setIfInBounds_toArray, List.set_cons_zero, List.set_cons_succ])))
        (refine wpAnyH_ready (rs := [2]) (by kernel_rfl) (by simp) ?_)
        refine (AllReadyH.cons rfl (fun K hK => ?_) AllReadyH.nil)
        ·
          go_simp
          (go_at_call 11)
          refine (wappend_n Da Ea ca da ra.dev.s ra.dev.t ra.dev.cap ra.dev.down ra.first ra.next _ (pa.rb.zero.ab (by repeat (first | with_reducible exact Ab.refl _ | with_reducible assumption | with_reducible refine Ab.drew ?_ | with_reducible refine Ab.drewN ?_ _ | with_reducible refine Ab.alloc ?_ _ | with_reducible refine Ab.trans ?_ (by assumption) | with_reducible refine Ab.set ?_ (by first | (simp; done) | omega | (simp; omega)) _))) (sa.rb.zero.ab (by repeat (first | with_reducible exact Ab.refl _ | with_reducible assumption | with_reducible refine Ab.drew ?_ | with_reducible refine Ab.drewN ?_ _ | with_reducible refine Ab.alloc ?_ _ | with_reducible refine Ab.trans ?_ (by assumption) | with_reducible refine Ab.set ?_ (by first | (simp; done) | omega | (simp; omega)) _))) pa.le sa.le La.1 La.2 (some [WalEx.r5, WalEx.r6]) ga (some ⟨wa.heap.size, 0, none⟩) 1000 b2 1000 kk2.out ((yy2.out _ _ (0, 0) (by (repeat (first | exact new_plain (by first | (simp; done) | omega | (simp; omega)) | with_reducible refine old_alloc ?_ | with_reducible refine old_drew ?_ | with_reducible refine old_set ?_ (by first | (simp; done) | omega | (simp; omega)) | with_reducible refine old_ab (by assumption) ?_))))) (by omega) (by omega)).mono ?_
          rintro e wb ⟨rb, nb, eb, Db, Eb, cb, db, hb, rfl, pb, sb, hbb⟩
          have hmb := hb.out.trans ((congrArg (fun l => Wal.append l b2 (some [WalEx.r5, WalEx.r6])) Ha.out).trans (WalEx.nm_h b2 kk2.out))
          have hnb := (Prod.mk.inj hmb).2
          obtain ⟨rfl, rfl⟩ := Prod.mk.inj hnb
          clear hb hmb pb sb
          have zb := hbb.size
          (try simp at zb)
          have xq0 : wb.cell? ⟨wa.heap.size + 1, 0, none⟩ = some (.slice none 0 0) := hbb.at (by (repeat (first | with_reducible assumption | (simp [go_sem]; done) | with_reducible apply cell_alloc | with_reducible apply cell_drew | with_reducible apply cell_drewN | (with_reducible apply Ab.at; with_reducible assumption) | (with_reducible refine cell_set ?_ ?_; rotate_left; focus (first | (simp; done) | (simp; omega))) | (with_reducible refine cell_setb ?_ ?_; rotate_left; focus (first | omega | (simp only; omega) | (simp; omega)))))); have xq1 : wb.cell? ⟨wa.heap.size + 1, 1, none⟩ = some (.slice none 0 0) := hbb.at (by (repeat (first | with_reducible assumption | (simp [go_sem]; done) | with_reducible apply cell_alloc | with_reducible apply cell_drew | with_reducible apply cell_drewN | (with_reducible apply Ab.at; with_reducible assumption) | (with_reducible refine cell_set ?_ ?_; rotate_left; focus (first | (simp; done) | (simp; omega))) | (with_reducible refine cell_setb ?_ ?_; rotate_left; focus (first | omega | (simp only; omega) | (simp; omega)))))); have xq2 : wb.cell? ⟨wa.heap.size + 1, 2, none⟩ = some (.int .i64 0) := hbb.at (by (repeat (first | with_reducible assumption | (simp [go_sem]; done) | with_reducible apply cell_alloc | with_reducible apply cell_drew | with_reducible apply cell_drewN | (with_reducible apply Ab.at; with_reducible assumption) | (with_reducible refine cell_set ?_ ?_; rotate_left; focus (first | (simp; done) | (simp; omega))) | (with_reducible refine cell_setb ?_ ?_; rotate_left; focus (first | omega | (simp only; omega) | (simp; omega)))))); have xq3 : wb.cell? ⟨wa.heap.size + 1, 3, none⟩ = some (.bool false) := hbb.at (by (repeat (first | with_reducible assumption | (simp [go_sem]; done) | with_reducible apply cell_alloc | with_reducible apply cell_drew | with_reducible apply cell_drewN | (with_reducible apply Ab.at; with_reducible assumption) | (with_reducible refine cell_set ?_ ?_; rotate_left; focus (first | (simp; done) | (simp; omega))) | (with_reducible refine cell_setb ?_ ?_; rotate_left; focus (first | omega | (simp only; omega) | (simp; omega)))))); have xq4 : wb.cell? ⟨wa.heap.size + 1, 4, none⟩ = some (.int .i64 0) := hbb.at (by (repeat (first | with_reducible assumption | (simp [go_sem]; done) | with_reducible apply cell_alloc | with_reducible apply cell_drew | with_reducible apply cell_drewN | (with_reducible apply Ab.at; with_reducible assumption) | (with_reducible refine cell_set ?_ ?_; rotate_left; focus (first | (simp; done) | (simp; omega))) | (with_reducible refine cell_setb ?_ ?_; rotate_left; focus (first | omega | (simp only; omega) | (simp; omega)))))); have xq5 : wb.cell? ⟨wa.heap.size + 1, 5, none⟩ = some (.int .i64 0) := hbb.at (by (repeat (first | with_reducible assumption | (simp [go_sem]; done) | with_reducible apply cell_alloc | with_reducible apply cell_drew | with_reducible apply cell_drewN | (with_reducible apply Ab.at; with_reducible assumption) | (with_reducible refine cell_set ?_ ?_; rotate_left; focus (first | (simp; done) | (simp; omega))) | (with_reducible refine cell_setb ?_ ?_; rotate_left; focus (first | omega | (simp only; omega) | (simp; omega))))))
          have xr0 : wb.frozen? ⟨wa.heap.size + 1, 0, none⟩ = false := (hbb.frozen (p := ⟨wa.heap.size + 1, 0, none⟩) (by first | (simp; done) | omega | (simp; omega))).trans (by (repeat (first | with_reducible assumption | (simp [go_sem]; done) | (with_reducible refine fr_alloc ?_ ?_; focus (first | (simp; done) | omega | (simp; omega))) | (with_reducible refine Ab.fr (by assumption) ?_ ?_; focus (first | (simp; done) | omega | (simp; omega)))))); have xr1 : wb.frozen? ⟨wa.heap.size + 1, 1, none⟩ = false := (hbb.frozen (p := ⟨wa.heap.size + 1, 1, none⟩) (by first | (simp; done) | omega | (simp; omega))).trans (by (repeat (first | with_reducible assumption | (simp [go_sem]; done) | (with_reducible refine fr_alloc ?_ ?_; focus (first | (simp; done) | omega | (simp; omega))) | (with_reducible refine Ab.fr (by assumption) ?_ ?_; focus (first | (simp; done) | omega | (simp; omega)))))); have xr2 : wb.frozen? ⟨wa.heap.size + 1, 2, none⟩ = false := (hbb.frozen (p := ⟨wa.heap.size + 1, 2, none⟩) (by first | (simp; done) | omega | (simp; omega))).trans (by (repeat (first | with_reducible assumption | (simp [go_sem]; done) | (with_reducible refine fr_alloc ?_ ?_; focus (first | (simp; done) | omega | (simp; omega))) | (with_reducible refine Ab.fr (by assumption) ?_ ?_; focus (first | (simp; done) | omega | (simp; omega)))))); have xr3 : wb.frozen? ⟨wa.heap.size + 1, 3, none⟩ = false := (hbb.frozen (p := ⟨wa.heap.size + 1, 3, none⟩) (by first | (simp; done) | omega | (simp; omega))).trans (by (repeat (first | with_reducible assumption | (simp [go_sem]; done) | (with_reducible refine fr_alloc ?_ ?_; focus (first | (simp; done) | omega | (simp; omega))) | (with_reducible refine Ab.fr (by assumption) ?_ ?_; focus (first | (simp; done) | omega | (simp; omega)))))); have xr4 : wb.frozen? ⟨wa.heap.size + 1, 4, none⟩ = false := (hbb.frozen (p := ⟨wa.heap.size + 1, 4, none⟩) (by first | (simp; done) | omega | (simp; omega))).trans (by (repeat (first | with_reducible assumption | (simp [go_sem]; done) | (with_reducible refine fr_alloc ?_ ?_; focus (first | (simp; done) | omega | (simp; omega))) | (with_reducible refine Ab.fr (by assumption) ?_ ?_; focus (first | (simp; done) | omega | (simp; omega)))))); have xr5 : wb.frozen? ⟨wa.heap.size + 1, 5, none⟩ = false := (hbb.frozen (p := ⟨wa.heap.size + 1, 5, none⟩) (by first | (simp; done) | omega | (simp; omega))).trans (by (repeat (first | with_reducible assumption | (simp [go_sem]; done) | (with_reducible refine fr_alloc ?_ ?_; focus (first | (simp; done) | omega | (simp; omega))) | (with_reducible refine Ab.fr (by assumption) ?_ ?_; focus (first | (simp; done) | omega | (simp; omega))))))
          have xna := fun (o : Obj) (j : Nat) => World.cell?_alloc_lt wb o ⟨wa.heap.size + 1, j, none⟩ (by first | (simp; done) | omega | (simp; omega))
          have xnb := fun (o : Obj) (j : Nat) => ((Ab.refl wb).alloc o).frozen (p := ⟨wa.heap.size + 1, j, none⟩) (by first | (simp; done) | omega | (simp; omega))
          (try go_wp2_with fail)
          (refine hK.out _ _ ?_ (fun hHeld => ?_)
           · (try dsimp only); try trivial
           clear hK K
           (try simp only [Act.put, List.setIfInBounds_toArray, List.set_cons_zero, List.set_cons_succ]))
          (refine wpAnyH_take (i := 3) (v := ?_) rfl (by kernel_rfl) (by kernel_rfl) (by kernel_rfl) (fun _ _ _ h => h) (Or.inl ⟨by kernel_rfl, ?_⟩) (by assumption) ?_
           rotate_left
           · (intro w hSw; (try dsimp only at hSw); go_simp; (try with_reducible rfl))
           (try simp only [Act.put, List.setIfInBounds_toArray, List.set_cons_zero, List.set_cons_succ]))
          (refine wpAnyH_take (i := 4) (v := ?_) rfl (by kernel_rfl) (by kernel_rfl) (by kernel_rfl) (fun _ _ _ h => h) (Or.inl ⟨by kernel_rfl, ?_⟩) (by assumption) ?_
           rotate_left
           · (intro w hSw; (try dsimp only at hSw); go_simp; (try with_reducible rfl))
           (try simp only [Act.put, List.setIfInBounds_toArray, List.set_cons_zero, List.set_cons_succ]))
          (refine wpAnyH_take (i := 5) (v := ?_) rfl (by kernel_rfl) (by kernel_rfl) (by kernel_rfl) (fun _ _ _ h => h) (Or.inl ⟨by kernel_rfl, ?_⟩) (by assumption) ?_
           rotate_left
           · (intro w hSw; (try dsimp only at hSw); go_simp; (try with_reducible rfl))
           (try simp only [Act.put, List.setIfInBounds_toArray, List.set_cons_zero, List.set_cons_succ]))
          (refine wpAnyH_take (i := 6) (v := ?_) rfl (by kernel_rfl) (by kernel_rfl) (by kernel_rfl) (fun _ _ _ h => h) (Or.inl ⟨by kernel_rfl, ?_⟩) (by assumption) ?_
           rotate_left
           · (intro w hSw; (try dsimp only at hSw); go_simp; (try with_reducible rfl))
           (try simp only [Act.put, List.setIfInBounds_toArray, List.set_cons_zero, List.set_cons_succ]))
          (refine wpAnyH_ready (rs := [8]) (by kernel_rfl) (by simp) ?_)
          refine AllReadyH.cons rfl (fun K hK => ?_) AllReadyH.nil
          (go_simp
           (refine hK.out _ _ ?_ (fun hHeld => ?_)
            · (try dsimp only); try trivial
            clear hK K
            (try simp only [Act.put, List.setIfInBounds_toArray, List.set_cons_zero, List.set_cons_succ])))
          (refine wpAnyH_ready (rs := [9]) (by kernel_rfl) (by simp) ?_)
          refine AllReadyH.cons rfl (fun K hK => ?_) AllReadyH.nil
          (go_simp
           (refine hK.out _ _ ?_ (fun hHeld => ?_)
            · (try dsimp only); try trivial
            clear hK K
            (try simp only [Act.put, List.setIfInBounds_toArray, List.set_cons_zero, List.set_cons_succ])))
          (refine wpAnyH_ready (rs := [10]) (by kernel_rfl) (by simp) ?_)
          refine AllReadyH.cons rfl (fun K hK => ?_) AllReadyH.nil
          (go_simp
           (refine hK.out _ _ ?_ (fun hHeld => ?_)
            · (try dsimp only); try trivial
            clear hK K
            (try simp only [Act.put, List.setIfInBounds_toArray, List.set_cons_zero, List.set_cons_succ])))
          refine wpAnyH_done (by kernel_rfl) ?_ _
          refine hK _ _ ?_
          refine ⟨rfl, ?_, ?_, ?_, ?_, ?_, ?_⟩
          · dsimp only; (repeat rw [Array.size_setIfInBounds]); exact hsT
          · dsimp only; (repeat rw [opq_ne _ _ _ _ _ (by decide)]); exact f1
          · dsimp only; (repeat rw [opq_ne _ _ _ _ _ (by decide)]); exact f16
          · dsimp only; (repeat rw [opq_ne _ _ _ _ _ (by decide)]); exact f19
          · dsimp only; rw [opq_at _ _ 359 _ _ (by (repeat rw [Array.size_setIfInBounds]); exact hsT) (by decide)]
          · exact (by repeat (first | with_reducible exact Ab.refl _ | with_reducible assumption | with_reducible refine Ab.drew ?_ | with_reducible refine Ab.drewN ?_ _ | with_reducible refine Ab.alloc ?_ _ | with_reducible refine Ab.trans ?_ (by assumption) | with_reducible refine Ab.set ?_ (by first | (simp; done) | omega | (simp; omega)) _))
    ·
      (go_simp
       (refine hK.out _ _ ?_ (fun hHeld => ?_)
        · (try dsimp only); try trivial
        clear hK K
        (try simp only [Act.put, List.setIfInBounds_toArray, List.set_cons_zero, List.set_cons_succ])))
      (refine wpAnyH_ready (rs := [1]) (by kernel_rfl) (by simp) ?_)
      refine (AllReadyH.cons rfl (fun K hK => ?_) AllReadyH.nil)
      ·
        (go_simp
         (refine hK.out _ _ ?_ (fun hHeld => ?_)
          · (try dsimp only); try trivial
          clear hK K
          (try simp only [Act.put, List.setIfInBounds_toArray, List.set_cons_zero, List.set_cons_succ])))
        (refine wpAnyH_ready (rs := [2]) (by kernel_rfl) (by simp) ?_)
        refine (AllReadyH.cons rfl (fun K hK => ?_) AllReadyH.nil)
        ·
          go_simp
          (go_at_call 11)
          refine (wappend_n Da Ea ca da ra.dev.s ra.dev.t ra.dev.cap ra.dev.down ra.first ra.next _ (pa.rb.zero.ab (by repeat (first | with_reducible exact Ab.refl _ | with_reducible assumption | with_reducible refine Ab.drew ?_ | with_reducible refine Ab.drewN ?_ _ | with_reducible refine Ab.alloc ?_ _ | with_reducible refine Ab.trans ?_ (by assumption) | with_reducible refine Ab.set ?_ (by first | (simp; done) | omega | (simp; omega)) _))) (sa.rb.zero.ab (by repeat (first | with_reducible exact Ab.refl _ | with_reducible assumption | with_reducible refine Ab.drew ?_ | with_reducible refine Ab.drewN ?_ _ | with_reducible refine Ab.alloc ?_ _ | with_reducible refine Ab.trans ?_ (by assumption) | with_reducible refine Ab.set ?_ (by first | (simp; done) | omega | (simp; omega)) _))) pa.le sa.le La.1 La.2 (some [WalEx.r5, WalEx.r6]) ga (some ⟨wa.heap.size + 1, 0, none⟩) 1000 b2 1000 kk2.out ((yy2.out _ _ (0, 0) (by (repeat (first | exact new_plain (by first | (simp; done) | omega | (simp; omega)) | with_reducible refine old_alloc ?_ | with_reducible refine old_drew ?_ | with_reducible refine old_set ?_ (by first | (simp; done) | omega | (simp; omega)) | with_reducible refine old_ab (by assumption) ?_))))) (by omega) (by omega)).mono ?_
          rintro e wb ⟨rb, nb, eb, Db, Eb, cb, db, hb, rfl, pb, sb, hbb⟩
          have hmb := hb.out.trans ((congrArg (fun l => Wal.append l b2 (some [WalEx.r5, WalEx.r6])) Ha.out).trans (WalEx.nm_h b2 kk2.out))
          have hnb := (Prod.mk.inj hmb).2
          obtain ⟨rfl, rfl⟩ := Prod.mk.inj hnb
          clear hb hmb pb sb
          have zb := hbb.size
          (try simp at zb)
          have xq0 : wb.cell? ⟨wa.heap.size, 0, none⟩ = some (.slice none 0 0) := hbb.at (by (repeat (first | with_reducible assumption | (simp [go_sem]; done) | with_reducible apply cell_alloc | with_reducible apply cell_drew | with_reducible apply cell_drewN | (with_reducible apply Ab.at; with_reducible assumption) | (with_reducible refine cell_set ?_ ?_; rotate_left; focus (first | (simp; done) | (simp; omega))) | (with_reducible refine cell_setb ?_ ?_; rotate_left; focus (first | omega | (simp only; omega) | (simp; omega)))))); have xq1 : wb.cell? ⟨wa.heap.size, 1, none⟩ = some (.slice none 0 0) := hbb.at (by (repeat (first | with_reducible assumption | (simp [go_sem]; done) | with_reducible apply cell_alloc | with_reducible apply cell_drew | with_reducible apply cell_drewN | (with_reducible apply Ab.at; with_reducible assumption) | (with_reducible refine cell_set ?_ ?_; rotate_left; focus (first | (simp; done) | (simp; omega))) | (with_reducible refine cell_setb ?_ ?_; rotate_left; focus (first | omega | (simp only; omega) | (simp; omega)))))); have xq2 : wb.cell? ⟨wa.heap.size, 2, none⟩ = some (.int .i64 0) := hbb.at (by (repeat (first | with_reducible assumption | (simp [go_sem]; done) | with_reducible apply cell_alloc | with_reducible apply cell_drew | with_reducible apply cell_drewN | (with_reducible apply Ab.at; with_reducible assumption) | (with_reducible refine cell_set ?_ ?_; rotate_left; focus (first | (simp; done) | (simp; omega))) | (with_reducible refine cell_setb ?_ ?_; rotate_left; focus (first | omega | (simp only; omega) | (simp; omega)))))); have xq3 : wb.cell? ⟨wa.heap.size, 3, none⟩ = some (.bool false) := hbb.at (by (repeat (first | with_reducible assumption | (simp [go_sem]; done) | with_reducible apply cell_alloc | with_reducible apply cell_drew | with_reducible apply cell_drewN | (with_reducible apply Ab.at; with_reducible assumption) | (with_reducible refine cell_set ?_ ?_; rotate_left; focus (first | (simp; done) | (simp; omega))) | (with_reducible refine cell_setb ?_ ?_; rotate_left; focus (first | omega | (simp only; omega) | (simp; omega)))))); have xq4 : wb.cell? ⟨wa.heap.size, 4, none⟩ = some (.int .i64 0) := hbb.at (by (repeat (first | with_reducible assumption | (simp [go_sem]; done) | with_reducible apply cell_alloc | with_reducible apply cell_drew | with_reducible apply cell_drewN | (with_reducible apply Ab.at; with_reducible assumption) | (with_reducible refine cell_set ?_ ?_; rotate_left; focus (first | (simp; done) | (simp; omega))) | (with_reducible refine cell_setb ?_ ?_; rotate_left; focus (first | omega | (simp only; omega) | (simp; omega)))))); have xq5 : wb.cell? ⟨wa.heap.size, 5, none⟩ = some (.int .i64 0) := hbb.at (by (repeat (first | with_reducible assumption | (simp [go_sem]; done) | with_reducible apply cell_alloc | with_reducible apply cell_drew | with_reducible apply cell_drewN | (with_reducible apply Ab.at; with_reducible assumption) | (with_reducible refine cell_set ?_ ?_; rotate_left; focus (first | (simp; done) | (simp; omega))) | (with_reducible refine cell_setb ?_ ?_; rotate_left; focus (first | omega | (simp only; omega) | (simp; omega))))))
          have xr0 : wb.frozen? ⟨wa.heap.size, 0, none⟩ = false := (hbb.frozen (p := ⟨wa.heap.size, 0, none⟩) (by first | (simp; done) | omega | (simp; omega))).trans (by (repeat (first | with_reducible assumption | (simp [go_sem]; done) | (with_reducible refine fr_alloc ?_ ?_; focus (first | (simp; done) | omega | (simp; omega))) | (with_reducible refine Ab.fr (by assumption) ?_ ?_; focus (first | (simp; done) | omega | (simp; omega)))))); have xr1 : wb.frozen? ⟨wa.heap.size, 1, none⟩ = false := (hbb.frozen (p := ⟨wa.heap.size, 1, none⟩) (by first | (simp; done) | omega | (simp; omega))).trans (by (repeat (first | with_reducible assumption | (simp [go_sem]; done) | (with_reducible refine fr_alloc ?_ ?_; focus (first | (simp; done) | omega | (simp; omega))) | (with_reducible refine Ab.fr (by assumption) ?_ ?_; focus (first | (simp; done) | omega | (simp; omega)))))); have xr2 : wb.frozen? ⟨wa.heap.size, 2, none⟩ = false := (hbb.frozen (p := ⟨wa.heap.size, 2, none⟩) (by first | (simp; done) | omega | (simp; omega))).trans (by (repeat (first | with_reducible assumption | (simp [go_sem]; done) | (with_reducible refine fr_alloc ?_ ?_; focus (first | (simp; done) | omega | (simp; omega))) | (with_reducible refine Ab.fr (by assumption) ?_ ?_; focus (first | (simp; done) | omega | (simp; omega)))))); have xr3 : wb.frozen? ⟨wa.heap.size, 3, none⟩ = false := (hbb.frozen (p := ⟨wa.heap.size, 3, none⟩) (by first | (simp; done) | omega | (simp; omega))).trans (by (repeat (first | with_reducible assumption | (simp [go_sem]; done) | (with_reducible refine fr_alloc ?_ ?_; focus (first | (simp; done) | omega | (simp; omega))) | (with_reducible refine Ab.fr (by assumption) ?_ ?_; focus (first | (simp; done) | omega | (simp; omega)))))); have xr4 : wb.frozen? ⟨wa.heap.size, 4, none⟩ = false := (hbb.frozen (p := ⟨wa.heap.size, 4, none⟩) (by first | (simp; done) | omega | (simp; omega))).trans (by (repeat (first | with_reducible assumption | (simp [go_sem]; done) | (with_reducible refine fr_alloc ?_ ?_; focus (first | (simp; done) | omega | (simp; omega))) | (with_reducible refine Ab.fr (by assumption) ?_ ?_; focus (first | (simp; done) | omega | (simp; omega)))))); have xr5 : wb.frozen? ⟨wa.heap.size, 5, none⟩ = false := (hbb.frozen (p := ⟨wa.heap.size, 5, none⟩) (by first | (simp; done) | omega | (simp; omega))).trans (by (repeat (first | with_reducible assumption | (simp [go_sem]; done) | (with_reducible refine fr_alloc ?_ ?_; focus (first | (simp; done) | omega | (simp; omega))) | (with_reducible refine Ab.fr (by assumption) ?_ ?_; focus (first | (simp; done) | omega | (simp; omega))))))
          have xna := fun (o : Obj) (j : Nat) => World.cell?_alloc_lt wb o ⟨wa.heap.size, j, none⟩ (by first | (simp; done) | omega | (simp; omega))
          have xnb := fun (o : Obj) (j : Nat) => ((Ab.refl wb).alloc o).frozen (p := ⟨wa.heap.size, j, none⟩) (by first | (simp; done) | omega | (simp; omega))
          (try go_wp2_with fail)
          (refine hK.out _ _ ?_ (fun hHeld => ?_)
           · (try dsimp only); try trivial
           clear hK K
           (try simp only [Act.put, List.setIfInBounds_toArray, List.set_cons_zero, List.set_cons_succ]))
          (refine wpAnyH_take (i := 3) (v := ?_) rfl (by kernel_rfl) (by kernel_rfl) (by kernel_rfl) (fun _ _ _ h => h) (Or.inl ⟨by kernel_rfl, ?_⟩) (by assumption) ?_
           rotate_left
           · (intro w hSw; (try dsimp only at hSw); go_simp; (try with_reducible rfl))
           (try simp only [Act.put, List.setIfInBounds_toArray, List.set_cons_zero, List.set_cons_succ]))
          (refine wpAnyH_take (i := 4) (v := ?_) rfl (by kernel_rfl) (by kernel_rfl) (by kernel_rfl) (fun _ _ _ h => h) (Or.inl ⟨by kernel_rfl, ?_⟩) (by assumption) ?_
           rotate_left
           · (intro w hSw; (try dsimp only at hSw); go_simp; (try with_reducible rfl))
           (try simp only [Act.put, List.setIfInBounds_toArray, List.set_cons_zero, List.set_cons_succ]))
          (refine wpAnyH_take (i := 5) (v := ?_) rfl (by kernel_rfl) (by kernel_rfl) (by kernel_rfl) (fun _ _ _ h => h) (Or.inl ⟨by kernel_rfl, ?_⟩) (by assumption) ?_
           rotate_left
           · (intro w hSw; (try dsimp only at hSw); go_simp; (try with_reducible rfl))
           (try simp only [Act.put, List.setIfInBounds_toArray, List.set_cons_zero, List.set_cons_succ]))
          (refine wpAnyH_take (i := 6) (v := ?_) rfl (by kernel_rfl) (by kernel_rfl) (by kernel_rfl) (fun _ _ _ h => h) (Or.inl ⟨by kernel_rfl, ?_⟩) (by assumption) ?_
           rotate_left
           · (intro w hSw; (try dsimp only at hSw); go_simp; (try with_reducible rfl))
           (try simp only [Act.put, List.setIfInBounds_toArray, List.set_cons_zero, List.set_cons_succ]))
          (refine wpAnyH_ready (rs := [8]) (by kernel_rfl) (by simp) ?_)
          refine AllReadyH.cons rfl (fun K hK => ?_) AllReadyH.nil
          (go_simp
           (refine hK.out _ _ ?_ (fun hHeld => ?_)
            · (try dsimp only); try trivial
            clear hK K
            (try simp only [Act.put, List.setIfInBounds_toArray, List.set_cons_zero, List.set_cons_succ])))
          (refine wpAnyH_ready (rs := [9]) (by kernel_rfl) (by simp) ?_)
          refine AllReadyH.cons rfl (fun K hK => ?_) AllReadyH.nil
          (go_simp
           (refine hK.out _ _ ?_ (fun hHeld => ?_)
            · (try dsimp only); try trivial
            clear hK K
            (try simp only [Act.put, List.setIfInBounds_toArray, List.set_cons_zero, List.set_cons_succ])))
          (refine wpAnyH_ready (rs := [10]) (by kernel_rfl) (by simp) ?_)
          refine AllReadyH.cons rfl (fun K hK => ?_) AllReadyH.nil
          (go_simp
           (refine hK.out _ _ ?_ (fun hHeld => ?_)
            · (try dsimp only); try trivial
            clear hK K
            (try simp only [Act.put, List.setIfInBounds_toArray, List.set_cons_zero, List.set_cons_succ])))
          refine wpAnyH_done (by kernel_rfl) ?_ _
          refine hK _ _ ?_
          refine ⟨rfl, ?_, ?_, ?_, ?_, ?_, ?_⟩
          · dsimp only; (repeat rw [Array.size_setIfInBounds]); exact hsT
          · dsimp only; (repeat rw [opq_ne _ _ _ _ _ (by decide)]); exact f1
          · dsimp only; (repeat rw [opq_ne _ _ _ _ _ (by decide)]); exact f16
          · dsimp only; (repeat rw [opq_ne _ _ _ _ _ (by decide)]); exact f19
          · dsimp only; rw [opq_at _ _ 359 _ _ (by (repeat rw [Array.size_setIfInBounds]); exact hsT) (by decide)]
          · exact (by repeat (first | with_reducible exact Ab.refl _ | with_reducible assumption | with_reducible refine Ab.drew ?_ | with_reducible refine Ab.drewN ?_ _ | with_reducible refine Ab.alloc ?_ _ | with_reducible refine Ab.trans ?_ (by assumption) | with_reducible refine Ab.set ?_ (by first | (simp; done) | omega | (simp; omega)) _))
  ·
    (go_simp
     (refine hK.out _ _ ?_ (fun hHeld => ?_)
      · (try dsimp only); try trivial
      clear hK K
      (try simp only [Act.put, List.setIfInBounds_toArray, List.set_cons_zero, List.set_cons_succ])))
    (refine wpAnyH_ready (rs := [0, 7]) (by kernel_rfl) (by simp) ?_)
    refine (AllReadyH.cons rfl (fun K hK => ?_) (AllReadyH.cons rfl (fun K hK => ?_) AllReadyH.nil))
    ·
      go_simp
      (go_at_call 13)
      refine (given_false _).mono ?_
      rintro e wa ⟨ra, Da, Ea, ca, da, Ha, rfl, pa, sa, hba⟩
      have ga : Wal.Good ra [WalEx.r5, WalEx.r6] := by rw [Ha.out]; exact WalEx.good_56
      have La := good_lens ga
      have za := hba.size
      (try simp at za)
      (try go_wp2_with fail)
      (refine hK.out _ _ ?_ (fun hHeld => ?_)
       · (try dsimp only); try trivial
       clear hK K
       (try simp only [Act.put, List.setIfInBounds_toArray, List.set_cons_zero, List.set_cons_succ]))
      (refine wpAnyH_ready (rs := [2, 7]) (by kernel_rfl) (by simp) ?_)
      refine (AllReadyH.cons rfl (fun K hK => ?_) (AllReadyH.cons rfl (fun K hK => ?_) AllReadyH.nil))
      ·
        go_simp
        (go_at_call 11)
        refine (wappend_n Da Ea ca da ra.dev.s ra.dev.t ra.dev.cap ra.dev.down ra.first ra.next _ (pa.rb.zero.ab (by repeat (first | with_reducible exact Ab.refl _ | with_reducible assumption | with_reducible refine Ab.drew ?_ | with_reducible refine Ab.drewN ?_ _ | with_reducible refine Ab.alloc ?_ _ | with_reducible refine Ab.trans ?_ (by assumption) | with_reducible refine Ab.set ?_ (by first | (simp; done) | omega | (simp; omega)) _))) (sa.rb.zero.ab (by repeat (first | with_reducible exact Ab.refl _ | with_reducible assumption | with_reducible refine Ab.drew ?_ | with_reducible refine Ab.drewN ?_ _ | with_reducible refine Ab.alloc ?_ _ | with_reducible refine Ab.trans ?_ (by assumption) | with_reducible refine Ab.set ?_ (by first | (simp; done) | omega | (simp; omega)) _))) pa.le sa.le La.1 La.2 (some [WalEx.r5, WalEx.r6]) ga (some ⟨wr.heap.size, 0, none⟩) 1000 b2 1000 kk2.out ((yy2.out _ _ (0, 0) (by (repeat (first | exact new_plain (by first | (simp; done) | omega | (simp; omega)) | with_reducible refine old_alloc ?_ | with_reducible refine old_drew ?_ | with_reducible refine old_set ?_ (by first | (simp; done) | omega | (simp; omega)) | with_reducible refine old_ab (by assumption) ?_))))) (by omega) (by omega)).mono ?_
        rintro e wb ⟨rb, nb, eb, Db, Eb, cb, db, hb, rfl, pb, sb, hbb⟩
        have hmb := hb.out.trans ((congrArg (fun l => Wal.append l b2 (some [WalEx.r5, WalEx.r6])) Ha.out).trans (WalEx.nm_h b2 kk2.out))
        have hnb := (Prod.mk.inj hmb).2
        obtain ⟨rfl, rfl⟩ := Prod.mk.inj hnb
        clear hb hmb pb sb
        have zb := hbb.size
        (try simp at zb)
        (try go_wp2_with fail)
        (refine hK.out _ _ ?_ (fun hHeld => ?_)
         · (try dsimp only); try trivial
         clear hK K
         (try simp only [Act.put, List.setIfInBounds_toArray, List.set_cons_zero, List.set_cons_succ]))
        (refine wpAnyH_take (i := 3) (v := ?_) rfl (by kernel_rfl) (by kernel_rfl) (by kernel_rfl) (fun _ _ _ h => h) (Or.inl ⟨by kernel_rfl, ?_⟩) (by assumption) ?_
         rotate_left
         · (intro w hSw; (try dsimp only at hSw); go_simp; (try with_reducible rfl))
         (try simp only [Act.put, List.setIfInBounds_toArray, List.set_cons_zero, List.set_cons_succ]))
        (refine wpAnyH_take (i := 4) (v := ?_) rfl (by kernel_rfl) (by kernel_rfl) (by kernel_rfl) (fun _ _ _ h => h) (Or.inl ⟨by kernel_rfl, ?_⟩) (by assumption) ?_
         rotate_left
         · (intro w hSw; (try dsimp only at hSw); go_simp; (try with_reducible rfl))
         (try simp only [Act.put, List.setIfInBounds_toArray, List.set_cons_zero, List.set_cons_succ]))
        (refine wpAnyH_take (i := 5) (v := ?_) rfl (by kernel_rfl) (by kernel_rfl) (by kernel_rfl) (fun _ _ _ h => h) (Or.inl ⟨by kernel_rfl, ?_⟩) (by assumption) ?_
         rotate_left
         · (intro w hSw; (try dsimp only at hSw); go_simp; (try with_reducible rfl))
         (try simp only [Act.put, List.setIfInBounds_toArray, List.set_cons_zero, List.set_cons_succ]))
        (refine wpAnyH_take (i := 6) (v := ?_) rfl (by kernel_rfl) (by kernel_rfl) (by kernel_rfl) (fun _ _ _ h => h) (Or.inl ⟨by kernel_rfl, ?_⟩) (by assumption) ?_
         rotate_left
         · (intro w hSw; (try dsimp only at hSw); go_simp; (try with_reducible rfl))
         (try simp only [Act.put, List.setIfInBounds_toArray, List.set_cons_zero, List.set_cons_succ]))
        (refine wpAnyH_ready (rs := [7]) (by kernel_rfl) (by simp) ?_)
        refine AllReadyH.cons rfl (fun K hK => ?_) AllReadyH.nil
        (go_simp
         (refine hK.out _ _ ?_ (fun hHeld => ?_)
          · (try dsimp only); try trivial
          clear hK K
          (try simp only [Act.put, List.setIfInBounds_toArray, List.set_cons_zero, List.set_cons_succ])))
        (refine wpAnyH_ready (rs := [8]) (by kernel_rfl) (by simp) ?_)
        refine AllReadyH.cons rfl (fun K hK => ?_) AllReadyH.nil
        (go_simp
         (refine hK.out _ _ ?_ (fun hHeld => ?_)
          · (try dsimp only); try trivial
          clear hK K
          (try simp only [Act.put, List.setIfInBounds_toArray, List.set_cons_zero, List.set_cons_succ])))
        (refine wpAnyH_ready (rs := [9]) (by kernel_rfl) (by simp) ?_)
        refine AllReadyH.cons rfl (fun K hK => ?_) AllReadyH.nil
        (go_simp
         (refine hK.out _ _ ?_ (fun hHeld => ?_)
          · (try dsimp only); try trivial
          clear hK K
          (try simp only [Act.put, List.setIfInBounds_toArray, List.set_cons_zero, List.set_cons_succ])))
        (refine wpAnyH_ready (rs := [10]) (by kernel_rfl) (by simp) ?_)
        refine AllReadyH.cons rfl (fun K hK => ?_) AllReadyH.nil
        (go_simp
         (refine hK.out _ _ ?_ (fun hHeld => ?_)
          · (try dsimp only); try trivial
          clear hK K
          (try simp only [Act.put, List.setIfInBounds_toArray, List.set_cons_zero, List.set_cons_succ])))
        refine wpAnyH_done (by kernel_rfl) ?_ _
        refine hK _ _ ?_
        refine ⟨rfl, ?_, ?_, ?_, ?_, ?_, ?_⟩
        · dsimp only; (repeat rw [Array.size_setIfInBounds]); exact hsT
        · dsimp only; (repeat rw [opq_ne _ _ _ _ _ (by decide)]); exact f1
        · dsimp only; (repeat rw [opq_ne _ _ _ _ _ (by decide)]); exact f16
        · dsimp only; (repeat rw [opq_ne _ _ _ _ _ (by decide)]); exact f19
        · dsimp only; rw [opq_at _ _ 359 _ _ (by (repeat rw [Array.size_setIfInBounds]); exact hsT) (by decide)]
        · exact (by repeat (first | with_reducible exact Ab.refl _ | with_reducible assumption | with_reducible refine Ab.drew ?_ | with_reducible refine Ab.drewN ?_ _ | with_reducible refine Ab.alloc ?_ _ | with_reducible refine Ab.trans ?_ (by assumption) | with_reducible refine Ab.set ?_ (by first | (simp; done) | omega | (simp; omega)) _))
      ·
        (go_simp
         (refine hK.out _ _ ?_ (fun hHeld => ?_)
          · (try dsimp only); try trivial
          clear hK K
          (try simp only [Act.put, List.setIfInBounds_toArray, List.set_cons_zero, List.set_cons_succ])))
        (refine wpAnyH_ready (rs := [2]) (by kernel_rfl) (by simp) ?_)
        refine (AllReadyH.cons rfl (fun K hK => ?_) AllReadyH.nil)
        ·
          go_simp
          (go_at_call 11)
          refine (wappend_n Da Ea ca da ra.dev.s ra.dev.t ra.dev.cap ra.dev.down ra.first ra.next _ (pa.rb.zero.ab (by repeat (first | with_reducible exact Ab.refl _ | with_reducible assumption | with_reducible refine Ab.drew ?_ | with_reducible refine Ab.drewN ?_ _ | with_reducible refine Ab.alloc ?_ _ | with_reducible refine Ab.trans ?_ (by assumption) | with_reducible refine Ab.set ?_ (by first | (simp; done) | omega | (simp; omega)) _))) (sa.rb.zero.ab (by repeat (first | with_reducible exact Ab.refl _ | with_reducible assumption | with_reducible refine Ab.drew ?_ | with_reducible refine Ab.drewN ?_ _ | with_reducible refine Ab.alloc ?_ _ | with_reducible refine Ab.trans ?_ (by assumption) | with_reducible refine Ab.set ?_ (by first | (simp; done) | omega | (simp; omega)) _))) pa.le sa.le La.1 La.2 (some [WalEx.r5, WalEx.r6]) ga (some ⟨wr.heap.size, 0, none⟩) 1000 b2 1000 kk2.out ((yy2.out _ _ (0, 0) (by (repeat (first | exact new_plain (by first | (simp; done) | omega | (simp; omega)) | with_reducible refine old_alloc ?_ | with_reducible refine old_drew ?_ | with_reducible refine old_set ?_ (by first | (simp; done) | omega | (simp; omega)) | with_reducible refine old_ab (by assumption) ?_))))) (by omega) (by omega)).mono ?_
          rintro e wb ⟨rb, nb, eb, Db, Eb, cb, db, hb, rfl, pb, sb, hbb⟩
          have hmb := hb.out.trans ((congrArg (fun l => Wal.append l b2 (some [WalEx.r5, WalEx.r6])) Ha.out).trans (WalEx.nm_h b2 kk2.out))
          have hnb := (Prod.mk.inj hmb).2
          obtain ⟨rfl, rfl⟩ := Prod.mk.inj hnb
          clear hb hmb pb sb
          have zb := hbb.size
          (try simp at zb)
          have xq0 : wb.cell? ⟨wa.heap.size, 0, none⟩ = some (.slice none 0 0) := hbb.at (by (repeat (first | with_reducible assumption | (simp [go_sem]; done) | with_reducible apply cell_alloc | with_reducible apply cell_drew | with_reducible apply cell_drewN | (with_reducible apply Ab.at; with_reducible assumption) | (with_reducible refine cell_set ?_ ?_; rotate_left; focus (first | (simp; done) | (simp; omega))) | (with_reducible refine cell_setb ?_ ?_; rotate_left; focus (first | omega | (simp only; omega) | (simp; omega)))))); have xq1 : wb.cell? ⟨wa.heap.size, 1, none⟩ = some (.slice none 0 0) := hbb.at (by (repeat (first | with_reducible assumption | (simp [go_sem]; done) | with_reducible apply cell_alloc | with_reducible apply cell_drew | with_reducible apply cell_drewN | (with_reducible apply Ab.at; with_reducible assumption) | (with_reducible refine cell_set ?_ ?_; rotate_left; focus (first | (simp; done) | (simp; omega))) | (with_reducible refine cell_setb ?_ ?_; rotate_left; focus (first | omega | (simp only; omega) | (simp; omega)))))); have xq2 : wb.cell? ⟨wa.heap.size, 2, none⟩ = some (.int .i64 0) := hbb.at (by (repeat (first | with_reducible assumption | (simp [go_sem]; done) | with_reducible apply cell_alloc | with_reducible apply cell_drew | with_reducible apply cell_drewN | (with_reducible apply Ab.at; with_reducible assumption) | (with_reducible refine cell_set ?_ ?_; rotate_left; focus (first | (simp; done) | (simp; omega))) | (with_reducible refine cell_setb ?_ ?_; rotate_left; focus (first | omega | (simp only; omega) | (simp; omega)))))); have xq3 : wb.cell? ⟨wa.heap.size, 3, none⟩ = some (.bool false) := hbb.at (by (repeat (first | with_reducible assumption | (simp [go_sem]; done) | with_reducible apply cell_alloc | with_reducible apply cell_drew | with_reducible apply cell_drewN | (with_reducible apply Ab.at; with_reducible assumption) | (with_reducible refine cell_set ?_ ?_; rotate_left; focus (first | (simp; done) | (simp; omega))) | (with_reducible refine cell_setb ?_ ?_; rotate_left; focus (first | omega | (simp only; omega) | (simp; omega)))))); have xq4 : wb.cell? ⟨wa.heap.size, 4, none⟩ = some (.int .i64 0) := hbb.at (by (repeat (first | with_reducible assumption | (simp [go_sem]; done) | with_reducible apply cell_alloc | with_reducible apply cell_drew | with_reducible apply cell_drewN | (with_reducible apply Ab.at; with_reducible assumption) | (with_reducible refine cell_set ?_ ?_; rotate_left; focus (first | (simp; done) | (simp; omega))) | (with_reducible refine cell_setb ?_ ?_; rotate_left; focus (first | omega | (simp only; omega) | (simp; omega)))))); have xq5 : wb.cell? ⟨wa.heap.size, 5, none⟩ = some (.int .i64 0) := hbb.at (by (repeat (first | with_reducible assumption | (simp [go_sem]; done) | with_reducible apply cell_alloc | with_reducible apply cell_drew | with_reducible apply cell_drewN | (with_reducible apply Ab.at; with_reducible assumption) | (with_reducible refine cell_set ?_ ?_; rotate_left; focus (first | (simp; done) | (simp; omega))) | (with_reducible refine cell_setb ?_ ?_; rotate_left; focus (first | omega | (simp only; omega) | (simp; omega))))))
          have xr0 : wb.frozen? ⟨wa.heap.size, 0, none⟩ = false := (hbb.frozen (p := ⟨wa.heap.size, 0, none⟩) (by first | (simp; done) | omega | (simp; omega))).trans (by (repeat (first | with_reducible assumption | (simp [go_sem]; done) | (with_reducible refine fr_alloc ?_ ?_; focus (first | (simp; done) | omega | (simp; omega))) | (with_reducible refine Ab.fr (by assumption) ?_ ?_; focus (first | (simp; done) | omega | (simp; omega)))))); have xr1 : wb.frozen? ⟨wa.heap.size, 1, none⟩ = false := (hbb.frozen (p := ⟨wa.heap.size, 1, none⟩) (by first | (simp; done) | omega | (simp; omega))).trans (by (repeat (first | with_reducible assumption | (simp [go_sem]; done) | (with_reducible refine fr_alloc ?_ ?_; focus (first | (simp; done) | omega | (simp; omega))) | (with_reducible refine Ab.fr (by assumption) ?_ ?_; focus (first | (simp; done) | omega | (simp; omega)))))); have xr2 : wb.frozen? ⟨wa.heap.size, 2, none⟩ = false := (hbb.frozen (p := ⟨wa.heap.size, 2, none⟩) (by first | (simp; done) | omega | (simp; omega))).trans (by (repeat (first | with_reducible assumption | (simp [go_sem]; done) | (with_reducible refine fr_alloc ?_ ?_; focus (first | (simp; done) | omega | (simp; omega))) | (with_reducible refine Ab.fr (by assumption) ?_ ?_; focus (first | (simp; done) | omega | (simp; omega)))))); have xr3 : wb.frozen? ⟨wa.heap.size, 3, none⟩ = false := (hbb.frozen (p := ⟨wa.heap.size, 3, none⟩) (by first | (simp; done) | omega | (simp; omega))).trans (by (repeat (first | with_reducible assumption | (simp [go_sem]; done) | (with_reducible refine fr_alloc ?_ ?_; focus (first | (simp; done) | omega | (simp; omega))) | (with_reducible refine Ab.fr (by assumption) ?_ ?_; focus (first | (simp; done) | omega | (simp; omega)))))); have xr4 : wb.frozen? ⟨wa.heap.size, 4, none⟩ = false := (hbb.frozen (p := ⟨wa.heap.size, 4, none⟩) (by first | (simp; done) | omega | (simp; omega))).trans (by (repeat (first | with_reducible assumption | (simp [go_sem]; done) | (with_reducible refine fr_alloc ?_ ?_; focus (first | (simp; done) | omega | (simp; omega))) | (with_reducible refine Ab.fr (by assumption) ?_ ?_; focus (first | (simp; done) | omega | (simp; omega)))))); have xr5 : wb.frozen? ⟨wa.heap.size, 5, none⟩ = false := (hbb.frozen (p := ⟨wa.heap.size, 5, none⟩) (by first | (simp; done) | omega | (simp; omega))).trans (by (repeat (first | with_reducible assumption | (simp [go_sem]; done) | (with_reducible refine fr_alloc ?_ ?_; focus (first | (simp; done) | omega | (simp; omega))) | (with_reducible refine Ab.fr (by assumption) ?_ ?_; focus (first | (simp; done) | omega | (simp; omega))))))
          have xna := fun (o : Obj) (j : Nat) => World.cell?_alloc_lt wb o ⟨wa.heap.size, j, none⟩ (by first | (simp; done) | omega | (simp; omega))
          have xnb := fun (o : Obj) (j : Nat) => ((Ab.refl wb).alloc o).frozen (p := ⟨wa.heap.size, j, none⟩) (by first | (simp; done) | omega | (simp; omega))
          (try go_wp2_with fail)
          (refine hK.out _ _ ?_ (fun hHeld => ?_)
           · (try dsimp only); try trivial
           clear hK K
           (try simp only [Act.put, List.setIfInBounds_toArray, List.set_cons_zero, List.set_cons_succ]))
          (refine wpAnyH_take (i := 3) (v := ?_) rfl (by kernel_rfl) (by kernel_rfl) (by kernel_rfl) (fun _ _ _ h => h) (Or.inl ⟨by kernel_rfl, ?_⟩) (by assumption) ?_
           rotate_left
           · (intro w hSw; (try dsimp only at hSw); go_simp; (try with_reducible rfl))
           (try simp only [Act.put, List.setIfInBounds_toArray, List.set_cons_zero, List.set_cons_succ]))
          (refine wpAnyH_take (i := 4) (v := ?_) rfl (by kernel_rfl) (by kernel_rfl) (by kernel_rfl) (fun _ _ _ h => h) (Or.inl ⟨by kernel_rfl, ?_⟩) (by assumption) ?_
           rotate_left
           · (intro w hSw; (try dsimp only at hSw); go_simp; (try with_reducible rfl))
           (try simp only [Act.put, List.setIfInBounds_toArray, List.set_cons_zero, List.set_cons_succ]))
          (refine wpAnyH_take (i := 5) (v := ?_) rfl (by kernel_rfl) (by kernel_rfl) (by kernel_rfl) (fun _ _ _ h => h) (Or.inl ⟨by kernel_rfl, ?_⟩) (by assumption) ?_
           rotate_left
           · (intro w hSw; (try dsimp only at hSw); go_simp; (try with_reducible rfl))
           (try simp only [Act.put, List.setIfInBounds_toArray, List.set_cons_zero, List.set_cons_succ]))
          (refine wpAnyH_take (i := 6) (v := ?_) rfl (by kernel_rfl) (by kernel_rfl) (by kernel_rfl) (fun _ _ _ h => h) (Or.inl ⟨by kernel_rfl, ?_⟩) (by assumption) ?_
           rotate_left
           · (intro w hSw; (try dsimp only at hSw); go_simp; (try with_reducible rfl))
           (try simp only [Act.put, List.setIfInBounds_toArray, List.set_cons_zero, List.set_cons_succ]))
          (refine wpAnyH_ready (rs := [8]) (by kernel_rfl) (by simp) ?_)
          refine AllReadyH.cons rfl (fun K hK => ?_) AllReadyH.nil
          (go_simp
           (refine hK.out _ _ ?_ (fun hHeld => ?_)
            · (try dsimp only); try trivial
            clear hK K
            (try simp only [Act.put, List.setIfInBounds_toArray, List.set_cons_zero, List.set_cons_succ])))
          (refine wpAnyH_ready (rs := [9]) (by kernel_rfl) (by simp) ?_)
          refine AllReadyH.cons rfl (fun K hK => ?_) AllReadyH.nil
          (go_simp
           (refine hK.out _ _ ?_ (fun hHeld => ?_)
            · (try dsimp only); try trivial
            clear hK K
            (try simp only [Act.put, List.setIfInBounds_toArray, List.set_cons_zero, List.set_cons_succ])))
          (refine wpAnyH_ready (rs := [10]) (by kernel_rfl) (by simp) ?_)
          refine AllReadyH.cons rfl (fun K hK => ?_) AllReadyH.nil
          (go_simp
           (refine hK.out _ _ ?_ (fun hHeld => ?_)
            · (try dsimp only); try trivial
            clear hK K
            (try simp only [Act.put, List.setIfInBounds_toArray, List.set_cons_zero, List.set_cons_succ])))
          refine wpAnyH_done (by kernel_rfl) ?_ _
          refine hK _ _ ?_
          refine ⟨rfl, ?_, ?_, ?_, ?_, ?_, ?_⟩
          · dsimp only; (repeat rw [Array.size_setIfInBounds]); exact hsT
          · dsimp only; (repeat rw [opq_ne _ _ _ _ _ (by decide)]); exact f1
          · dsimp only; (repeat rw [opq_ne _ _ _ _ _ (by decide)]); exact f16
          · dsimp only; (repeat rw [opq_ne _ _ _ _ _ (by decide)]); exact f19
          · dsimp only; rw [opq_at _ _ 359 _ _ (by (repeat rw [Array.size_setIfInBounds]); exact hsT) (by decide)]
          · exact (by repeat (first | with_reducible exact Ab.refl _ | with_reducible assumption | with_reducible refine Ab.drew ?_ | with_reducible refine Ab.drewN ?_ _ | with_reducible refine Ab.alloc ?_ _ | with_reducible refine Ab.trans ?_ (by assumption) | with_reducible refine Ab.set ?_ (by first | (simp; done) | omega | (simp; omega)) _))
    ·
      (go_simp
       (refine hK.out _ _ ?_ (fun hHeld => ?_)
        · (try dsimp only); try trivial
        clear hK K
        (try simp only [Act.put, List.setIfInBounds_toArray, List.set_cons_zero, List.set_cons_succ])))
      (refine wpAnyH_ready (rs := [0]) (by kernel_rfl) (by simp) ?_)
      refine (AllReadyH.cons rfl (fun K hK => ?_) AllReadyH.nil)
      ·
        go_simp
        (go_at_call 13)
        refine (given_false _).mono ?_
        rintro e wa ⟨ra, Da, Ea, ca, da, Ha, rfl, pa, sa, hba⟩
        have ga : Wal.Good ra [WalEx.r5, WalEx.r6] := by rw [Ha.out]; exact WalEx.good_56
        have La := good_lens ga
        have za := hba.size
        (try simp at za)
        have yq0 : wa.cell? ⟨wr.heap.size + 1, 0, none⟩ = some (.slice none 0 0) := hba.at (by (repeat (first | with_reducible assumption | (simp [go_sem]; done) | with_reducible apply cell_alloc | with_reducible apply cell_drew | with_reducible apply cell_drewN | (with_reducible apply Ab.at; with_reducible assumption) | (with_reducible refine cell_set ?_ ?_; rotate_left; focus (first | (simp; done) | (simp; omega))) | (with_reducible refine cell_setb ?_ ?_; rotate_left; focus (first | omega | (simp only; omega) | (simp; omega)))))); have yq1 : wa.cell? ⟨wr.heap.size + 1, 1, none⟩ = some (.slice none 0 0) := hba.at (by (repeat (first | with_reducible assumption | (simp [go_sem]; done) | with_reducible apply cell_alloc | with_reducible apply cell_drew | with_reducible apply cell_drewN | (with_reducible apply Ab.at; with_reducible assumption) | (with_reducible refine cell_set ?_ ?_; rotate_left; focus (first | (simp; done) | (simp; omega))) | (with_reducible refine cell_setb ?_ ?_; rotate_left; focus (first | omega | (simp only; omega) | (simp; omega)))))); have yq2 : wa.cell? ⟨wr.heap.size + 1, 2, none⟩ = some (.int .i64 0) := hba.at (by (repeat (first | with_reducible assumption | (simp [go_sem]; done) | with_reducible apply cell_alloc | with_reducible apply cell_drew | with_reducible apply cell_drewN | (with_reducible apply Ab.at; with_reducible assumption) | (with_reducible refine cell_set ?_ ?_; rotate_left; focus (first | (simp; done) | (simp; omega))) | (with_reducible refine cell_setb ?_ ?_; rotate_left; focus (first | omega | (simp only; omega) | (simp; omega)))))); have yq3 : wa.cell? ⟨wr.heap.size + 1, 3, none⟩ = some (.bool false) := hba.at (by (repeat (first | with_reducible assumption | (simp [go_sem]; done) | with_reducible apply cell_alloc | with_reducible apply cell_drew | with_reducible apply cell_drewN | (with_reducible apply Ab.at; with_reducible assumption) | (with_reducible refine cell_set ?_ ?_; rotate_left; focus (first | (simp; done) | (simp; omega))) | (with_reducible refine cell_setb ?_ ?_; rotate_left; focus (first | omega | (simp only; omega) | (simp; omega)))))); have yq4 : wa.cell? ⟨wr.heap.size + 1, 4, none⟩ = some (.int .i64 0) := hba.at (by (repeat (first | with_reducible assumption | (simp [go_sem]; done) | with_reducible apply cell_alloc | with_reducible apply cell_drew | with_reducible apply cell_drewN | (with_reducible apply Ab.at; with_reducible assumption) | (with_reducible refine cell_set ?_ ?_; rotate_left; focus (first | (simp; done) | (simp; omega))) | (with_reducible refine cell_setb ?_ ?_; rotate_left; focus (first | omega | (simp only; omega) | (simp; omega)))))); have yq5 : wa.cell? ⟨wr.heap.size + 1, 5, none⟩ = some (.int .i64 0) := hba.at (by (repeat (first | with_reducible assumption | (simp [go_sem]; done) | with_reducible apply cell_alloc | with_reducible apply cell_drew | with_reducible apply cell_drewN | (with_reducible apply Ab.at; with_reducible assumption) | (with_reducible refine cell_set ?_ ?_; rotate_left; focus (first | (simp; done) | (simp; omega))) | (with_reducible refine cell_setb ?_ ?_; rotate_left; focus (first | omega | (simp only; omega) | (simp; omega))))))
        have yr0 : wa.frozen? ⟨wr.heap.size + 1, 0, none⟩ = false := (hba.frozen (p := ⟨wr.heap.size + 1, 0, none⟩) (by first | (simp; done) | omega | (simp; omega))).trans (by (repeat (first | with_reducible assumption | (simp [go_sem]; done) | (with_reducible refine fr_alloc ?_ ?_; focus (first | (simp; done) | omega | (simp; omega))) | (with_reducible refine Ab.fr (by assumption) ?_ ?_; focus (first | (simp; done) | omega | (simp; omega)))))); have yr1 : wa.frozen? ⟨wr.heap.size + 1, 1, none⟩ = false := (hba.frozen (p := ⟨wr.heap.size + 1, 1, none⟩) (by first | (simp; done) | omega | (simp; omega))).trans (by (repeat (first | with_reducible assumption | (simp [go_sem]; done) | (with_reducible refine fr_alloc ?_ ?_; focus (first | (simp; done) | omega | (simp; omega))) | (with_reducible refine Ab.fr (by assumption) ?_ ?_; focus (first | (simp; done) | omega | (simp; omega)))))); have yr2 : wa.frozen? ⟨wr.heap.size + 1, 2, none⟩ = false := (hba.frozen (p := ⟨wr.heap.size + 1, 2, none⟩) (by first | (simp; done) | omega | (simp; omega))).trans (by (repeat (first | with_reducible assumption | (simp [go_sem]; done) | (with_reducible refine fr_alloc ?_ ?_; focus (first | (simp; done) | omega | (simp; omega))) | (with_reducible refine Ab.fr (by assumption) ?_ ?_; focus (first | (simp; done) | omega | (simp; omega)))))); have yr3 : wa.frozen? ⟨wr.heap.size + 1, 3, none⟩ = false := (hba.frozen (p := ⟨wr.heap.size + 1, 3, none⟩) (by first | (simp; done) | omega | (simp; omega))).trans (by (repeat (first | with_reducible assumption | (simp [go_sem]; done) | (with_reducible refine fr_alloc ?_ ?_; focus (first | (simp; done) | omega | (simp; omega))) | (with_reducible refine Ab.fr (by assumption) ?_ ?_; focus (first | (simp; done) | omega | (simp; omega)))))); have yr4 : wa.frozen? ⟨wr.heap.size + 1, 4, none⟩ = false := (hba.frozen (p := ⟨wr.heap.size + 1, 4, none⟩) (by first | (simp; done) | omega | (simp; omega))).trans (by (repeat (first | with_reducible assumption | (simp [go_sem]; done) | (with_reducible refine fr_alloc ?_ ?_; focus (first | (simp; done) | omega | (simp; omega))) | (with_reducible refine Ab.fr (by assumption) ?_ ?_; focus (first | (simp; done) | omega | (simp; omega)))))); have yr5 : wa.frozen? ⟨wr.heap.size + 1, 5, none⟩ = false := (hba.frozen (p := ⟨wr.heap.size + 1, 5, none⟩) (by first | (simp; done) | omega | (simp; omega))).trans (by (repeat (first | with_reducible assumption | (simp [go_sem]; done) | (with_reducible refine fr_alloc ?_ ?_; focus (first | (simp; done) | omega | (simp; omega))) | (with_reducible refine Ab.fr (by assumption) ?_ ?_; focus (first | (simp; done) | omega | (simp; omega))))))
        have yna := fun (o : Obj) (j : Nat) => World.cell?_alloc_lt wa o ⟨wr.heap.size + 1, j, none⟩ (by first | (simp; done) | omega | (simp; omega))
        have ynb := fun (o : Obj) (j : Nat) => ((Ab.refl wa).alloc o).frozen (p := ⟨wr.heap.size + 1, j, none⟩) (by first | (simp; done) | omega | (simp; omega))
        (try go_wp2_with fail)
        (refine hK.out _ _ ?_ (fun hHeld => ?_)
         · (try dsimp only); try trivial
         clear hK K
         (try simp only [Act.put, List.setIfInBounds_toArray, List.set_cons_zero, List.set_cons_succ]))
        (refine wpAnyH_ready (rs := [2]) (by kernel_rfl) (by simp) ?_)
        refine (AllReadyH.cons rfl (fun K hK => ?_) AllReadyH.nil)
        ·
          go_simp
          (go_at_call 11)
          refine (wappend_n Da Ea ca da ra.dev.s ra.dev.t ra.dev.cap ra.dev.down ra.first ra.next _ (pa.rb.zero.ab (by repeat (first | with_reducible exact Ab.refl _ | with_reducible assumption | with_reducible refine Ab.drew ?_ | with_reducible refine Ab.drewN ?_ _ | with_reducible refine Ab.alloc ?_ _ | with_reducible refine Ab.trans ?_ (by assumption) | with_reducible refine Ab.set ?_ (by first | (simp; done) | omega | (simp; omega)) _))) (sa.rb.zero.ab (by repeat (first | with_reducible exact Ab.refl _ | with_reducible assumption | with_reducible refine Ab.drew ?_ | with_reducible refine Ab.drewN ?_ _ | with_reducible refine Ab.alloc ?_ _ | with_reducible refine Ab.trans ?_ (by assumption) | with_reducible refine Ab.set ?_ (by first | (simp; done) | omega | (simp; omega)) _))) pa.le sa.le La.1 La.2 (some [WalEx.r5, WalEx.r6]) ga (some ⟨wr.heap.size, 0, none⟩) 1000 b2 1000 kk2.out ((yy2.out _ _ (0, 0) (by (repeat (first | exact new_plain (by first | (simp; done) | omega | (simp; omega)) | with_reducible refine old_alloc ?_ | with_reducible refine old_drew ?_ | with_reducible refine old_set ?_ (by first | (simp; done) | omega | (simp; omega)) | with_reducible refine old_ab (by assumption) ?_))))) (by omega) (by omega)).mono ?_
          rintro e wb ⟨rb, nb, eb, Db, Eb, cb, db, hb, rfl, pb, sb, hbb⟩
          have hmb := hb.out.trans ((congrArg (fun l => Wal.append l b2 (some [WalEx.r5, WalEx.r6])) Ha.out).trans (WalEx.nm_h b2 kk2.out))
          have hnb := (Prod.mk.inj hmb).2
          obtain ⟨rfl, rfl⟩ := Prod.mk.inj hnb
          clear hb hmb pb sb
          have zb := hbb.size
          (try simp at zb)
          have xq0 : wb.cell? ⟨wr.heap.size + 1, 0, none⟩ = some (.slice none 0 0) := hbb.at (by (repeat (first | with_reducible assumption | (simp [go_sem]; done) | with_reducible apply cell_alloc | with_reducible apply cell_drew | with_reducible apply cell_drewN | (with_reducible apply Ab.at; with_reducible assumption) | (with_reducible refine cell_set ?_ ?_; rotate_left; focus (first | (simp; done) | (simp; omega))) | (with_reducible refine cell_setb ?_ ?_; rotate_left; focus (first | omega | (simp only; omega) | (simp; omega)))))); have xq1 : wb.cell? ⟨wr.heap.size + 1, 1, none⟩ = some (.slice none 0 0) := hbb.at (by (repeat (first | with_reducible assumption | (simp [go_sem]; done) | with_reducible apply cell_alloc | with_reducible apply cell_drew | with_reducible apply cell_drewN | (with_reducible apply Ab.at; with_reducible assumption) | (with_reducible refine cell_set ?_ ?_; rotate_left; focus (first | (simp; done) | (simp; omega))) | (with_reducible refine cell_setb ?_ ?_; rotate_left; focus (first | omega | (simp only; omega) | (simp; omega)))))); have xq2 : wb.cell? ⟨wr.heap.size + 1, 2, none⟩ = some (.int .i64 0) := hbb.at (by (repeat (first | with_reducible assumption | (simp [go_sem]; done) | with_reducible apply cell_alloc | with_reducible apply cell_drew | with_reducible apply cell_drewN | (with_reducible apply Ab.at; with_reducible assumption) | (with_reducible refine cell_set ?_ ?_; rotate_left; focus (first | (simp; done) | (simp; omega))) | (with_reducible refine cell_setb ?_ ?_; rotate_left; focus (first | omega | (simp only; omega) | (simp; omega)))))); have xq3 : wb.cell? ⟨wr.heap.size + 1, 3, none⟩ = some (.bool false) := hbb.at (by (repeat (first | with_reducible assumption | (simp [go_sem]; done) | with_reducible apply cell_alloc | with_reducible apply cell_drew | with_reducible apply cell_drewN | (with_reducible apply Ab.at; with_reducible assumption) | (with_reducible refine cell_set ?_ ?_; rotate_left; focus (first | (simp; done) | (simp; omega))) | (with_reducible refine cell_setb ?_ ?_; rotate_left; focus (first | omega | (simp only; omega) | (simp; omega)))))); have xq4 : wb.cell? ⟨wr.heap.size + 1, 4, none⟩ = some (.int .i64 0) := hbb.at (by (repeat (first | with_reducible assumption | (simp [go_sem]; done) | with_reducible apply cell_alloc | with_reducible apply cell_drew | with_reducible apply cell_drewN | (with_reducible apply Ab.at; with_reducible assumption) | (with_reducible refine cell_set ?_ ?_; rotate_left; focus (first | (simp; done) | (simp; omega))) | (with_reducible refine cell_setb ?_ ?_; rotate_left; focus (first | omega | (simp only; omega) | (simp; omega)))))); have xq5 : wb.cell? ⟨wr.heap.size + 1, 5, none⟩ = some (.int .i64 0) := hbb.at (by (repeat (first | with_reducible assumption | (simp [go_sem]; done) | with_reducible apply cell_alloc | with_reducible apply cell_drew | with_reducible apply cell_drewN | (with_reducible apply Ab.at; with_reducible assumption) | (with_reducible refine cell_set ?_ ?_; rotate_left; focus (first | (simp; done) | (simp; omega))) | (with_reducible refine cell_setb ?_ ?_; rotate_left; focus (first | omega | (simp only; omega) | (simp; omega))))))
          have xr0 : wb.frozen? ⟨wr.heap.size + 1, 0, none⟩ = false := (hbb.frozen (p := ⟨wr.heap.size + 1, 0, none⟩) (by first | (simp; done) | omega | (simp; omega))).trans (by (repeat (first | with_reducible assumption | (simp [go_sem]; done) | (with_reducible refine fr_alloc ?_ ?_; focus (first | (simp; done) | omega | (simp; omega))) | (with_reducible refine Ab.fr (by assumption) ?_ ?_; focus (first | (simp; done) | omega | (simp; omega)))))); have xr1 : wb.frozen? ⟨wr.heap.size + 1, 1, none⟩ = false := (hbb.frozen (p := ⟨wr.heap.size + 1, 1, none⟩) (by first | (simp; done) | omega | (simp; omega))).trans (by (repeat (first | with_reducible assumption | (simp [go_sem]; done) | (with_reducible refine fr_alloc ?_ ?_; focus (first | (simp; done) | omega | (simp; omega))) | (with_reducible refine Ab.fr (by assumption) ?_ ?_; focus (first | (simp; done) | omega | (simp; omega)))))); have xr2 : wb.frozen? ⟨wr.heap.size + 1, 2, none⟩ = false := (hbb.frozen (p := ⟨wr.heap.size + 1, 2, none⟩) (by first | (simp; done) | omega | (simp; omega))).trans (by (repeat (first | with_reducible assumption | (simp [go_sem]; done) | (with_reducible refine fr_alloc ?_ ?_; focus (first | (simp; done) | omega | (simp; omega))) | (with_reducible refine Ab.fr (by assumption) ?_ ?_; focus (first | (simp; done) | omega | (simp; omega)))))); have xr3 : wb.frozen? ⟨wr.heap.size + 1, 3, none⟩ = false := (hbb.frozen (p := ⟨wr.heap.size + 1, 3, none⟩) (by first | (simp; done) | omega | (simp; omega))).trans (by (repeat (first | with_reducible assumption | (simp [go_sem]; done) | (with_reducible refine fr_alloc ?_ ?_; focus (first | (simp; done) | omega | (simp; omega))) | (with_reducible refine Ab.fr (by assumption) ?_ ?_; focus (first | (simp; done) | omega | (simp; omega)))))); have xr4 : wb.frozen? ⟨wr.heap.size + 1, 4, none⟩ = false := (hbb.frozen (p := ⟨wr.heap.size + 1, 4, none⟩) (by first | (simp; done) | omega | (simp; omega))).trans (by (repeat (first | with_reducible assumption | (simp [go_sem]; done) | (with_reducible refine fr_alloc ?_ ?_; focus (first | (simp; done) | omega | (simp; omega))) | (with_reducible refine Ab.fr (by assumption) ?_ ?_; focus (first | (simp; done) | omega | (simp; omega)))))); have xr5 : wb.frozen? ⟨wr.heap.size + 1, 5, none⟩ = false := (hbb.frozen (p := ⟨wr.heap.size + 1, 5, none⟩) (by first | (simp; done) | omega | (simp; omega))).trans (by (repeat (first | with_reducible assumption | (simp [go_sem]; done) | (with_reducible refine fr_alloc ?_ ?_; focus (first | (simp; done) | omega | (simp; omega))) | (with_reducible refine Ab.fr (by assumption) ?_ ?_; focus (first | (simp; done) | omega | (simp; omega))))))
          have xna := fun (o : Obj) (j : Nat) => World.cell?_alloc_lt wb o ⟨wr.heap.size + 1, j, none⟩ (by first | (simp; done) | omega | (simp; omega))
          have xnb := fun (o : Obj) (j : Nat) => ((Ab.refl wb).alloc o).frozen (p := ⟨wr.heap.size + 1, j, none⟩) (by first | (simp; done) | omega | (simp; omega))
          (try go_wp2_with fail)
          (refine hK.out _ _ ?_ (fun hHeld => ?_)
           · (try dsimp only); try trivial
           clear hK K
           (try simp only [Act.put, List.setIfInBounds_toArray, List.set_cons_zero, List.set_cons_succ]))
          (refine wpAnyH_take (i := 3) (v := ?_) rfl (by kernel_rfl) (by kernel_rfl) (by kernel_rfl) (fun _ _ _ h => h) (Or.inl ⟨by kernel_rfl, ?_⟩) (by assumption) ?_
           rotate_left
           · (intro w hSw; (try dsimp only at hSw); go_simp; (try with_reducible rfl))
           (try simp only [Act.put, List.setIfInBounds_toArray, List.set_cons_zero, List.set_cons_succ]))
          (refine wpAnyH_take (i := 4) (v := ?_) rfl (by kernel_rfl) (by kernel_rfl) (by kernel_rfl) (fun _ _ _ h => h) (Or.inl ⟨by kernel_rfl, ?_⟩) (by assumption) ?_
           rotate_left
           · (intro w hSw; (try dsimp only at hSw); go_simp; (try with_reducible rfl))
           (try simp only [Act.put, List.setIfInBounds_toArray, List.set_cons_zero, List.set_cons_succ]))
          (refine wpAnyH_take (i := 5) (v := ?_) rfl (by kernel_rfl) (by kernel_rfl) (by kernel_rfl) (fun _ _ _ h => h) (Or.inl ⟨by kernel_rfl, ?_⟩) (by assumption) ?_
           rotate_left
           · (intro w hSw; (try dsimp only at hSw); go_simp; (try with_reducible rfl))
           (try simp only [Act.put, List.setIfInBounds_toArray, List.set_cons_zero, List.set_cons_succ]))
          (refine wpAnyH_take (i := 6) (v := ?_) rfl (by kernel_rfl) (by kernel_rfl) (by kernel_rfl) (fun _ _ _ h => h) (Or.inl ⟨by kernel_rfl, ?_⟩) (by assumption) ?_
           rotate_left
           · (intro w hSw; (try dsimp only at hSw); go_simp; (try with_reducible rfl))
           (try simp only [Act.put, List.setIfInBounds_toArray, List.set_cons_zero, List.set_cons_succ]))
          (refine wpAnyH_ready (rs := [8]) (by kernel_rfl) (by simp) ?_)
          refine AllReadyH.cons rfl (fun K hK => ?_) AllReadyH.nil
          (go_simp
           (refine hK.out _ _ ?_ (fun hHeld => ?_)
            · (try dsimp only); try trivial
            clear hK K
            (try simp only [Act.put, List.setIfInBounds_toArray, List.set_cons_zero, List.set_cons_succ])))
          (refine wpAnyH_ready (rs := [9]) (by kernel_rfl) (by simp) ?_)
          refine AllReadyH.cons rfl (fun K hK => ?_) AllReadyH.nil
          (go_simp
           (refine hK.out _ _ ?_ (fun hHeld => ?_)
            · (try dsimp only); try trivial
            clear hK K
            (try simp only [Act.put, List.setIfInBounds_toArray, List.set_cons_zero, List.set_cons_succ])))
          (refine wpAnyH_ready (rs := [10]) (by kernel_rfl) (by simp) ?_)
          refine AllReadyH.cons rfl (fun K hK => ?_) AllReadyH.nil
          (go_simp
           (refine hK.out _ _ ?_ (fun hHeld => ?_)
            · (try dsimp only); try trivial
            clear hK K
            (try simp only [Act.put, List.setIfInBounds_toArray, List.set_cons_zero, List.set_cons_succ])))
          refine wpAnyH_done (by kernel_rfl) ?_ _
          refine hK _ _ ?_
          refine ⟨rfl, ?_, ?_, ?_, ?_, ?_, ?_⟩
          · dsimp only; (repeat rw [Array.size_setIfInBounds]); exact hsT
          · dsimp only; (repeat rw [opq_ne _ _ _ _ _ (by decide)]); exact f1
          · dsimp only; (repeat rw [opq_ne _ _ _ _ _ (by decide)]); exact f16
          · dsimp only; (repeat rw [opq_ne _ _ _ _ _ (by decide)]); exact f19
          · dsimp only; rw [opq_at _ _ 359 _ _ (by (repeat rw [Array.size_setIfInBounds]); exact hsT) (by decide)]
          · exact (by repeat (first | with_reducible exact Ab.refl _ | with_reducible assumption | with_reducible refine Ab.drew ?_ | with_reducible refine Ab.drewN ?_ _ | with_reducible refine Ab.alloc ?_ _ | with_reducible refine Ab.trans ?_ (by assumption) | with_reducible refine Ab.set ?_ (by first | (simp; done) | omega | (simp; omega)) _))
  ·
    (go_simp
     (refine hK.out _ _ ?_ (fun hHeld => ?_)
      · (try dsimp only); try trivial
      clear hK K
      (try simp only [Act.put, List.setIfInBounds_toArray, List.set_cons_zero, List.set_cons_succ])))
    (refine wpAnyH_ready (rs := [0, 1]) (by kernel_rfl) (by simp) ?_)
    refine (AllReadyH.cons rfl (fun K hK => ?_) (AllReadyH.cons rfl (fun K hK => ?_) AllReadyH.nil))
    ·
      go_simp
      (go_at_call 13)
      refine (given_false _).mono ?_
      rintro e wa ⟨ra, Da, Ea, ca, da, Ha, rfl, pa, sa, hba⟩
      have ga : Wal.Good ra [WalEx.r5, WalEx.r6] := by rw [Ha.out]; exact WalEx.good_56
      have La := good_lens ga
      have za := hba.size
      (try simp at za)
      have yq0 : wa.cell? ⟨wr.heap.size, 0, none⟩ = some (.slice none 0 0) := hba.at (by (repeat (first | with_reducible assumption | (simp [go_sem]; done) | with_reducible apply cell_alloc | with_reducible apply cell_drew | with_reducible apply cell_drewN | (with_reducible apply Ab.at; with_reducible assumption) | (with_reducible refine cell_set ?_ ?_; rotate_left; focus (first | (simp; done) | (simp; omega))) | (with_reducible refine cell_setb ?_ ?_; rotate_left; focus (first | omega | (simp only; omega) | (simp; omega)))))); have yq1 : wa.cell? ⟨wr.heap.size, 1, none⟩ = some (.slice none 0 0) := hba.at (by (repeat (first | with_reducible assumption | (simp [go_sem]; done) | with_reducible apply cell_alloc | with_reducible apply cell_drew | with_reducible apply cell_drewN | (with_reducible apply Ab.at; with_reducible assumption) | (with_reducible refine cell_set ?_ ?_; rotate_left; focus (first | (simp; done) | (simp; omega))) | (with_reducible refine cell_setb ?_ ?_; rotate_left; focus (first | omega | (simp only; omega) | (simp; omega)))))); have yq2 : wa.cell? ⟨wr.heap.size, 2, none⟩ = some (.int .i64 0) := hba.at (by (repeat (first | with_reducible assumption | (simp [go_sem]; done) | with_reducible apply cell_alloc | with_reducible apply cell_drew | with_reducible apply cell_drewN | (with_reducible apply Ab.at; with_reducible assumption) | (with_reducible refine cell_set ?_ ?_; rotate_left; focus (first | (simp; done) | (simp; omega))) | (with_reducible refine cell_setb ?_ ?_; rotate_left; focus (first | omega | (simp only; omega) | (simp; omega)))))); have yq3 : wa.cell? ⟨wr.heap.size, 3, none⟩ = some (.bool false) := hba.at (by (repeat (first | with_reducible assumption | (simp [go_sem]; done) | with_reducible apply cell_alloc | with_reducible apply cell_drew | with_reducible apply cell_drewN | (with_reducible apply Ab.at; with_reducible assumption) | (with_reducible refine cell_set ?_ ?_; rotate_left; focus (first | (simp; done) | (simp; omega))) | (with_reducible refine cell_setb ?_ ?_; rotate_left; focus (first | omega | (simp only; omega) | (simp; omega)))))); have yq4 : wa.cell? ⟨wr.heap.size, 4, none⟩ = some (.int .i64 0) := hba.at (by (repeat (first | with_reducible assumption | (simp [go_sem]; done) | with_reducible apply cell_alloc | with_reducible apply cell_drew | with_reducible apply cell_drewN | (with_reducible apply Ab.at; with_reducible assumption) | (with_reducible refine cell_set ?_ ?_; rotate_left; focus (first | (simp; done) | (simp; omega))) | (with_reducible refine cell_setb ?_ ?_; rotate_left; focus (first | omega | (simp only; omega) | (simp; omega)))))); have yq5 : wa.cell? ⟨wr.heap.size, 5, none⟩ = some (.int .i64 0) := hba.at (by (repeat (first | with_reducible assumption | (simp [go_sem]; done) | with_reducible apply cell_alloc | with_reducible apply cell_drew | with_reducible apply cell_drewN | (with_reducible apply Ab.at; with_reducible assumption) | (with_reducible refine cell_set ?_ ?_; rotate_left; focus (first | (simp; done) | (simp; omega))) | (with_reducible refine cell_setb ?_ ?_; rotate_left; focus (first | omega | (simp only; omega) | (simp; omega))))))
      have yr0 : wa.frozen? ⟨wr.heap.size, 0, none⟩ = false := (hba.frozen (p := ⟨wr.heap.size, 0, none⟩) (by first | (simp; done) | omega | (simp; omega))).trans (by (repeat (first | with_reducible assumption | (simp [go_sem]; done) | (with_reducible refine fr_alloc ?_ ?_; focus (first | (simp; done) | omega | (simp; omega))) | (with_reducible refine Ab.fr (by assumption) ?_ ?_; focus (first | (simp; done) | omega | (simp; omega)))))); have yr1 : wa.frozen? ⟨wr.heap.size, 1, none⟩ = false := (hba.frozen (p := ⟨wr.heap.size, 1, none⟩) (by first | (simp; done) | omega | (simp; omega))).trans (by (repeat (first | with_reducible assumption | (simp [go_sem]; done) | (with_reducible refine fr_alloc ?_ ?_; focus (first | (simp; done) | omega | (simp; omega))) | (with_reducible refine Ab.fr (by assumption) ?_ ?_; focus (first | (simp; done) | omega | (simp; omega)))))); have yr2 : wa.frozen? ⟨wr.heap.size, 2, none⟩ = false := (hba.frozen (p := ⟨wr.heap.size, 2, none⟩) (by first | (simp; done) | omega | (simp; omega))).trans (by (repeat (first | with_reducible assumption | (simp [go_sem]; done) | (with_reducible refine fr_alloc ?_ ?_; focus (first | (simp; done) | omega | (simp; omega))) | (with_reducible refine Ab.fr (by assumption) ?_ ?_; focus (first | (simp; done) | omega | (simp; omega)))))); have yr3 : wa.frozen? ⟨wr.heap.size, 3, none⟩ = false := (hba.frozen (p := ⟨wr.heap.size, 3, none⟩) (by first | (simp; done) | omega | (simp; omega))).trans (by (repeat (first | with_reducible assumption | (simp [go_sem]; done) | (with_reducible refine fr_alloc ?_ ?_; focus (first | (simp; done) | omega | (simp; omega))) | (with_reducible refine Ab.fr (by assumption) ?_ ?_; focus (first | (simp; done) | omega | (simp; omega)))))); have yr4 : wa.frozen? ⟨wr.heap.size, 4, none⟩ = false := (hba.frozen (p := ⟨wr.heap.size, 4, none⟩) (by first | (simp; done) | omega | (simp; omega))).trans (by (repeat (first | with_reducible assumption | (simp [go_sem]; done) | (with_reducible refine fr_alloc ?_ ?_; focus (first | (simp; done) | omega | (simp; omega))) | (with_reducible refine Ab.fr (by assumption) ?_ ?_; focus (first | (simp; done) | omega | (simp; omega)))))); have yr5 : wa.frozen? ⟨wr.heap.size, 5, none⟩ = false := (hba.frozen (p := ⟨wr.heap.size, 5, none⟩) (by first | (simp; done) | omega | (simp; omega))).trans (by (repeat (first | with_reducible assumption | (simp [go_sem]; done) | (with_reducible refine fr_alloc ?_ ?_; focus (first | (simp; done) | omega | (simp; omega))) | (with_reducible refine Ab.fr (by assumption) ?_ ?_; focus (first | (simp; done) | omega | (simp; omega))))))
      have yna := fun (o : Obj) (j : Nat) => World.cell?_alloc_lt wa o ⟨wr.heap.size, j, none⟩ (by first | (simp; done) | omega | (simp; omega))
      have ynb := fun (o : Obj) (j : Nat) => ((Ab.refl wa).alloc o).frozen (p := ⟨wr.heap.size, j, none⟩) (by first | (simp; done) | omega | (simp; omega))
      (try go_wp2_with fail)
      (refine hK.out _ _ ?_ (fun hHeld => ?_)
       · (try dsimp only); try trivial
       clear hK K
       (try simp only [Act.put, List.setIfInBounds_toArray, List.set_cons_zero, List.set_cons_succ]))
      (refine wpAnyH_ready (rs := [1]) (by kernel_rfl) (by simp) ?_)
      refine (AllReadyH.cons rfl (fun K hK => ?_) AllReadyH.nil)
      ·
        (go_simp
         (refine hK.out _ _ ?_ (fun hHeld => ?_)
          · (try dsimp only); try trivial
          clear hK K
          (try simp only [Act.put, List.setIfInBounds_toArray, List.set_cons_zero, List.set_cons_succ])))
        (refine wpAnyH_ready (rs := [2]) (by kernel_rfl) (by simp) ?_)
        refine (AllReadyH.cons rfl (fun K hK => ?_) AllReadyH.nil)
        ·
          go_simp
          (go_at_call 11)
          refine (wappend_n Da Ea ca da ra.dev.s ra.dev.t ra.dev.cap ra.dev.down ra.first ra.next _ (pa.rb.zero.ab (by repeat (first | with_reducible exact Ab.refl _ | with_reducible assumption | with_reducible refine Ab.drew ?_ | with_reducible refine Ab.drewN ?_ _ | with_reducible refine Ab.alloc ?_ _ | with_reducible refine Ab.trans ?_ (by assumption) | with_reducible refine Ab.set ?_ (by first | (simp; done) | omega | (simp; omega)) _))) (sa.rb.zero.ab (by repeat (first | with_reducible exact Ab.refl _ | with_reducible assumption | with_reducible refine Ab.drew ?_ | with_reducible refine Ab.drewN ?_ _ | with_reducible refine Ab.alloc ?_ _ | with_reducible refine Ab.trans ?_ (by assumption) | with_reducible refine Ab.set ?_ (by first | (simp; done) | omega | (simp; omega)) _))) pa.le sa.le La.1 La.2 (some [WalEx.r5, WalEx.r6]) ga (some ⟨wa.heap.size, 0, none⟩) 1000 b2 1000 kk2.out ((yy2.out _ _ (0, 0) (by (repeat (first | exact new_plain (by first | (simp; done) | omega | (simp; omega)) | with_reducible refine old_alloc ?_ | with_reducible refine old_drew ?_ | with_reducible refine old_set ?_ (by first | (simp; done) | omega | (simp; omega)) | with_reducible refine old_ab (by assumption) ?_))))) (by omega) (by omega)).mono ?_
          rintro e wb ⟨rb, nb, eb, Db, Eb, cb, db, hb, rfl, pb, sb, hbb⟩
          have hmb := hb.out.trans ((congrArg (fun l => Wal.append l b2 (some [WalEx.r5, WalEx.r6])) Ha.out).trans (WalEx.nm_h b2 kk2.out))
          have hnb := (Prod.mk.inj hmb).2
          obtain ⟨rfl, rfl⟩ := Prod.mk.inj hnb
          clear hb hmb pb sb
          have zb := hbb.size
          (try simp at zb)
          have xq0 : wb.cell? ⟨wr.heap.size, 0, none⟩ = some (.slice none 0 0) := hbb.at (by (repeat (first | with_reducible assumption | (simp [go_sem]; done) | with_reducible apply cell_alloc | with_reducible apply cell_drew | with_reducible apply cell_drewN | (with_reducible apply Ab.at; with_reducible assumption) | (with_reducible refine cell_set ?_ ?_; rotate_left; focus (first | (simp; done) | (simp; omega))) | (with_reducible refine cell_setb ?_ ?_; rotate_left; focus (first | omega | (simp only; omega) | (simp; omega)))))); have xq1 : wb.cell? ⟨wr.heap.size, 1, none⟩ = some (.slice none 0 0) := hbb.at (by (repeat (first | with_reducible assumption | (simp [go_sem]; done) | with_reducible apply cell_alloc | with_reducible apply cell_drew | with_reducible apply cell_drewN | (with_reducible apply Ab.at; with_reducible assumption) | (with_reducible refine cell_set ?_ ?_; rotate_left; focus (first | (simp; done) | (simp; omega))) | (with_reducible refine cell_setb ?_ ?_; rotate_left; focus (first | omega | (simp only; omega) | (simp; omega)))))); have xq2 : wb.cell? ⟨wr.heap.size, 2, none⟩ = some (.int .i64 0) := hbb.at (by (repeat (first | with_reducible assumption | (simp [go_sem]; done) | with_reducible apply cell_alloc | with_reducible apply cell_drew | with_reducible apply cell_drewN | (with_reducible apply Ab.at; with_reducible assumption) | (with_reducible refine cell_set ?_ ?_; rotate_left; focus (first | (simp; done) | (simp; omega))) | (with_reducible refine cell_setb ?_ ?_; rotate_left; focus (first | omega | (simp only; omega) | (simp; omega)))))); have xq3 : wb.cell? ⟨wr.heap.size, 3, none⟩ = some (.bool false) := hbb.at (by (repeat (first | with_reducible assumption | (simp [go_sem]; done) | with_reducible apply cell_alloc | with_reducible apply cell_drew | with_reducible apply cell_drewN | (with_reducible apply Ab.at; with_reducible assumption) | (with_reducible refine cell_set ?_ ?_; rotate_left; focus (first | (simp; done) | (simp; omega))) | (with_reducible refine cell_setb ?_ ?_; rotate_left; focus (first | omega | (simp only; omega) | (simp; omega)))))); have xq4 : wb.cell? ⟨wr.heap.size, 4, none⟩ = some (.int .i64 0) := hbb.at (by (repeat (first | with_reducible assumption | (simp [go_sem]; done) | with_reducible apply cell_alloc | with_reducible apply cell_drew | with_reducible apply cell_drewN | (with_reducible apply Ab.at; with_reducible assumption) | (with_reducible refine cell_set ?_ ?_; rotate_left; focus (first | (simp; done) | (simp; omega))) | (with_reducible refine cell_setb ?_ ?_; rotate_left; focus (first | omega | (simp only; omega) | (simp; omega)))))); have xq5 : wb.cell? ⟨wr.heap.size, 5, none⟩ = some (.int .i64 0) := hbb.at (by (repeat (first | with_reducible assumption | (simp [go_sem]; done) | with_reducible apply cell_alloc | with_reducible apply cell_drew | with_reducible apply cell_drewN | (with_reducible apply Ab.at; with_reducible assumption) | (with_reducible refine cell_set ?_ ?_; rotate_left; focus (first | (simp; done) | (simp; omega))) | (with_reducible refine cell_setb ?_ ?_; rotate_left; focus (first | omega | (simp only; omega) | (simp; omega))))))
          have xr0 : wb.frozen? ⟨wr.heap.size, 0, none⟩ = false := (hbb.frozen (p := ⟨wr.heap.size, 0, none⟩) (by first | (simp; done) | omega | (simp; omega))).trans (by (repeat (first | with_reducible assumption | (simp [go_sem]; done) | (with_reducible refine fr_alloc ?_ ?_; focus (first | (simp; done) | omega | (simp; omega))) | (with_reducible refine Ab.fr (by assumption) ?_ ?_; focus (first | (simp; done) | omega | (simp; omega)))))); have xr1 : wb.frozen? ⟨wr.heap.size, 1, none⟩ = false := (hbb.frozen (p := ⟨wr.heap.size, 1, none⟩) (by first | (simp; done) | omega | (simp; omega))).trans (by (repeat (first | with_reducible assumption | (simp [go_sem]; done) | (with_reducible refine fr_alloc ?_ ?_; focus (first | (simp; done) | omega | (simp; omega))) | (with_reducible refine Ab.fr (by assumption) ?_ ?_; focus (first | (simp; done) | omega | (simp; omega)))))); have xr2 : wb.frozen? ⟨wr.heap.size, 2, none⟩ = false := (hbb.frozen (p := ⟨wr.heap.size, 2, none⟩) (by first | (simp; done) | omega | (simp; omega))).trans (by (repeat (first | with_reducible assumption | (simp [go_sem]; done) | (with_reducible refine fr_alloc ?_ ?_; focus (first | (simp; done) | omega | (simp; omega))) | (with_reducible refine Ab.fr (by assumption) ?_ ?_; focus (first | (simp; done) | omega | (simp; omega)))))); have xr3 : wb.frozen? ⟨wr.heap.size, 3, none⟩ = false := (hbb.frozen (p := ⟨wr.heap.size, 3, none⟩) (by first | (simp; done) | omega | (simp; omega))).trans (by (repeat (first | with_reducible assumption | (simp [go_sem]; done) | (with_reducible refine fr_alloc ?_ ?_; focus (first | (simp; done) | omega | (simp; omega))) | (with_reducible refine Ab.fr (by assumption) ?_ ?_; focus (first | (simp; done) | omega | (simp; omega)))))); have xr4 : wb.frozen? ⟨wr.heap.size, 4, none⟩ = false := (hbb.frozen (p := ⟨wr.heap.size, 4, none⟩) (by first | (simp; done) | omega | (simp; omega))).trans (by (repeat (first | with_reducible assumption | (simp [go_sem]; done) | (with_reducible refine fr_alloc ?_ ?_; focus (first | (simp; done) | omega | (simp; omega))) | (with_reducible refine Ab.fr (by assumption) ?_ ?_; focus (first | (simp; done) | omega | (simp; omega)))))); have xr5 : wb.frozen? ⟨wr.heap.size, 5, none⟩ = false := (hbb.frozen (p := ⟨wr.heap.size, 5, none⟩) (by first | (simp; done) | omega | (simp; omega))).trans (by (repeat (first | with_reducible assumption | (simp [go_sem]; done) | (with_reducible refine fr_alloc ?_ ?_; focus (first | (simp; done) | omega | (simp; omega))) | (with_reducible refine Ab.fr (by assumption) ?_ ?_; focus (first | (simp; done) | omega | (simp; omega))))))
          have xna := fun (o : Obj) (j : Nat) => World.cell?_alloc_lt wb o ⟨wr.heap.size, j, none⟩ (by first | (simp; done) | omega | (simp; omega))
          have xnb := fun (o : Obj) (j : Nat) => ((Ab.refl wb).alloc o).frozen (p := ⟨wr.heap.size, j, none⟩) (by first | (simp; done) | omega | (simp; omega))
          (try go_wp2_with fail)
          (refine hK.out _ _ ?_ (fun hHeld => ?_)
           · (try dsimp only); try trivial
           clear hK K
           (try simp only [Act.put, List.setIfInBounds_toArray, List.set_cons_zero, List.set_cons_succ]))
          (refine wpAnyH_take (i := 3) (v := ?_) rfl (by kernel_rfl) (by kernel_rfl) (by kernel_rfl) (fun _ _ _ h => h) (Or.inl ⟨by kernel_rfl, ?_⟩) (by assumption) ?_
           rotate_left
           · (intro w hSw; (try dsimp only at hSw); go_simp; (try with_reducible rfl))
           (try simp only [Act.put, List.setIfInBounds_toArray, List.set_cons_zero, List.set_cons_succ]))
          (refine wpAnyH_take (i := 4) (v := ?_) rfl (by kernel_rfl) (by kernel_rfl) (by kernel_rfl) (fun _ _ _ h => h) (Or.inl ⟨by kernel_rfl, ?_⟩) (by assumption) ?_
           rotate_left
           · (intro w hSw; (try dsimp only at hSw); go_simp; (try with_reducible rfl))
           (try simp only [Act.put, List.setIfInBounds_toArray, List.set_cons_zero, List.set_cons_succ]))
          (refine wpAnyH_take (i := 5) (v := ?_) rfl (by kernel_rfl) (by kernel_rfl) (by kernel_rfl) (fun _ _ _ h => h) (Or.inl ⟨by kernel_rfl, ?_⟩) (by assumption) ?_
           rotate_left
           · (intro w hSw; (try dsimp only at hSw); go_simp; (try with_reducible rfl))
           (try simp only [Act.put, List.setIfInBounds_toArray, List.set_cons_zero, List.set_cons_succ]))
          (refine wpAnyH_take (i := 6) (v := ?_) rfl (by kernel_rfl) (by kernel_rfl) (by kernel_rfl) (fun _ _ _ h => h) (Or.inl ⟨by kernel_rfl, ?_⟩) (by assumption) ?_
           rotate_left
           · (intro w hSw; (try dsimp only at hSw); go_simp; (try with_reducible rfl))
           (try simp only [Act.put, List.setIfInBounds_toArray, List.set_cons_zero, List.set_cons_succ]))
          (refine wpAnyH_ready (rs := [8]) (by kernel_rfl) (by simp) ?_)
          refine AllReadyH.cons rfl (fun K hK => ?_) AllReadyH.nil
          (go_simp
           (refine hK.out _ _ ?_ (fun hHeld => ?_)
            · (try dsimp only); try trivial
            clear hK K
            (try simp only [Act.put, List.setIfInBounds_toArray, List.set_cons_zero, List.set_cons_succ])))
          (refine wpAnyH_ready (rs := [9]) (by kernel_rfl) (by simp) ?_)
          refine AllReadyH.cons rfl (fun K hK => ?_) AllReadyH.nil
          (go_simp
           (refine hK.out _ _ ?_ (fun hHeld => ?_)
            · (try dsimp only); try trivial
            clear hK K
            (try simp only [Act.put, List.setIfInBounds_toArray, List.set_cons_zero, List.set_cons_succ])))
          (refine wpAnyH_ready (rs := [10]) (by kernel_rfl) (by simp) ?_)
          refine AllReadyH.cons rfl (fun K hK => ?_) AllReadyH.nil
          (go_simp
           (refine hK.out _ _ ?_ (fun hHeld => ?_)
            · (try dsimp only); try trivial
            clear hK K
            (try simp only [Act.put, List.setIfInBounds_toArray, List.set_cons_zero, List.set_cons_succ])))
          refine wpAnyH_done (by kernel_rfl) ?_ _
          refine hK _ _ ?_
          refine ⟨rfl, ?_, ?_, ?_, ?_, ?_, ?_⟩
          · dsimp only; (repeat rw [Array.size_setIfInBounds]); exact hsT
          · dsimp only; (repeat rw [opq_ne _ _ _ _ _ (by decide)]); exact f1
          · dsimp only; (repeat rw [opq_ne _ _ _ _ _ (by decide)]); exact f16
          · dsimp only; (repeat rw [opq_ne _ _ _ _ _ (by decide)]); exact f19
          · dsimp only; rw [opq_at _ _ 359 _ _ (by (repeat rw [Array.size_setIfInBounds]); exact hsT) (by decide)]
          · exact (by repeat (first | with_reducible exact Ab.refl _ | with_reducible assumption | with_reducible refine Ab.drew ?_ | with_reducible refine Ab.drewN ?_ _ | with_reducible refine Ab.alloc ?_ _ | with_reducible refine Ab.trans ?_ (by assumption) | with_reducible refine Ab.set ?_ (by first | (simp; done) | omega | (simp; omega)) _))
    ·
      (go_simp
       (refine hK.out _ _ ?_ (fun hHeld => ?_)
        · (try dsimp only); try trivial
        clear hK K
        (try simp only [Act.put, List.setIfInBounds_toArray, List.set_cons_zero, List.set_cons_succ])))
      (refine wpAnyH_ready (rs := [0]) (by kernel_rfl) (by simp) ?_)
      refine (AllReadyH.cons rfl (fun K hK => ?_) AllReadyH.nil)
      ·
        go_simp
        (go_at_call 13)
        refine (given_false _).mono ?_
        rintro e wa ⟨ra, Da, Ea, ca, da, Ha, rfl, pa, sa, hba⟩
        have ga : Wal.Good ra [WalEx.r5, WalEx.r6] := by rw [Ha.out]; exact WalEx.good_56
        have La := good_lens ga
        have za := hba.size
        (try simp at za)
        have yq0 : wa.cell? ⟨wr.heap.size, 0, none⟩ = some (.slice none 0 0) := hba.at (by (repeat (first | with_reducible assumption | (simp [go_sem]; done) | with_reducible apply cell_alloc | with_reducible apply cell_drew | with_reducible apply cell_drewN | (with_reducible apply Ab.at; with_reducible assumption) | (with_reducible refine cell_set ?_ ?_; rotate_left; focus (first | (simp; done) | (simp; omega))) | (with_reducible refine cell_setb ?_ ?_; rotate_left; focus (first | omega | (simp only; omega) | (simp; omega)))))); have yq1 : wa.cell? ⟨wr.heap.size, 1, none⟩ = some (.slice none 0 0) := hba.at (by (repeat (first | with_reducible assumption | (simp [go_sem]; done) | with_reducible apply cell_alloc | with_reducible apply cell_drew | with_reducible apply cell_drewN | (with_reducible apply Ab.at; with_reducible assumption) | (with_reducible refine cell_set ?_ ?_; rotate_left; focus (first | (simp; done) | (simp; omega))) | (with_reducible refine cell_setb ?_ ?_; rotate_left; focus (first | omega | (simp only; omega) | (simp; omega)))))); have yq2 : wa.cell? ⟨wr.heap.size, 2, none⟩ = some (.int .i64 0) := hba.at (by (repeat (first | with_reducible assumption | (simp [go_sem]; done) | with_reducible apply cell_alloc | with_reducible apply cell_drew | with_reducible apply cell_drewN | (with_reducible apply Ab.at; with_reducible assumption) | (with_reducible refine cell_set ?_ ?_; rotate_left; focus (first | (simp; done) | (simp; omega))) | (with_reducible refine cell_setb ?_ ?_; rotate_left; focus (first | omega | (simp only; omega) | (simp; omega)))))); have yq3 : wa.cell? ⟨wr.heap.size, 3, none⟩ = some (.bool false) := hba.at (by (repeat (first | with_reducible assumption | (simp [go_sem]; done) | with_reducible apply cell_alloc | with_reducible apply cell_drew | with_reducible apply cell_drewN | (with_reducible apply Ab.at; with_reducible assumption) | (with_reducible refine cell_set ?_ ?_; rotate_left; focus (first | (simp; done) | (simp; omega))) | (with_reducible refine cell_setb ?_ ?_; rotate_left; focus (first | omega | (simp only; omega) | (simp; omega)))))); have yq4 : wa.cell? ⟨wr.heap.size, 4, none⟩ = some (.int .i64 0) := hba.at (by (repeat (first | with_reducible assumption | (simp [go_sem]; done) | with_reducible apply cell_alloc | with_reducible apply cell_drew | with_reducible apply cell_drewN | (with_reducible apply Ab.at; with_reducible assumption) | (with_reducible refine cell_set ?_ ?_; rotate_left; focus (first | (simp; done) | (simp; omega))) | (with_reducible refine cell_setb ?_ ?_; rotate_left; focus (first | omega | (simp only; omega) | (simp; omega)))))); have yq5 : wa.cell? ⟨wr.heap.size, 5, none⟩ = some (.int .i64 0) := hba.at (by (repeat (first | with_reducible assumption | (simp [go_sem]; done) | with_reducible apply cell_alloc | with_reducible apply cell_drew | with_reducible apply cell_drewN | (with_reducible apply Ab.at; with_reducible assumption) | (with_reducible refine cell_set ?_ ?_; rotate_left; focus (first | (simp; done) | (simp; omega))) | (with_reducible refine cell_setb ?_ ?_; rotate_left; focus (first | omega | (simp only; omega) | (simp; omega))))))
        have yr0 : wa.frozen? ⟨wr.heap.size, 0, none⟩ = false := (hba.frozen (p := ⟨wr.heap.size, 0, none⟩) (by first | (simp; done) | omega | (simp; omega))).trans (by (repeat (first | with_reducible assumption | (simp [go_sem]; done) | (with_reducible refine fr_alloc ?_ ?_; focus (first | (simp; done) | omega | (simp; omega))) | (with_reducible refine Ab.fr (by assumption) ?_ ?_; focus (first | (simp; done) | omega | (simp; omega)))))); have yr1 : wa.frozen? ⟨wr.heap.size, 1, none⟩ = false := (hba.frozen (p := ⟨wr.heap.size, 1, none⟩) (by first | (simp; done) | omega | (simp; omega))).trans (by (repeat (first | with_reducible assumption | (simp [go_sem]; done) | (with_reducible refine fr_alloc ?_ ?_; focus (first | (simp; done) | omega | (simp; omega))) | (with_reducible refine Ab.fr (by assumption) ?_ ?_; focus (first | (simp; done) | omega | (simp; omega)))))); have yr2 : wa.frozen? ⟨wr.heap.size, 2, none⟩ = false := (hba.frozen (p := ⟨wr.heap.size, 2, none⟩) (by first | (simp; done) | omega | (simp; omega))).trans (by (repeat (first | with_reducible assumption | (simp [go_sem]; done) | (with_reducible refine fr_alloc ?_ ?_; focus (first | (simp; done) | omega | (simp; omega))) | (with_reducible refine Ab.fr (by assumption) ?_ ?_; focus (first | (simp; done) | omega | (simp; omega)))))); have yr3 : wa.frozen? ⟨wr.heap.size, 3, none⟩ = false := (hba.frozen (p := ⟨wr.heap.size, 3, none⟩) (by first | (simp; done) | omega | (simp; omega))).trans (by (repeat (first | with_reducible assumption | (simp [go_sem]; done) | (with_reducible refine fr_alloc ?_ ?_; focus (first | (simp; done) | omega | (simp; omega))) | (with_reducible refine Ab.fr (by assumption) ?_ ?_; focus (first | (simp; done) | omega | (simp; omega)))))); have yr4 : wa.frozen? ⟨wr.heap.size, 4, none⟩ = false := (hba.frozen (p := ⟨wr.heap.size, 4, none⟩) (by first | (simp; done) | omega | (simp; omega))).trans (by (repeat (first | with_reducible assumption | (simp [go_sem]; done) | (with_reducible refine fr_alloc ?_ ?_; focus (first | (simp; done) | omega | (simp; omega))) | (with_reducible refine Ab.fr (by assumption) ?_ ?_; focus (first | (simp; done) | omega | (simp; omega)))))); have yr5 : wa.frozen? ⟨wr.heap.size, 5, none⟩ = false := (hba.frozen (p := ⟨wr.heap.size, 5, none⟩) (by first | (simp; done) | omega | (simp; omega))).trans (by (repeat (first | with_reducible assumption | (simp [go_sem]; done) | (with_reducible refine fr_alloc ?_ ?_; focus (first | (simp; done) | omega | (simp; omega))) | (with_reducible refine Ab.fr (by assumption) ?_ ?_; focus (first | (simp; done) | omega | (simp; omega))))))
        have yna := fun (o : Obj) (j : Nat) => World.cell?_alloc_lt wa o ⟨wr.heap.size, j, none⟩ (by first | (simp; done) | omega | (simp; omega))
        have ynb := fun (o : Obj) (j : Nat) => ((Ab.refl wa).alloc o).frozen (p := ⟨wr.heap.size, j, none⟩) (by first | (simp; done) | omega | (simp; omega))
        (try go_wp2_with fail)
        (refine hK.out _ _ ?_ (fun hHeld => ?_)
         · (try dsimp only); try trivial
         clear hK K
         (try simp only [Act.put, List.setIfInBounds_toArray, List.set_cons_zero, List.set_cons_succ]))
        (refine wpAnyH_ready (rs := [2]) (by kernel_rfl) (by simp) ?_)
        refine (AllReadyH.cons rfl (fun K hK => ?_) AllReadyH.nil)
        ·
          go_simp
          (go_at_call 11)
          refine (wappend_n Da Ea ca da ra.dev.s ra.dev.t ra.dev.cap ra.dev.down ra.first ra.next _ (pa.rb.zero.ab (by repeat (first | with_reducible exact Ab.refl _ | with_reducible assumption | with_reducible refine Ab.drew ?_ | with_reducible refine Ab.drewN ?_ _ | with_reducible refine Ab.alloc ?_ _ | with_reducible refine Ab.trans ?_ (by assumption) | with_reducible refine Ab.set ?_ (by first | (simp; done) | omega | (simp; omega)) _))) (sa.rb.zero.ab (by repeat (first | with_reducible exact Ab.refl _ | with_reducible assumption | with_reducible refine Ab.drew ?_ | with_reducible refine Ab.drewN ?_ _ | with_reducible refine Ab.alloc ?_ _ | with_reducible refine Ab.trans ?_ (by assumption) | with_reducible refine Ab.set ?_ (by first | (simp; done) | omega | (simp; omega)) _))) pa.le sa.le La.1 La.2 (some [WalEx.r5, WalEx.r6]) ga (some ⟨wr.heap.size + 1, 0, none⟩) 1000 b2 1000 kk2.out ((yy2.out _ _ (0, 0) (by (repeat (first | exact new_plain (by first | (simp; done) | omega | (simp; omega)) | with_reducible refine old_alloc ?_ | with_reducible refine old_drew ?_ | with_reducible refine old_set ?_ (by first | (simp; done) | omega | (simp; omega)) | with_reducible refine old_ab (by assumption) ?_))))) (by omega) (by omega)).mono ?_
          rintro e wb ⟨rb, nb, eb, Db, Eb, cb, db, hb, rfl, pb, sb, hbb⟩
          have hmb := hb.out.trans ((congrArg (fun l => Wal.append l b2 (some [WalEx.r5, WalEx.r6])) Ha.out).trans (WalEx.nm_h b2 kk2.out))
          have hnb := (Prod.mk.inj hmb).2
          obtain ⟨rfl, rfl⟩ := Prod.mk.inj hnb
          clear hb hmb pb sb
          have zb := hbb.size
          (try simp at zb)
          have xq0 : wb.cell? ⟨wr.heap.size, 0, none⟩ = some (.slice none 0 0) := hbb.at (by (repeat (first | with_reducible assumption | (simp [go_sem]; done) | with_reducible apply cell_alloc | with_reducible apply cell_drew | with_reducible apply cell_drewN | (with_reducible apply Ab.at; with_reducible assumption) | (with_reducible refine cell_set ?_ ?_; rotate_left; focus (first | (simp; done) | (simp; omega))) | (with_reducible refine cell_setb ?_ ?_; rotate_left; focus (first | omega | (simp only; omega) | (simp; omega)))))); have xq1 : wb.cell? ⟨wr.heap.size, 1, none⟩ = some (.slice none 0 0) := hbb.at (by (repeat (first | with_reducible assumption | (simp [go_sem]; done) | with_reducible apply cell_alloc | with_reducible apply cell_drew | with_reducible apply cell_drewN | (with_reducible apply Ab.at; with_reducible assumption) | (with_reducible refine cell_set ?_ ?_; rotate_left; focus (first | (simp; done) | (simp; omega))) | (with_reducible refine cell_setb ?_ ?_; rotate_left; focus (first | omega | (simp only; omega) | (simp; omega)))))); have xq2 : wb.cell? ⟨wr.heap.size, 2, none⟩ = some (.int .i64 0) := hbb.at (by (repeat (first | with_reducible assumption | (simp [go_sem]; done) | with_reducible apply cell_alloc | with_reducible apply cell_drew | with_reducible apply cell_drewN | (with_reducible apply Ab.at; with_reducible assumption) | (with_reducible refine cell_set ?_ ?_; rotate_left; focus (first | (simp; done) | (simp; omega))) | (with_reducible refine cell_setb ?_ ?_; rotate_left; focus (first | omega | (simp only; omega) | (simp; omega)))))); have xq3 : wb.cell? ⟨wr.heap.size, 3, none⟩ = some (.bool false) := hbb.at (by (repeat (first | with_reducible assumption | (simp [go_sem]; done) | with_reducible apply cell_alloc | with_reducible apply cell_drew | with_reducible apply cell_drewN | (with_reducible apply Ab.at; with_reducible assumption) | (with_reducible refine cell_set ?_ ?_; rotate_left; focus (first | (simp; done) | (simp; omega))) | (with_reducible refine cell_setb ?_ ?_; rotate_left; focus (first | omega | (simp only; omega) | (simp; omega)))))); have xq4 : wb.cell? ⟨wr.heap.size, 4, none⟩ = some (.int .i64 0) := hbb.at (by (repeat (first | with_reducible assumption | (simp [go_sem]; done) | with_reducible apply cell_alloc | with_reducible apply cell_drew | with_reducible apply cell_drewN | (with_reducible apply Ab.at; with_reducible assumption) | (with_reducible refine cell_set ?_ ?_; rotate_left; focus (first | (simp; done) | (simp; omega))) | (with_reducible refine cell_setb ?_ ?_; rotate_left; focus (first | omega | (simp only; omega) | (simp; omega)))))); have xq5 : wb.cell? ⟨wr.heap.size, 5, none⟩ = some (.int .i64 0) := hbb.at (by (repeat (first | with_reducible assumption | (simp [go_sem]; done) | with_reducible apply cell_alloc | with_reducible apply cell_drew | with_reducible apply cell_drewN | (with_reducible apply Ab.at; with_reducible assumption) | (with_reducible refine cell_set ?_ ?_; rotate_left; focus (first | (simp; done) | (simp; omega))) | (with_reducible refine cell_setb ?_ ?_; rotate_left; focus (first | omega | (simp only; omega) | (simp; omega))))))
          have xr0 : wb.frozen? ⟨wr.heap.size, 0, none⟩ = false := (hbb.frozen (p := ⟨wr.heap.size, 0, none⟩) (by first | (simp; done) | omega | (simp; omega))).trans (by (repeat (first | with_reducible assumption | (simp [go_sem]; done) | (with_reducible refine fr_alloc ?_ ?_; focus (first | (simp; done) | omega | (simp; omega))) | (with_reducible refine Ab.fr (by assumption) ?_ ?_; focus (first | (simp; done) | omega | (simp; omega)))))); have xr1 : wb.frozen? ⟨wr.heap.size, 1, none⟩ = false := (hbb.frozen (p := ⟨wr.heap.size, 1, none⟩) (by first | (simp; done) | omega | (simp; omega))).trans (by (repeat (first | with_reducible assumption | (simp [go_sem]; done) | (with_reducible refine fr_alloc ?_ ?_; focus (first | (simp; done) | omega | (simp; omega))) | (with_reducible refine Ab.fr (by assumption) ?_ ?_; focus (first | (simp; done) | omega | (simp; omega)))))); have xr2 : wb.frozen? ⟨wr.heap.size, 2, none⟩ = false := (hbb.frozen (p := ⟨wr.heap.size, 2, none⟩) (by first | (simp; done) | omega | (simp; omega))).trans (by (repeat (first | with_reducible assumption | (simp [go_sem]; done) | (with_reducible refine fr_alloc ?_ ?_; focus (first | (simp; done) | omega | (simp; omega))) | (with_reducible refine Ab.fr (by assumption) ?_ ?_; focus (first | (simp; done) | omega | (simp; omega)))))); have xr3 : wb.frozen? ⟨wr.heap.size, 3, none⟩ = false := (hbb.frozen (p := ⟨wr.heap.size, 3, none⟩) (by first | (simp; done) | omega | (simp; omega))).trans (by (repeat (first | with_reducible assumption | (simp [go_sem]; done) | (with_reducible refine fr_alloc ?_ ?_; focus (first | (simp; done) | omega | (simp; omega))) | (with_reducible refine Ab.fr (by assumption) ?_ ?_; focus (first | (simp; done) | omega | (simp; omega)))))); have xr4 : wb.frozen? ⟨wr.heap.size, 4, none⟩ = false := (hbb.frozen (p := ⟨wr.heap.size, 4, none⟩) (by first | (simp; done) | omega | (simp; omega))).trans (by (repeat (first | with_reducible assumption | (simp [go_sem]; done) | (with_reducible refine fr_alloc ?_ ?_; focus (first | (simp; done) | omega | (simp; omega))) | (with_reducible refine Ab.fr (by assumption) ?_ ?_; focus (first | (simp; done) | omega | (simp; omega)))))); have xr5 : wb.frozen? ⟨wr.heap.size, 5, none⟩ = false := (hbb.frozen (p := ⟨wr.heap.size, 5, none⟩) (by first | (simp; done) | omega | (simp; omega))).trans (by (repeat (first | with_reducible assumption | (simp [go_sem]; done) | (with_reducible refine fr_alloc ?_ ?_; focus (first | (simp; done) | omega | (simp; omega))) | (with_reducible refine Ab.fr (by assumption) ?_ ?_; focus (first | (simp; done) | omega | (simp; omega))))))
          have xna := fun (o : Obj) (j : Nat) => World.cell?_alloc_lt wb o ⟨wr.heap.size, j, none⟩ (by first | (simp; done) | omega | (simp; omega))
          have xnb := fun (o : Obj) (j : Nat) => ((Ab.refl wb).alloc o).frozen (p := ⟨wr.heap.size, j, none⟩) (by first | (simp; done) | omega | (simp; omega))
          (try go_wp2_with fail)
          (refine hK.out _ _ ?_ (fun hHeld => ?_)
           · (try dsimp only); try trivial
           clear hK K
           (try simp only [Act.put, List.setIfInBounds_toArray, List.set_cons_zero, List.set_cons_succ]))
          (refine wpAnyH_take (i := 3) (v := ?_) rfl (by kernel_rfl) (by kernel_rfl) (by kernel_rfl) (fun _ _ _ h => h) (Or.inl ⟨by kernel_rfl, ?_⟩) (by assumption) ?_
           rotate_left
           · (intro w hSw; (try dsimp only at hSw); go_simp; (try with_reducible rfl))
           (try simp only [Act.put, List.setIfInBounds_toArray, List.set_cons_zero, List.set_cons_succ]))
          (refine wpAnyH_take (i := 4) (v := ?_) rfl (by kernel_rfl) (by kernel_rfl) (by kernel_rfl) (fun _ _ _ h => h) (Or.inl ⟨by kernel_rfl, ?_⟩) (by assumption) ?_
           rotate_left
           · (intro w hSw; (try dsimp only at hSw); go_simp; (try with_reducible rfl))
           (try simp only [Act.put, List.setIfInBounds_toArray, List.set_cons_zero, List.set_cons_succ]))
          (refine wpAnyH_take (i := 5) (v := ?_) rfl (by kernel_rfl) (by kernel_rfl) (by kernel_rfl) (fun _ _ _ h => h) (Or.inl ⟨by kernel_rfl, ?_⟩) (by assumption) ?_
           rotate_left
           · (intro w hSw; (try dsimp only at hSw); go_simp; (try with_reducible rfl))
           (try simp only [Act.put, List.setIfInBounds_toArray, List.set_cons_zero, List.set_cons_succ]))
          (refine wpAnyH_take (i := 6) (v := ?_) rfl (by kernel_rfl) (by kernel_rfl) (by kernel_rfl) (fun _ _ _ h => h) (Or.inl ⟨by kernel_rfl, ?_⟩) (by assumption) ?_
           rotate_left
           · (intro w hSw; (try dsimp only at hSw); go_simp; (try with_reducible rfl))
           (try simp only [Act.put, List.setIfInBounds_toArray, List.set_cons_zero, List.set_cons_succ]))
          (refine wpAnyH_ready (rs := [8]) (by kernel_rfl) (by simp) ?_)
          refine AllReadyH.cons rfl (fun K hK => ?_) AllReadyH.nil
          (go_simp
           (refine hK.out _ _ ?_ (fun hHeld => ?_)
            · (try dsimp only); try trivial
            clear hK K
            (try simp only [Act.put, List.setIfInBounds_toArray, List.set_cons_zero, List.set_cons_succ])))
          (refine wpAnyH_ready (rs := [9]) (by kernel_rfl) (by simp) ?_)
          refine AllReadyH.cons rfl (fun K hK => ?_) AllReadyH.nil
          (go_simp
           (refine hK.out _ _ ?_ (fun hHeld => ?_)
            · (try dsimp only); try trivial
            clear hK K
            (try simp only [Act.put, List.setIfInBounds_toArray, List.set_cons_zero, List.set_cons_succ])))
          (refine wpAnyH_ready (rs := [10]) (by kernel_rfl) (by simp) ?_)
          refine AllReadyH.cons rfl (fun K hK => ?_) AllReadyH.nil
          (go_simp
           (refine hK.out _ _ ?_ (fun hHeld => ?_)
            · (try dsimp only); try trivial
            clear hK K
            (try simp only [Act.put, List.setIfInBounds_toArray, List.set_cons_zero, List.set_cons_succ])))
          refine wpAnyH_done (by kernel_rfl) ?_ _
          refine hK _ _ ?_
          refine ⟨rfl, ?_, ?_, ?_, ?_, ?_, ?_⟩
          · dsimp only; (repeat rw [Array.size_setIfInBounds]); exact hsT
          · dsimp only; (repeat rw [opq_ne _ _ _ _ _ (by decide)]); exact f1
          · dsimp only; (repeat rw [opq_ne _ _ _ _ _ (by decide)]); exact f16
          · dsimp only; (repeat rw [opq_ne _ _ _ _ _ (by decide)]); exact f19
          · dsimp only; rw [opq_at _ _ 359 _ _ (by (repeat rw [Array.size_setIfInBounds]); exact hsT) (by decide)]
          · exact (by repeat (first | with_reducible exact Ab.refl _ | with_reducible assumption | with_reducible refine Ab.drew ?_ | with_reducible refine Ab.drewN ?_ _ | with_reducible refine Ab.alloc ?_ _ | with_reducible refine Ab.trans ?_ (by assumption) | with_reducible refine Ab.set ?_ (by first | (simp; done) | omega | (simp; omega)) _))
set_option maxRecDepth 1000000 in
theorem lit_359 (g : Nat → Value) : (List.range 359).map g = g 0 :: g 1 :: g 2 :: g 3 :: g 4 :: g 5 :: g 6 :: g 7 :: g 8 :: g 9 :: g 10 :: g 11 :: g 12 :: g 13 :: g 14 :: g 15 :: g 16 :: g 17 :: g 18 :: g 19 :: g 20 :: g 21 :: g 22 :: g 23 :: g 24 :: g 25 :: g 26 :: g 27 :: g 28 :: g 29 :: g 30 :: g 31 :: g 32 :: g 33 :: g 34 :: g 35 :: g 36 :: g 37 :: g 38 :: g 39 :: g 40 :: g 41 :: g 42 :: g 43 :: g 44 :: g 45 :: g 46 :: g 47 :: g 48 :: g 49 :: g 50 :: g 51 :: g 52 :: g 53 :: g 54 :: g 55 :: g 56 :: g 57 :: g 58 :: g 59 :: g 60 :: g 61 :: g 62 :: g 63 :: g 64 :: g 65 :: g 66 :: g 67 :: g 68 :: g 69 :: g 70 :: g 71 :: g 72 :: g 73 :: g 74 :: g 75 :: g 76 :: g 77 :: g 78 :: g 79 :: g 80 :: g 81 :: g 82 :: g 83 :: g 84 :: g 85 :: g 86 :: g 87 :: g 88 :: g 89 :: g 90 :: g 91 :: g 92 :: g 93 :: g 94 :: g 95 :: g 96 :: g 97 :: g 98 :: g 99 :: g 100 :: g 101 :: g 102 :: g 103 :: g 104 :: g 105 :: g 106 :: g 107 :: g 108 :: g 109 :: g 110 :: g 111 :: g 112 :: g 113 :: g 114 :: g 115 :: g 116 :: g 117 :: g 118 :: g 119 :: g 120 :: g 121 :: g 122 :: g 123 :: g 124 :: g 125 :: g 126 :: g 127 :: g 128 :: g 129 :: g 130 :: g 131 :: g 132 :: g 133 :: g 134 :: g 135 :: g 136 :: g 137 :: g 138 :: g 139 :: g 140 :: g 141 :: g 142 :: g 143 :: g 144 :: g 145 :: g 146 :: g 147 :: g 148 :: g 149 :: g 150 :: g 151 :: g 152 :: g 153 :: g 154 :: g 155 :: g 156 :: g 157 :: g 158 :: g 159 :: g 160 :: g 161 :: g 162 :: g 163 :: g 164 :: g 165 :: g 166 :: g 167 :: g 168 :: g 169 :: g 170 :: g 171 :: g 172 :: g 173 :: g 174 :: g 175 :: g 176 :: g 177 :: g 178 :: g 179 :: g 180 :: g 181 :: g 182 :: g 183 :: g 184 :: g 185 :: g 186 :: g 187 :: g 188 :: g 189 :: g 190 :: g 191 :: g 192 :: g 193 :: g 194 :: g 195 :: g 196 :: g 197 :: g 198 :: g 199 :: g 200 :: g 201 :: g 202 :: g 203 :: g 204 :: g 205 :: g 206 :: g 207 :: g 208 :: g 209 :: g 210 :: g 211 :: g 212 :: g 213 :: g 214 :: g 215 :: g 216 :: g 217 :: g 218 :: g 219 :: g 220 :: g 221 :: g 222 :: g 223 :: g 224 :: g 225 :: g 226 :: g 227 :: g 228 :: g 229 :: g 230 :: g 231 :: g 232 :: g 233 :: g 234 :: g 235 :: g 236 :: g 237 :: g 238 :: g 239 :: g 240 :: g 241 :: g 242 :: g 243 :: g 244 :: g 245 :: g 246 :: g 247 :: g 248 :: g 249 :: g 250 :: g 251 :: g 252 :: g 253 :: g 254 :: g 255 :: g 256 :: g 257 :: g 258 :: g 259 :: g 260 :: g 261 :: g 262 :: g 263 :: g 264 :: g 265 :: g 266 :: g 267 :: g 268 :: g 269 :: g 270 :: g 271 :: g 272 :: g 273 :: g 274 :: g 275 :: g 276 :: g 277 :: g 278 :: g 279 :: g 280 :: g 281 :: g 282 :: g 283 :: g 284 :: g 285 :: g 286 :: g 287 :: g 288 :: g 289 :: g 290 :: g 291 :: g 292 :: g 293 :: g 294 :: g 295 :: g 296 :: g 297 :: g 298 :: g 299 :: g 300 :: g 301 :: g 302 :: g 303 :: g 304 :: g 305 :: g 306 :: g 307 :: g 308 :: g 309 :: g 310 :: g 311 :: g 312 :: g 313 :: g 314 :: g 315 :: g 316 :: g 317 :: g 318 :: g 319 :: g 320 :: g 321 :: g 322 :: g 323 :: g 324 :: g 325 :: g 326 :: g 327 :: g 328 :: g 329 :: g 330 :: g 331 :: g 332 :: g 333 :: g 334 :: g 335 :: g 336 :: g 337 :: g 338 :: g 339 :: g 340 :: g 341 :: g 342 :: g 343 :: g 344 :: g 345 :: g 346 :: g 347 :: g 348 :: g 349 :: g 350 :: g 351 :: g 352 :: g 353 :: g 354 :: g 355 :: g 356 :: g 357 :: g 358 :: [] := by rfl

end Go.Proofs.Ytehagdpcegpbjaa
