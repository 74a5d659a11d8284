/- WalLives: the steps that crash: the crash itself. Own work. -/
import Derived.Test.YtehagdpcegpbjaaWLiveC
set_option linter.unusedVariables false
set_option linter.unusedSimpArgs false
namespace Go.Proofs.Ytehagdpcegpbjaa
open Go.RowKit

theorem bcellP {W w1 : World} (hb : Ab W w1) : (∀ p : Addr, p.block < W.heap.size → w1.cell? p = W.cell? p) ∧ (∀ p : Addr, p.block < W.heap.size → w1.frozen? p = W.frozen? p) :=
  ⟨fun _ h => hb.out.cell h, fun _ h => hb.out.frozen h⟩
/-- Behind the crash: the device in slot 15's box. -/
def LCrash (w wr : World) (S : Option Addr) (n0 c0 : Nat) (W : Option Addr) (len cw a i : Nat) (d : Disk.Dev) (act : Act) (wx : World) : Prop :=
  ∃ (P : Nat) (rd : Disk.Dev) (D' E' : Option Addr) (cd' ce' : Nat), act.defers = [] ∧ LFrm w S n0 c0 W len cw a i act.tmps ∧ act.tmps.getD 15 undef = .pointer (some ⟨P, 0, none⟩) ∧ act.tmps.getD 16 undef = .int .i64 0 ∧
    (wx.cell? ⟨P, 0, none⟩ = some (.slice D' rd.s.length cd') ∧ wx.cell? ⟨P, 1, none⟩ = some (.slice E' rd.t.length ce') ∧ wx.cell? ⟨P, 2, none⟩ = some (.int .i64 rd.cap) ∧ wx.cell? ⟨P, 3, none⟩ = some (.bool rd.down)) ∧
    Hid (rd = d) ∧ RB wx 0 D' rd.s ∧ RB wx 0 E' rd.t ∧ rd.s.length ≤ cd' ∧ rd.t.length ≤ ce' ∧ Ab wr wx
noncomputable def lvR8 : Code := ((Try.f8.body.bind (findR 8)).getD .skip)
set_option maxRecDepth 1000000 in
set_option maxHeartbeats 9600000 in
theorem lv_r8 (w wr : World) (a0 : Addr) (n0 c0 i : Nat) (hin : i < n0) (v : Int) (hv : v < -1) (hv2 : -9223372036854775808 ≤ v) (hx : wr.cell? (a0.add i) = some (.int .i64 v)) (r : Wal.Log) (D E W : Option Addr) (cd ce cw : Nat) (rs : List Frame.Rec) (xs : List RecM)
    (a : Nat) (hM : LMem w wr r D E W cd ce cw xs) (hL : Hid (Wal.LiveR i r rs a)) (T : Array Value) (hsT : T.size = 196) (f1 : T.getD 1 undef = .slice (some a0) n0 c0) (f2 : T.getD 2 undef = .pointer (some ⟨w.heap.size, 0, none⟩)) (f5 : T.getD 5 undef = .slice W xs.length cw) (f6 : T.getD 6 undef = .int .i64 (a : Int)) (f7 : T.getD 7 undef = .int .i64 (i : Int))
    (mx : Int) (HMX : Hid ((if v < -3000 then -3000 else v) = mx)) (kx : Int) (HKX : Hid ((if (r.dev.t.length : Int) < IntKind.i64.wrap (-2 - mx) then (r.dev.t.length : Int) else IntKind.i64.wrap (-2 - mx)) = kx)) (d : Disk.Dev) (HC : Hid (Wal.crash r kx (some rs) = (d, 0)))
    (K : Act → World → Prop) (Q : Exit → Act → World → Prop) (hQ : ∀ ch (x : Act) (wz : World) o u, Q (.panic ch) (x.put o u) wz → Q (.panic ch) x wz) (hK : ∀ a' w', LCrash w wr (some a0) n0 c0 W xs.length cw a i d a' w' → K a' w') : Code.wp Try.prog lvR8 (Exit.then K Q) ⟨T, []⟩ wr := by
  have L0 := good_lens hL.out.good
  have gsT := opq_set
  have i0 : (0 : Int) ≤ (i : Int) := by omega
  have i1 : (i : Int) < (n0 : Int) := by omega
  have i2 : (i : Int).toNat = i := by omega
  have zx := cell_lt hx
  obtain ⟨⟨q0, q1, q2, q3, q4, q5⟩, ⟨z0, z1, z2, z3, z4, z5⟩, hlt⟩ := hM.1
  conv => arg 2; whnf
  refine wp_region_held_drew (by kernel_rfl) (S := fun w' => Ab wr w') ?_ (fun hHeld => ?_)
  · exact Ab.drew (Ab.refl _)
  (refine wpAnyH_take (i := 0) (v := ?_) rfl (by kernel_rfl) (by kernel_rfl) (by kernel_rfl) (fun _ _ _ h => hQ _ _ _ _ _ h) (Or.inl ⟨by kernel_rfl, ?_⟩) (by assumption) ?_
   rotate_left
   · (intro w hSw; (try dsimp only at hSw); obtain ⟨hcS, hfS⟩ := bcellP hSw; go_simp; (try with_reducible rfl))
   (try simp only [Act.put, List.getElem_toArray, List.getElem_cons_succ, List.getElem_cons_zero]))
  (refine wpAnyH_take (i := 1) (v := ?_) rfl (by kernel_rfl) (by kernel_rfl) (by kernel_rfl) (fun _ _ _ h => hQ _ _ _ _ _ h) (Or.inl ⟨by kernel_rfl, ?_⟩) (by assumption) ?_
   rotate_left
   · (intro w hSw; (try dsimp only at hSw); obtain ⟨hcS, hfS⟩ := bcellP hSw; go_simp; (try with_reducible rfl))
   (try simp only [Act.put, List.getElem_toArray, List.getElem_cons_succ, List.getElem_cons_zero]))
  (refine wpAnyH_take (i := 2) (v := ?_) rfl (by kernel_rfl) (by kernel_rfl) (by kernel_rfl) (fun _ _ _ h => hQ _ _ _ _ _ h) (Or.inl ⟨by kernel_rfl, ?_⟩) (by assumption) ?_
   rotate_left
   · (intro w hSw; (try dsimp only at hSw); obtain ⟨hcS, hfS⟩ := bcellP hSw; go_simp; (try with_reducible rfl))
   (try simp only [Act.put, List.getElem_toArray, List.getElem_cons_succ, List.getElem_cons_zero]))
  (refine wpAnyH_take (i := 3) (v := ?_) rfl (by kernel_rfl) (by kernel_rfl) (by kernel_rfl) (fun _ _ _ h => hQ _ _ _ _ _ h) (Or.inl ⟨by kernel_rfl, ?_⟩) (by assumption) ?_
   rotate_left
   · (intro w hSw; (try dsimp only at hSw); obtain ⟨hcS, hfS⟩ := bcellP hSw; go_simp; (try with_reducible rfl))
   (try simp only [Act.put, List.getElem_toArray, List.getElem_cons_succ, List.getElem_cons_zero]))
  (refine wpAnyH_take (i := 4) (v := ?_) rfl (by kernel_rfl) (by kernel_rfl) (by kernel_rfl) (fun _ _ _ h => hQ _ _ _ _ _ h) (Or.inl ⟨by kernel_rfl, ?_⟩) (by assumption) ?_
   rotate_left
   · (intro w hSw; (try dsimp only at hSw); obtain ⟨hcS, hfS⟩ := bcellP hSw; go_simp; (try with_reducible rfl))
   (try simp only [Act.put, List.getElem_toArray, List.getElem_cons_succ, List.getElem_cons_zero]))
  (refine wpAnyH_take (i := 5) (v := ?_) rfl (by kernel_rfl) (by kernel_rfl) (by kernel_rfl) (fun _ _ _ h => hQ _ _ _ _ _ h) (Or.inl ⟨by kernel_rfl, ?_⟩) (by assumption) ?_
   rotate_left
   · (intro w hSw; (try dsimp only at hSw); obtain ⟨hcS, hfS⟩ := bcellP hSw; go_simp; (try with_reducible rfl))
   (try simp only [Act.put, List.getElem_toArray, List.getElem_cons_succ, List.getElem_cons_zero]))
  (refine wpAnyH_take (i := 6) (v := ?_) rfl (by kernel_rfl) (by kernel_rfl) (by kernel_rfl) (fun _ _ _ h => hQ _ _ _ _ _ h) (Or.inl ⟨by kernel_rfl, ?_⟩) (by assumption) ?_
   rotate_left
   · (intro w hSw; (try dsimp only at hSw); obtain ⟨hcS, hfS⟩ := bcellP hSw; go_simp; (try with_reducible rfl))
   (try simp only [Act.put, List.getElem_toArray, List.getElem_cons_succ, List.getElem_cons_zero]))
  (refine wpAnyH_take (i := 7) (v := ?_) rfl (by kernel_rfl) (by kernel_rfl) (by kernel_rfl) (fun _ _ _ h => hQ _ _ _ _ _ h) (Or.inl ⟨by kernel_rfl, ?_⟩) (by assumption) ?_
   rotate_left
   · (intro w hSw; (try dsimp only at hSw); obtain ⟨hcS, hfS⟩ := bcellP hSw; go_simp; (try with_reducible rfl))
   (try simp only [Act.put, List.getElem_toArray, List.getElem_cons_succ, List.getElem_cons_zero]))
  (refine wpAnyH_take (i := 8) (v := ?_) rfl (by kernel_rfl) (by kernel_rfl) (by kernel_rfl) (fun _ _ _ h => hQ _ _ _ _ _ h) (Or.inl ⟨by kernel_rfl, ?_⟩) (by assumption) ?_
   rotate_left
   · (intro w hSw; (try dsimp only at hSw); obtain ⟨hcS, hfS⟩ := bcellP hSw; go_simp; (try with_reducible rfl))
   (try simp only [Act.put, List.getElem_toArray, List.getElem_cons_succ, List.getElem_cons_zero]))
  (refine wpAnyH_take (i := 9) (v := ?_) rfl (by kernel_rfl) (by kernel_rfl) (by kernel_rfl) (fun _ _ _ h => hQ _ _ _ _ _ h) (Or.inl ⟨by kernel_rfl, ?_⟩) (by assumption) ?_
   rotate_left
   · (intro w hSw; (try dsimp only at hSw); obtain ⟨hcS, hfS⟩ := bcellP hSw; go_simp; (try with_reducible rfl))
   (try simp only [Act.put, List.getElem_toArray, List.getElem_cons_succ, List.getElem_cons_zero]))
  (refine wpAnyH_take (i := 10) (v := ?_) rfl (by kernel_rfl) (by kernel_rfl) (by kernel_rfl) (fun _ _ _ h => hQ _ _ _ _ _ h) (Or.inl ⟨by kernel_rfl, ?_⟩) (by assumption) ?_
   rotate_left
   · (intro w hSw; (try dsimp only at hSw); obtain ⟨hcS, hfS⟩ := bcellP hSw; go_simp; (try with_reducible rfl))
   (try simp only [Act.put, List.getElem_toArray, List.getElem_cons_succ, List.getElem_cons_zero]))
  (refine wpAnyH_take (i := 11) (v := ?_) rfl (by kernel_rfl) (by kernel_rfl) (by kernel_rfl) (fun _ _ _ h => hQ _ _ _ _ _ h) (Or.inl ⟨by kernel_rfl, ?_⟩) (by assumption) ?_
   rotate_left
   · (intro w hSw; (try dsimp only at hSw); obtain ⟨hcS, hfS⟩ := bcellP hSw; go_simp; (try with_reducible rfl))
   (try simp only [Act.put, List.getElem_toArray, List.getElem_cons_succ, List.getElem_cons_zero]))
  (refine wpAnyH_ready (rs := [12, 16]) (by kernel_rfl) (by simp) ?_)
  refine AllReadyH.cons rfl (fun K1 hK1 => ?_) (AllReadyH.cons rfl (fun K1 hK1 => ?_) AllReadyH.nil)
  · go_simp
    rw [HMX.out, HKX.out]
    (go_at_call 17)
    refine (wcrash_any D E cd ce r.dev.s r.dev.t r.dev.cap r.dev.down r.first r.next _ (hM.2.1.ab (by repeat (first | with_reducible exact Ab.refl _ | with_reducible assumption | with_reducible refine Ab.drew ?_ | with_reducible refine Ab.drewN ?_ _ | with_reducible refine Ab.alloc ?_ _ | with_reducible refine Ab.trans ?_ (by assumption) | with_reducible refine Ab.set ?_ (by first | (simp; done) | omega | (simp; omega)) _))) (hM.2.2.1.ab (by repeat (first | with_reducible exact Ab.refl _ | with_reducible assumption | with_reducible refine Ab.drew ?_ | with_reducible refine Ab.drewN ?_ _ | with_reducible refine Ab.alloc ?_ _ | with_reducible refine Ab.trans ?_ (by assumption) | with_reducible refine Ab.set ?_ (by first | (simp; done) | omega | (simp; omega)) _))) hM.2.2.2.1 hM.2.2.2.2.1 L0.1 L0.2 (some rs) hL.out.good kx).mono ?_
    rintro e w7 ⟨r7, e7, D7, E7, c7, d7, h7, rfl, p7, s7, hb7⟩
    have H7 := Lib.hid (Prod.mk.inj (h7.out.trans HC.out)).1
    obtain rfl : e7 = 0 := (Prod.mk.inj (h7.out.trans HC.out)).2
    clear h7
    have z7 := hb7.size
    (try simp at z7)
    (try go_wp2_with fail)
    (refine hK1.out _ _ ?_ (fun hHeld => ?_)
     · (try dsimp only); exact (by repeat (first | with_reducible exact Ab.refl _ | with_reducible assumption | with_reducible refine Ab.drew ?_ | with_reducible refine Ab.drewN ?_ _ | with_reducible refine Ab.alloc ?_ _ | with_reducible refine Ab.trans ?_ (by assumption) | with_reducible refine Ab.set ?_ (by first | (simp; done) | omega | (simp; omega)) _))
     clear hK1 K1)
    (refine wpAnyH_take (i := 13) (v := ?_) rfl (by kernel_rfl) (by kernel_rfl) (by kernel_rfl) (fun _ _ _ h => hQ _ _ _ _ _ h) (Or.inl ⟨by kernel_rfl, ?_⟩) (by assumption) ?_
     rotate_left
     · (intro w hSw; (try dsimp only at hSw); obtain ⟨hcS, hfS⟩ := bcellP hSw; go_simp; (try with_reducible rfl))
     (try simp only [Act.put, List.getElem_toArray, List.getElem_cons_succ, List.getElem_cons_zero]))
    (refine wpAnyH_take (i := 14) (v := ?_) rfl (by kernel_rfl) (by kernel_rfl) (by kernel_rfl) (fun _ _ _ h => hQ _ _ _ _ _ h) (Or.inl ⟨by kernel_rfl, ?_⟩) (by assumption) ?_
     rotate_left
     · (intro w hSw; (try dsimp only at hSw); obtain ⟨hcS, hfS⟩ := bcellP hSw; go_simp; (try with_reducible rfl))
     (try simp only [Act.put, List.getElem_toArray, List.getElem_cons_succ, List.getElem_cons_zero]))
    (refine wpAnyH_take (i := 15) (v := ?_) rfl (by kernel_rfl) (by kernel_rfl) (by kernel_rfl) (fun _ _ _ h => hQ _ _ _ _ _ h) (Or.inl ⟨by kernel_rfl, ?_⟩) (by assumption) ?_
     rotate_left
     · (intro w hSw; (try dsimp only at hSw); obtain ⟨hcS, hfS⟩ := bcellP hSw; go_simp; (try with_reducible rfl))
     (try simp only [Act.put, List.getElem_toArray, List.getElem_cons_succ, List.getElem_cons_zero]))
    (refine wpAnyH_ready (rs := [16]) (by kernel_rfl) (by simp) ?_)
    refine AllReadyH.cons rfl (fun K hK => ?_) AllReadyH.nil
    (go_simp
     (refine hK.out _ _ ?_ (fun hHeld => ?_)
      · (try dsimp only); exact (by repeat (first | with_reducible exact Ab.refl _ | with_reducible assumption | with_reducible refine Ab.drew ?_ | with_reducible refine Ab.drewN ?_ _ | with_reducible refine Ab.alloc ?_ _ | with_reducible refine Ab.trans ?_ (by assumption) | with_reducible refine Ab.set ?_ (by first | (simp; done) | omega | (simp; omega)) _))
      clear hK K
      (try simp only [Act.put, List.setIfInBounds_toArray, List.set_cons_zero, List.set_cons_succ])))
    (refine wpAnyH_ready (rs := [17]) (by kernel_rfl) (by simp) ?_)
    refine AllReadyH.cons rfl (fun K hK => ?_) AllReadyH.nil
    (go_simp
     (refine hK.out _ _ ?_ (fun hHeld => ?_)
      · (try dsimp only); exact (by repeat (first | with_reducible exact Ab.refl _ | with_reducible assumption | with_reducible refine Ab.drew ?_ | with_reducible refine Ab.drewN ?_ _ | with_reducible refine Ab.alloc ?_ _ | with_reducible refine Ab.trans ?_ (by assumption) | with_reducible refine Ab.set ?_ (by first | (simp; done) | omega | (simp; omega)) _))
      clear hK K
      (try simp only [Act.put, List.setIfInBounds_toArray, List.set_cons_zero, List.set_cons_succ])))
    (refine wpAnyH_ready (rs := [18]) (by kernel_rfl) (by simp) ?_)
    refine AllReadyH.cons rfl (fun K hK => ?_) AllReadyH.nil
    (go_simp
     (refine hK.out _ _ ?_ (fun hHeld => ?_)
      · (try dsimp only); exact (by repeat (first | with_reducible exact Ab.refl _ | with_reducible assumption | with_reducible refine Ab.drew ?_ | with_reducible refine Ab.drewN ?_ _ | with_reducible refine Ab.alloc ?_ _ | with_reducible refine Ab.trans ?_ (by assumption) | with_reducible refine Ab.set ?_ (by first | (simp; done) | omega | (simp; omega)) _))
      clear hK K
      (try simp only [Act.put, List.setIfInBounds_toArray, List.set_cons_zero, List.set_cons_succ])))
    refine wpAnyH_done (by kernel_rfl) ?_ _
    refine hK _ _ ?_
    refine ⟨w7.heap.size, r7, D7, E7, c7, d7, rfl, ⟨?_, ?_, ?_, ?_, ?_, ?_⟩, ?_, ?_, ⟨by simp [go_sem], by simp [go_sem], by simp [go_sem], by simp [go_sem]⟩, H7, p7.rb.zero.ab (by repeat (first | with_reducible exact Ab.refl _ | with_reducible assumption | with_reducible refine Ab.drew ?_ | with_reducible refine Ab.drewN ?_ _ | with_reducible refine Ab.alloc ?_ _ | with_reducible refine Ab.trans ?_ (by assumption) | with_reducible refine Ab.set ?_ (by first | (simp; done) | omega | (simp; omega)) _)), s7.rb.zero.ab (by repeat (first | with_reducible exact Ab.refl _ | with_reducible assumption | with_reducible refine Ab.drew ?_ | with_reducible refine Ab.drewN ?_ _ | with_reducible refine Ab.alloc ?_ _ | with_reducible refine Ab.trans ?_ (by assumption) | with_reducible refine Ab.set ?_ (by first | (simp; done) | omega | (simp; omega)) _)), p7.le, s7.le, (by repeat (first | with_reducible exact Ab.refl _ | with_reducible assumption | with_reducible refine Ab.drew ?_ | with_reducible refine Ab.drewN ?_ _ | with_reducible refine Ab.alloc ?_ _ | with_reducible refine Ab.trans ?_ (by assumption) | with_reducible refine Ab.set ?_ (by first | (simp; done) | omega | (simp; omega)) _))⟩
    · dsimp only; ((repeat rw [Array.size_setIfInBounds]); exact hsT)
    · (dsimp only; (repeat rw [opq_ne _ _ _ _ _ (by decide)]); exact f1)
    · (dsimp only; (repeat rw [opq_ne _ _ _ _ _ (by decide)]); exact f2)
    · (dsimp only; (repeat rw [opq_ne _ _ _ _ _ (by decide)]); exact f5)
    · (dsimp only; (repeat rw [opq_ne _ _ _ _ _ (by decide)]); exact f6)
    · (dsimp only; (repeat rw [opq_ne _ _ _ _ _ (by decide)]); exact f7)
    · (dsimp only; (repeat rw [opq_ne _ _ _ _ _ (by decide)]); rw [opq_at _ _ 196 _ _ (by ((repeat rw [Array.size_setIfInBounds]); exact hsT)) (by decide)])
    · (dsimp only; (repeat rw [opq_ne _ _ _ _ _ (by decide)]); rw [opq_at _ _ 196 _ _ (by ((repeat rw [Array.size_setIfInBounds]); exact hsT)) (by decide)])
  · (go_simp
     (refine hK1.out _ _ ?_ (fun hHeld => ?_)
      · (try dsimp only); exact (by repeat (first | with_reducible exact Ab.refl _ | with_reducible assumption | with_reducible refine Ab.drew ?_ | with_reducible refine Ab.drewN ?_ _ | with_reducible refine Ab.alloc ?_ _ | with_reducible refine Ab.trans ?_ (by assumption) | with_reducible refine Ab.set ?_ (by first | (simp; done) | omega | (simp; omega)) _))
      clear hK1 K1))
    (refine wpAnyH_ready (rs := [12]) (by kernel_rfl) (by simp) ?_)
    refine AllReadyH.cons rfl (fun K1 hK1 => ?_) AllReadyH.nil
    go_simp
    rw [HMX.out, HKX.out]
    (go_at_call 17)
    refine (wcrash_any D E cd ce r.dev.s r.dev.t r.dev.cap r.dev.down r.first r.next _ (hM.2.1.ab (by repeat (first | with_reducible exact Ab.refl _ | with_reducible assumption | with_reducible refine Ab.drew ?_ | with_reducible refine Ab.drewN ?_ _ | with_reducible refine Ab.alloc ?_ _ | with_reducible refine Ab.trans ?_ (by assumption) | with_reducible refine Ab.set ?_ (by first | (simp; done) | omega | (simp; omega)) _))) (hM.2.2.1.ab (by repeat (first | with_reducible exact Ab.refl _ | with_reducible assumption | with_reducible refine Ab.drew ?_ | with_reducible refine Ab.drewN ?_ _ | with_reducible refine Ab.alloc ?_ _ | with_reducible refine Ab.trans ?_ (by assumption) | with_reducible refine Ab.set ?_ (by first | (simp; done) | omega | (simp; omega)) _))) hM.2.2.2.1 hM.2.2.2.2.1 L0.1 L0.2 (some rs) hL.out.good kx).mono ?_
    rintro e w7 ⟨r7, e7, D7, E7, c7, d7, h7, rfl, p7, s7, hb7⟩
    have H7 := Lib.hid (Prod.mk.inj (h7.out.trans HC.out)).1
    obtain rfl : e7 = 0 := (Prod.mk.inj (h7.out.trans HC.out)).2
    clear h7
    have z7 := hb7.size
    (try simp at z7)
    have yq0 : w7.cell? ⟨wr.heap.size, 0, none⟩ = some (.slice none 0 0) := hb7.at (by (repeat (first | with_reducible assumption | (simp [go_sem]; done) | with_reducible apply cell_alloc | with_reducible apply cell_drew | with_reducible apply cell_drewN | (with_reducible apply Ab.at; with_reducible assumption) | (with_reducible refine cell_set ?_ ?_; rotate_left; focus (first | (simp; done) | (simp; omega))) | (with_reducible refine cell_setb ?_ ?_; rotate_left; focus (first | omega | (simp only; omega) | (simp; omega)))))); have yq1 : w7.cell? ⟨wr.heap.size, 1, none⟩ = some (.slice none 0 0) := hb7.at (by (repeat (first | with_reducible assumption | (simp [go_sem]; done) | with_reducible apply cell_alloc | with_reducible apply cell_drew | with_reducible apply cell_drewN | (with_reducible apply Ab.at; with_reducible assumption) | (with_reducible refine cell_set ?_ ?_; rotate_left; focus (first | (simp; done) | (simp; omega))) | (with_reducible refine cell_setb ?_ ?_; rotate_left; focus (first | omega | (simp only; omega) | (simp; omega)))))); have yq2 : w7.cell? ⟨wr.heap.size, 2, none⟩ = some (.int .i64 0) := hb7.at (by (repeat (first | with_reducible assumption | (simp [go_sem]; done) | with_reducible apply cell_alloc | with_reducible apply cell_drew | with_reducible apply cell_drewN | (with_reducible apply Ab.at; with_reducible assumption) | (with_reducible refine cell_set ?_ ?_; rotate_left; focus (first | (simp; done) | (simp; omega))) | (with_reducible refine cell_setb ?_ ?_; rotate_left; focus (first | omega | (simp only; omega) | (simp; omega)))))); have yq3 : w7.cell? ⟨wr.heap.size, 3, none⟩ = some (.bool false) := hb7.at (by (repeat (first | with_reducible assumption | (simp [go_sem]; done) | with_reducible apply cell_alloc | with_reducible apply cell_drew | with_reducible apply cell_drewN | (with_reducible apply Ab.at; with_reducible assumption) | (with_reducible refine cell_set ?_ ?_; rotate_left; focus (first | (simp; done) | (simp; omega))) | (with_reducible refine cell_setb ?_ ?_; rotate_left; focus (first | omega | (simp only; omega) | (simp; omega))))))
    have yr0 : w7.frozen? ⟨wr.heap.size, 0, none⟩ = false := (hb7.frozen (p := ⟨wr.heap.size, 0, none⟩) (by first | (simp; done) | omega | (simp; omega))).trans (by (repeat (first | with_reducible assumption | (simp [go_sem]; done) | (with_reducible refine fr_alloc ?_ ?_; focus (first | (simp; done) | omega | (simp; omega))) | (with_reducible refine Ab.fr (by assumption) ?_ ?_; focus (first | (simp; done) | omega | (simp; omega)))))); have yr1 : w7.frozen? ⟨wr.heap.size, 1, none⟩ = false := (hb7.frozen (p := ⟨wr.heap.size, 1, none⟩) (by first | (simp; done) | omega | (simp; omega))).trans (by (repeat (first | with_reducible assumption | (simp [go_sem]; done) | (with_reducible refine fr_alloc ?_ ?_; focus (first | (simp; done) | omega | (simp; omega))) | (with_reducible refine Ab.fr (by assumption) ?_ ?_; focus (first | (simp; done) | omega | (simp; omega)))))); have yr2 : w7.frozen? ⟨wr.heap.size, 2, none⟩ = false := (hb7.frozen (p := ⟨wr.heap.size, 2, none⟩) (by first | (simp; done) | omega | (simp; omega))).trans (by (repeat (first | with_reducible assumption | (simp [go_sem]; done) | (with_reducible refine fr_alloc ?_ ?_; focus (first | (simp; done) | omega | (simp; omega))) | (with_reducible refine Ab.fr (by assumption) ?_ ?_; focus (first | (simp; done) | omega | (simp; omega)))))); have yr3 : w7.frozen? ⟨wr.heap.size, 3, none⟩ = false := (hb7.frozen (p := ⟨wr.heap.size, 3, none⟩) (by first | (simp; done) | omega | (simp; omega))).trans (by (repeat (first | with_reducible assumption | (simp [go_sem]; done) | (with_reducible refine fr_alloc ?_ ?_; focus (first | (simp; done) | omega | (simp; omega))) | (with_reducible refine Ab.fr (by assumption) ?_ ?_; focus (first | (simp; done) | omega | (simp; omega))))))
    have p7' : OR 5 (wr.heap.size + 1) w7 D7 c7 r7.s := OR.mono p7 (by first | (simp; done) | omega | (simp; omega))
    have s7' : OR 5 (wr.heap.size + 1) w7 E7 d7 r7.t := OR.mono s7 (by first | (simp; done) | omega | (simp; omega))
    (try go_wp2_with fail)
    (refine hK1.out _ _ ?_ (fun hHeld => ?_)
     · (try dsimp only); exact (by repeat (first | with_reducible exact Ab.refl _ | with_reducible assumption | with_reducible refine Ab.drew ?_ | with_reducible refine Ab.drewN ?_ _ | with_reducible refine Ab.alloc ?_ _ | with_reducible refine Ab.trans ?_ (by assumption) | with_reducible refine Ab.set ?_ (by first | (simp; done) | omega | (simp; omega)) _))
     clear hK1 K1)
    (refine wpAnyH_take (i := 13) (v := ?_) rfl (by kernel_rfl) (by kernel_rfl) (by kernel_rfl) (fun _ _ _ h => hQ _ _ _ _ _ h) (Or.inl ⟨by kernel_rfl, ?_⟩) (by assumption) ?_
     rotate_left
     · (intro w hSw; (try dsimp only at hSw); obtain ⟨hcS, hfS⟩ := bcellP hSw; go_simp; (try with_reducible rfl))
     (try simp only [Act.put, List.getElem_toArray, List.getElem_cons_succ, List.getElem_cons_zero]))
    (refine wpAnyH_take (i := 14) (v := ?_) rfl (by kernel_rfl) (by kernel_rfl) (by kernel_rfl) (fun _ _ _ h => hQ _ _ _ _ _ h) (Or.inl ⟨by kernel_rfl, ?_⟩) (by assumption) ?_
     rotate_left
     · (intro w hSw; (try dsimp only at hSw); obtain ⟨hcS, hfS⟩ := bcellP hSw; go_simp; (try with_reducible rfl))
     (try simp only [Act.put, List.getElem_toArray, List.getElem_cons_succ, List.getElem_cons_zero]))
    (refine wpAnyH_take (i := 15) (v := ?_) rfl (by kernel_rfl) (by kernel_rfl) (by kernel_rfl) (fun _ _ _ h => hQ _ _ _ _ _ h) (Or.inl ⟨by kernel_rfl, ?_⟩) (by assumption) ?_
     rotate_left
     · (intro w hSw; (try dsimp only at hSw); obtain ⟨hcS, hfS⟩ := bcellP hSw; go_simp; (try with_reducible rfl))
     (try simp only [Act.put, List.getElem_toArray, List.getElem_cons_succ, List.getElem_cons_zero]))
    (refine wpAnyH_ready (rs := [17]) (by kernel_rfl) (by simp) ?_)
    refine AllReadyH.cons rfl (fun K hK => ?_) AllReadyH.nil
    (go_simp
     (refine hK.out _ _ ?_ (fun hHeld => ?_)
      · (try dsimp only); exact (by repeat (first | with_reducible exact Ab.refl _ | with_reducible assumption | with_reducible refine Ab.drew ?_ | with_reducible refine Ab.drewN ?_ _ | with_reducible refine Ab.alloc ?_ _ | with_reducible refine Ab.trans ?_ (by assumption) | with_reducible refine Ab.set ?_ (by first | (simp; done) | omega | (simp; omega)) _))
      clear hK K
      (try simp only [Act.put, List.setIfInBounds_toArray, List.set_cons_zero, List.set_cons_succ])))
    (refine wpAnyH_ready (rs := [18]) (by kernel_rfl) (by simp) ?_)
    refine AllReadyH.cons rfl (fun K hK => ?_) AllReadyH.nil
    (go_simp
     (refine hK.out _ _ ?_ (fun hHeld => ?_)
      · (try dsimp only); exact (by repeat (first | with_reducible exact Ab.refl _ | with_reducible assumption | with_reducible refine Ab.drew ?_ | with_reducible refine Ab.drewN ?_ _ | with_reducible refine Ab.alloc ?_ _ | with_reducible refine Ab.trans ?_ (by assumption) | with_reducible refine Ab.set ?_ (by first | (simp; done) | omega | (simp; omega)) _))
      clear hK K
      (try simp only [Act.put, List.setIfInBounds_toArray, List.set_cons_zero, List.set_cons_succ])))
    refine wpAnyH_done (by kernel_rfl) ?_ _
    refine hK _ _ ?_
    refine ⟨wr.heap.size, r7, D7, E7, c7, d7, rfl, ⟨?_, ?_, ?_, ?_, ?_, ?_⟩, ?_, ?_, ⟨by simp [go_sem, yq0], by simp [go_sem, yq1], by simp [go_sem, yq2], by simp [go_sem, yq3]⟩, H7, RB.zero (OR.rb (show OR 5 (wr.heap.size + 1) _ D7 c7 r7.s from (by (repeat (first | with_reducible exact OR.none_ | with_reducible assumption | with_reducible refine OR.drew ?_ | with_reducible refine OR.drewN ?_ _ | with_reducible refine OR.alloc ?_ _ | (with_reducible refine OR.setNew ?_ _ ?_ _; rotate_left; focus (first | (simp; done) | omega | (simp; omega))) | with_reducible refine OR.set ?_ (by first | (simp; done) | omega | (simp; omega)) _ | (with_reducible refine OR.keep ?_ (by assumption))))))), RB.zero (OR.rb (show OR 5 (wr.heap.size + 1) _ E7 d7 r7.t from (by (repeat (first | with_reducible exact OR.none_ | with_reducible assumption | with_reducible refine OR.drew ?_ | with_reducible refine OR.drewN ?_ _ | with_reducible refine OR.alloc ?_ _ | (with_reducible refine OR.setNew ?_ _ ?_ _; rotate_left; focus (first | (simp; done) | omega | (simp; omega))) | with_reducible refine OR.set ?_ (by first | (simp; done) | omega | (simp; omega)) _ | (with_reducible refine OR.keep ?_ (by assumption))))))), p7.le, s7.le, (by repeat (first | with_reducible exact Ab.refl _ | with_reducible assumption | with_reducible refine Ab.drew ?_ | with_reducible refine Ab.drewN ?_ _ | with_reducible refine Ab.alloc ?_ _ | with_reducible refine Ab.trans ?_ (by assumption) | with_reducible refine Ab.set ?_ (by first | (simp; done) | omega | (simp; omega)) _))⟩
    · dsimp only; ((repeat rw [Array.size_setIfInBounds]); exact hsT)
    · (dsimp only; (repeat rw [opq_ne _ _ _ _ _ (by decide)]); exact f1)
    · (dsimp only; (repeat rw [opq_ne _ _ _ _ _ (by decide)]); exact f2)
    · (dsimp only; (repeat rw [opq_ne _ _ _ _ _ (by decide)]); exact f5)
    · (dsimp only; (repeat rw [opq_ne _ _ _ _ _ (by decide)]); exact f6)
    · (dsimp only; (repeat rw [opq_ne _ _ _ _ _ (by decide)]); exact f7)
    · (dsimp only; (repeat rw [opq_ne _ _ _ _ _ (by decide)]); rw [opq_at _ _ 196 _ _ (by ((repeat rw [Array.size_setIfInBounds]); exact hsT)) (by decide)])
    · (dsimp only; (repeat rw [opq_ne _ _ _ _ _ (by decide)]); rw [opq_at _ _ 196 _ _ (by ((repeat rw [Array.size_setIfInBounds]); exact hsT)) (by decide)])
end Go.Proofs.Ytehagdpcegpbjaa
