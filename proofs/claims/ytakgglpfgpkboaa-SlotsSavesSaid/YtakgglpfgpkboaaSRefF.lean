/- Stepped of the reference of layer 5, walked. Own work. -/
import Derived.Test.YtakgglpfgpkboaaSRefA
import Derived.Test.YtakgglpfgpkboaaSRefB
import Derived.Test.YtakgglpfgpkboaaGF
import Derived.IntWalk
set_option linter.unusedVariables false
set_option linter.unusedSimpArgs false
namespace Go.Proofs.Ytakgglpfgpkboaa
open Go.RowKit
open Slots (Sl)
open Disk (Dev)

/-- The device on which steps are done, in block b. -/
def StepSt (w wx : World) (m : AM) (r : Sl) (b : Nat) (d : Dev) : Prop :=
  SlB wx w.heap.size m r ∧ SlB wx (w.heap.size + 1) AM.nil Slots.zero ∧ w.heap.size + 1 + 1 ≤ b ∧ Ab w wx ∧ Slots.Small d ∧
    ∃ (D E : Option Addr) (cd ce : Nat),
      (wx.cell? ⟨b, 0, none⟩ = some (.slice D d.s.length cd) ∧ wx.cell? ⟨b, 1, none⟩ = some (.slice E d.t.length ce) ∧ wx.cell? ⟨b, 2, none⟩ = some (.int .i64 d.cap) ∧ wx.cell? ⟨b, 3, none⟩ = some (.bool d.down) ∧
        wx.frozen? ⟨b, 0, none⟩ = false ∧ wx.frozen? ⟨b, 1, none⟩ = false ∧ wx.frozen? ⟨b, 2, none⟩ = false ∧ wx.frozen? ⟨b, 3, none⟩ = false) ∧
      RB wx (w.heap.size + 1 + 1) D d.s ∧ RB wx (w.heap.size + 1 + 1) E d.t ∧ d.s.length ≤ cd ∧ d.t.length ≤ ce

theorem StepSt.start {w w1 : World} {m : AM} {r : Sl} {d : Dev} (hv1 : SlB w1 w.heap.size m r) (hz1 : SlB w1 (w.heap.size + 1) AM.nil Slots.zero) (zz1 : w.heap.size + 1 + 1 ≤ w1.heap.size) (b1 : Ab w w1) (hs : Slots.Small d)
    {D E : Option Addr} {cd ce : Nat} (h1 : RB w1 (w.heap.size + 1 + 1) D d.s) (h2 : RB w1 (w.heap.size + 1 + 1) E d.t) (l1 : d.s.length ≤ cd) (l2 : d.t.length ≤ ce) :
    StepSt w (w1.alloc (.cells #[.slice D d.s.length cd, .slice E d.t.length ce, .int .i64 d.cap, .bool d.down] 24)) m r w1.heap.size d :=
  ⟨hv1.ab ((Ab.refl w1).alloc _), hz1.ab ((Ab.refl w1).alloc _), zz1, b1.alloc _, hs, D, E, cd, ce, ⟨by simp [go_sem], by simp [go_sem], by simp [go_sem], by simp [go_sem], by simp [go_sem], by simp [go_sem], by simp [go_sem], by simp [go_sem]⟩,
    h1.ab ((Ab.refl w1).alloc _), h2.ab ((Ab.refl w1).alloc _), l1, l2⟩
theorem SlB.put {w : World} {b c : Nat} {m : AM} {r : Sl} (h : SlB w b m r) (hne : b ≠ c) (o : Nat) (v : Value) : SlB (w.setCell ⟨c, o, none⟩ v) b m r := by
  obtain ⟨vq0, vq1, vq2, vq3, vq4, vq5, vq6, vq7, vq8, vg0, vg1, vg2, vg3, vg4, vg5, vg6, vg7, vg8⟩ := h
  (try simp only [AM.nil, Slots.zero, Disk.zero, List.length_nil] at vq0 vq1 vq2 vq3 vq4 vq5 vq6 vq7 vq8)
  exact ⟨(by simp [go_sem, *]), (by simp [go_sem, *]), (by simp [go_sem, *]), (by simp [go_sem, *]), (by simp [go_sem, *]), (by simp [go_sem, *]), (by simp [go_sem, *]), (by simp [go_sem, *]), (by simp [go_sem, *]), (by simp [go_sem, *]), (by simp [go_sem, *]), (by simp [go_sem, *]), (by simp [go_sem, *]), (by simp [go_sem, *]), (by simp [go_sem, *]), (by simp [go_sem, *]), (by simp [go_sem, *]), (by simp [go_sem, *])⟩
theorem StepSt.store {w wx w2 : World} {m : AM} {r : Sl} {b : Nat} {d r2 : Dev} (h : StepSt w wx m r b d) (hb : Ab wx w2) (hs : Slots.Small r2)
    {D E : Option Addr} {cd ce : Nat} (h1 : RB w2 wx.heap.size D r2.s) (h2 : RB w2 wx.heap.size E r2.t) (l1 : r2.s.length ≤ cd) (l2 : r2.t.length ≤ ce) :
    StepSt w ((((w2.setCell ⟨b, 0, none⟩ (.slice D r2.s.length cd)).setCell ⟨b, 1, none⟩ (.slice E r2.t.length ce)).setCell ⟨b, 2, none⟩ (.int .i64 r2.cap)).setCell ⟨b, 3, none⟩ (.bool r2.down)) m r b r2 := by
  obtain ⟨hv, hz, hlt, hab, _, D1, E1, c1, c2, ⟨q0, q1, q2, q3, g0, g1, g2, g3⟩, _, _, _, _⟩ := h
  have hbx : b < wx.heap.size := cell_lt q0
  have b2 := hab.trans hb
  have q0 := hb.at q0
  have q1 := hb.at q1
  have q2 := hb.at q2
  have q3 := hb.at q3
  have g0 := hb.fr hbx g0
  have g1 := hb.fr hbx g1
  have g2 := hb.fr hbx g2
  have g3 := hb.fr hbx g3
  refine ⟨((((hv.ab hb).put (by omega) _ _).put (by omega) _ _).put (by omega) _ _).put (by omega) _ _, ((((hz.ab hb).put (by omega) _ _).put (by omega) _ _).put (by omega) _ _).put (by omega) _ _, hlt, (((b2.set (by simp only; omega) _).set (by simp only; omega) _).set (by simp only; omega) _).set (by simp only; omega) _, hs, D, E, cd, ce, ?_, ?_, ?_, l1, l2⟩
  · exact ⟨(by simp [go_sem, *]), (by simp [go_sem, *]), (by simp [go_sem, *]), (by simp [go_sem, *]), (by simp [go_sem, *]), (by simp [go_sem, *]), (by simp [go_sem, *]), (by simp [go_sem, *])⟩
  · exact ((((h1.put hbx _).put hbx _).put hbx _).put hbx _).mono (by omega)
  · exact ((((h2.put hbx _).put hbx _).put hbx _).put hbx _).mono (by omega)

set_option maxHeartbeats 4000000 in
set_option maxRecDepth 100000 in
theorem srstepped_any (m : AM) (r : Sl) (w : World) (h : SlM w 0 m r) (X : Option Addr) (b : List UInt8) (cx : Nat) (hx : RB w 0 X b) (hcx : b.length ≤ cx) (hask : Slots.asked r b = 0) (k : Int) :
    Calls Try.prog 42 #[.agg #[.slice m.A r.a.s.length m.ca, .slice m.B r.a.t.length m.cb, .int .i64 r.a.cap, .bool r.a.down, .slice m.C r.b.s.length m.cc, .slice m.D r.b.t.length m.cd, .int .i64 r.b.cap, .bool r.b.down, .int .i64 r.n], .slice X b.length cx, .int .i64 k] w (RetSl w (r.put (Slots.wr r.cur (Frame.enc ⟨r.n, b⟩) k) r.oth r.n)) := by
  obtain ⟨A, B, C, D, ca, cb, cc, cd⟩ := m
  obtain ⟨⟨s, t, cap, dn⟩, ⟨p, q, cep, dm⟩, n⟩ := r
  dsimp only
  have hg := Slots.asked_good hask
  simp only at hg
  have hn0 : 0 ≤ n := by have := hg.1.lo; simp only at this; omega
  have HG := Lib.hid hg
  have HV := Lib.hid (show Frame.Valid ⟨n, b⟩ from ⟨hn0, hg.2.2.1, hg.2.1⟩)
  clear hg hask
  rcases Int.emod_two_eq n with hp0 | hp0
  · have ht0 : n.tmod 2 = 0 := by rw [Int.tmod_eq_emod_of_nonneg hn0]; exact hp0
    have HP := Lib.hid hp0
    go_enter Try.func42, Try.ntmps42
    go_wp2_with fail
    refine (twin_any A B ca cb s t cap dn _ (h.a.ab (by repeat (first | with_reducible exact Ab.refl _ | with_reducible assumption | with_reducible refine Ab.drew ?_ | with_reducible refine Ab.drewN ?_ _ | with_reducible refine Ab.alloc ?_ _ | with_reducible refine Ab.trans ?_ (by assumption) | with_reducible refine Ab.set ?_ (by first | (simp; done) | omega | (simp; omega)) _))) (h.b.ab (by repeat (first | with_reducible exact Ab.refl _ | with_reducible assumption | with_reducible refine Ab.drew ?_ | with_reducible refine Ab.drewN ?_ _ | with_reducible refine Ab.alloc ?_ _ | with_reducible refine Ab.trans ?_ (by assumption) | with_reducible refine Ab.set ?_ (by first | (simp; done) | omega | (simp; omega)) _))) h.la h.lb h.sa h.sb).mono ?_
    rintro e w1 ⟨r1, D1, E1, d1, e1, hr1, rfl, o1, o2, hb1⟩
    go_upto_if 17 with fail
    have hz1 := (SlB.box (w := (w.alloc (.cells #[.slice A s.length ca, .slice B t.length cb, .int .i64 cap, .bool dn, .slice C p.length cc, .slice D q.length cd, .int .i64 cep, .bool dm, .int .i64 n] 27)).alloc (.cells #[.slice none 0 0, .slice none 0 0, .int .i64 0, .bool false, .slice none 0 0, .slice none 0 0, .int .i64 0, .bool false, .int .i64 0] 27)) (b := w.heap.size + 1) (m := AM.nil) (r := Slots.zero) (new_plain (by simp))).ab hb1
    have hv1 := (SlB.box (w := (w.alloc (.cells #[.slice A s.length ca, .slice B t.length cb, .int .i64 cap, .bool dn, .slice C p.length cc, .slice D q.length cd, .int .i64 cep, .bool dm, .int .i64 n] 27)).alloc (.cells #[.slice none 0 0, .slice none 0 0, .int .i64 0, .bool false, .slice none 0 0, .slice none 0 0, .int .i64 0, .bool false, .int .i64 0] 27)) (b := w.heap.size) (m := (⟨A, B, C, D, ca, cb, cc, cd⟩ : AM)) (r := (⟨⟨s, t, cap, dn⟩, ⟨p, q, cep, dm⟩, n⟩ : Sl)) (old_alloc (new_plain rfl))).ab hb1
    have zz1 : w.heap.size + 1 + 1 ≤ w1.heap.size := by have := hb1.size; simpa using this
    have b1 : Ab w w1 := (by repeat (first | with_reducible exact Ab.refl _ | with_reducible assumption | with_reducible refine Ab.drew ?_ | with_reducible refine Ab.drewN ?_ _ | with_reducible refine Ab.alloc ?_ _ | with_reducible refine Ab.trans ?_ (by assumption) | with_reducible refine Ab.set ?_ (by first | (simp; done) | omega | (simp; omega)) _))
    have HSM : Slots.Small r1 := by rw [hr1.out]; exact ⟨h.sa, h.sb⟩
    have hStart : StepSt w (w1.alloc (.cells #[.slice D1 r1.s.length d1, .slice E1 r1.t.length e1, .int .i64 r1.cap, .bool r1.down] 24)) (⟨A, B, C, D, ca, cb, cc, cd⟩ : AM) (⟨⟨s, t, cap, dn⟩, ⟨p, q, cep, dm⟩, n⟩ : Sl) w1.heap.size r1 :=
      StepSt.start hv1 hz1 zz1 b1 HSM (o1.rb.mono (by simp)) (o2.rb.mono (by simp)) o1.le o2.le
    have HSM := Lib.hid HSM
    go_cut [18] (fun _ wx => StepSt w wx (⟨A, B, C, D, ca, cb, cc, cd⟩ : AM) (⟨⟨s, t, cap, dn⟩, ⟨p, q, cep, dm⟩, n⟩ : Sl) w1.heap.size (Slots.wr1 ⟨s, t, cap, dn⟩ k))
    case first =>
      by_cases h1 : 1 ≤ k
      · have c1 : decide (0 < k) = true := by simp; omega
        have HW := Lib.hid (show Slots.wr1 ⟨s, t, cap, dn⟩ k = (Disk.truncate ⟨s, t, cap, dn⟩ 0).1 from if_pos h1)
        have HR := Lib.hid hr1.out
        refine wp_cond (t := true) (by first | rfl | (simp [Act.eval]; done) | (simp [Act.eval]; omega)) ?_
        clear h1
        conv => arg 2; whnf
        go_wp2_with fail
        refine (refTruncate_any D1 E1 d1 e1 r1.s r1.t r1.cap r1.down _ (o1.rb.zero.ab (by repeat (first | with_reducible exact Ab.refl _ | with_reducible assumption | with_reducible refine Ab.drew ?_ | with_reducible refine Ab.drewN ?_ _ | with_reducible refine Ab.alloc ?_ _ | with_reducible refine Ab.trans ?_ (by assumption) | with_reducible refine Ab.set ?_ (by first | (simp; done) | omega | (simp; omega)) _))) (o2.rb.zero.ab (by repeat (first | with_reducible exact Ab.refl _ | with_reducible assumption | with_reducible refine Ab.drew ?_ | with_reducible refine Ab.drewN ?_ _ | with_reducible refine Ab.alloc ?_ _ | with_reducible refine Ab.trans ?_ (by assumption) | with_reducible refine Ab.set ?_ (by first | (simp; done) | omega | (simp; omega)) _))) o1.le o2.le HSM.out.1 HSM.out.2 0).mono ?_
        rintro e w2 ⟨r2, er2, D2, E2, d2, e2, hr2, rfl, o3, o4, hb2⟩
        have hr2' := Lib.hid (show r2 = Slots.wr1 ⟨s, t, cap, dn⟩ k by rw [HW.out, ← HR.out]; exact congrArg Prod.fst hr2.out)
        have HS := hStart
        obtain ⟨_, _, _, _, _, _, _, _, _, ⟨q0, q1, q2, q3, g0, g1, g2, g3⟩, _, _, _, _⟩ := HS
        have g0 := hb2.fr (cell_lt q0) g0
        have g1 := hb2.fr (cell_lt q1) g1
        have g2 := hb2.fr (cell_lt q2) g2
        have g3 := hb2.fr (cell_lt q3) g3
        have q0 := hb2.at q0
        have q1 := hb2.at q1
        have q2 := hb2.at q2
        have q3 := hb2.at q3
        go_wp2_with fail
        go_meet
        rw [← hr2'.out]
        exact StepSt.store hStart hb2 (by rw [show r2 = _ from congrArg Prod.fst hr2.out]; exact Slots.small_trunc 0 HSM.out) o3.rb o4.rb o3.le o4.le
      · have c1 : decide (0 < k) = false := by simp; omega
        have HW := Lib.hid (show Slots.wr1 ⟨s, t, cap, dn⟩ k = ⟨s, t, cap, dn⟩ from if_neg h1)
        have HR := Lib.hid hr1.out
        refine wp_cond (t := false) (by first | rfl | (simp [Act.eval]; done) | (simp [Act.eval]; omega)) ?_
        clear h1
        conv => arg 2; whnf
        go_wp2_with fail
        go_meet
        rw [HW.out.trans HR.out.symm]
        exact hStart
    case rest =>
      have hcut1 := hcut
      clear hcut
      generalize hd1 : Slots.wr1 ⟨s, t, cap, dn⟩ k = u1 at hcut1
      have HD1 := Lib.hid hd1
      clear hd1
      go_upto_if 24 with fail
      go_cut [25] (fun _ wx => StepSt w wx (⟨A, B, C, D, ca, cb, cc, cd⟩ : AM) (⟨⟨s, t, cap, dn⟩, ⟨p, q, cep, dm⟩, n⟩ : Sl) w1.heap.size (Slots.wr2 u1 (Frame.enc ⟨n, b⟩) k))
      case first =>
        by_cases h2 : 2 ≤ k
        · have HW := Lib.hid (show Slots.wr2 u1 (Frame.enc ⟨n, b⟩) k = (Disk.append u1 (Frame.enc ⟨n, b⟩)).1 from if_pos h2)
          refine wp_cond (t := true) (by first | rfl | (simp [Act.eval]; done) | (simp [Act.eval]; omega)) ?_
          clear h2
          conv => arg 2; whnf
          have HS := hcut1
          obtain ⟨hv2, hz2, _, hab2, hsm2, D2, E2, d2, e2, ⟨q0, q1, q2, q3, g0, g1, g2, g3⟩, p1, p2, l1, l2⟩ := HS
          have bq := hv2.q8
          have HSM2 := Lib.hid hsm2
          clear hv2 hz2 hsm2
          refine wp_region_held_drew (by kernel_rfl) (S := fun w' => w'.cell? ⟨w.heap.size, 8, none⟩ = some (.int .i64 n)) ?_ (fun hHeld => ?_)
          · exact (by (repeat (first | with_reducible assumption | (simp [go_sem]; done) | with_reducible apply cell_alloc | with_reducible apply cell_drew | with_reducible apply cell_drewN | (with_reducible apply Ab.at; with_reducible assumption) | (with_reducible refine cell_set ?_ ?_; rotate_left; focus (first | (simp; done) | (simp; omega))) | (with_reducible refine cell_setb ?_ ?_; rotate_left; focus (first | omega | (simp only; omega) | (simp; omega))))))
          (refine wpAnyH_take (i := 1) (v := ?_) rfl (by kernel_rfl) (by kernel_rfl) (by kernel_rfl) (fun _ _ _ h => h) (Or.inl ⟨by kernel_rfl, ?_⟩) (by assumption) ?_
           rotate_left
           · (intro w hSw; (try dsimp only at hSw); go_simp; (try with_reducible rfl))
           (try simp only [Act.put, List.setIfInBounds_toArray, List.set_cons_zero, List.set_cons_succ]))
          (refine wpAnyH_take (i := 2) (v := ?_) rfl (by kernel_rfl) (by kernel_rfl) (by kernel_rfl) (fun _ _ _ h => h) (Or.inl ⟨by kernel_rfl, ?_⟩) (by assumption) ?_
           rotate_left
           · (intro w hSw; (try dsimp only at hSw); go_simp; (try with_reducible rfl))
           (try simp only [Act.put, List.setIfInBounds_toArray, List.set_cons_zero, List.set_cons_succ]))
          (refine wpAnyH_take (i := 3) (v := ?_) rfl (by kernel_rfl) (by kernel_rfl) (by kernel_rfl) (fun _ _ _ h => h) (Or.inl ⟨by kernel_rfl, ?_⟩) (by assumption) ?_
           rotate_left
           · (intro w hSw; (try dsimp only at hSw); go_simp; (try with_reducible rfl))
           (try simp only [Act.put, List.setIfInBounds_toArray, List.set_cons_zero, List.set_cons_succ]))
          (refine wpAnyH_take (i := 4) (v := ?_) rfl (by kernel_rfl) (by kernel_rfl) (by kernel_rfl) (fun _ _ _ h => h) (Or.inl ⟨by kernel_rfl, ?_⟩) (by assumption) ?_
           rotate_left
           · (intro w hSw; (try dsimp only at hSw); go_simp; (try with_reducible rfl))
           (try simp only [Act.put, List.setIfInBounds_toArray, List.set_cons_zero, List.set_cons_succ]))
          (refine wpAnyH_ready (rs := [0, 5]) (by kernel_rfl) (by simp) ?_)
          refine AllReadyH.cons rfl (fun K hK => ?_) (AllReadyH.cons rfl (fun K hK => ?_) AllReadyH.nil)
          · (go_simp
             (refine hK.out _ _ ?_ (fun hHeld => ?_)
              · (try dsimp only); exact (by (repeat (first | with_reducible assumption | (simp [go_sem]; done) | with_reducible apply cell_alloc | with_reducible apply cell_drew | with_reducible apply cell_drewN | (with_reducible apply Ab.at; with_reducible assumption) | (with_reducible refine cell_set ?_ ?_; rotate_left; focus (first | (simp; done) | (simp; omega))) | (with_reducible refine cell_setb ?_ ?_; rotate_left; focus (first | omega | (simp only; omega) | (simp; omega))))))
              clear hK K
              (try simp only [Act.put, List.setIfInBounds_toArray, List.set_cons_zero, List.set_cons_succ])))
            (refine wpAnyH_ready (rs := [5]) (by kernel_rfl) (by simp) ?_)
            refine AllReadyH.cons rfl (fun K hK => ?_) AllReadyH.nil
            (go_simp
             (go_at_call 57
              refine (bytes_any n X b cx _ HV.out (hx.ab (by repeat (first | with_reducible exact Ab.refl _ | with_reducible assumption | with_reducible refine Ab.drew ?_ | with_reducible refine Ab.drewN ?_ _ | with_reducible refine Ab.alloc ?_ _ | with_reducible refine Ab.trans ?_ (by assumption) | with_reducible refine Ab.set ?_ (by first | (simp; done) | omega | (simp; omega)) _))) hcx).mono ?_
              rintro e w3 ⟨E3, c3, L, hE, rfl, oE, hb3⟩
              have hb3 : Ab wc w3 := ((Ab.refl wc).drew).trans hb3)
             (try go_wp2_with fail)
             (refine hK.out _ _ ?_ (fun hHeld => ?_)
              · (try dsimp only); exact (by (repeat (first | with_reducible assumption | (simp [go_sem]; done) | with_reducible apply cell_alloc | with_reducible apply cell_drew | with_reducible apply cell_drewN | (with_reducible apply Ab.at; with_reducible assumption) | (with_reducible refine cell_set ?_ ?_; rotate_left; focus (first | (simp; done) | (simp; omega))) | (with_reducible refine cell_setb ?_ ?_; rotate_left; focus (first | omega | (simp only; omega) | (simp; omega))))))
              clear hK K
              (try simp only [Act.put, List.setIfInBounds_toArray, List.set_cons_zero, List.set_cons_succ])))
            have g0 := hb3.fr (cell_lt q0) g0
            have g1 := hb3.fr (cell_lt q1) g1
            have g2 := hb3.fr (cell_lt q2) g2
            have g3 := hb3.fr (cell_lt q3) g3
            have q0 := hb3.at q0
            have q1 := hb3.at q1
            have q2 := hb3.at q2
            have q3 := hb3.at q3
            (refine wpAnyH_ready (rs := [6]) (by kernel_rfl) (by simp) ?_)
            refine AllReadyH.cons rfl (fun K hK => ?_) AllReadyH.nil
            (go_simp
             (go_at_call 59
              refine (refAppend_any D2 E2 d2 e2 u1.s u1.t u1.cap u1.down _ (p1.ab hb3).zero (p2.ab hb3).zero l1 l2 HSM2.out.1 HSM2.out.2 E3 c3 L oE.rb.zero oE.le (by rw [hE.out, Frame.enc_length]; have := HV.out.2.2; simp only at this ⊢; omega)).mono ?_
              rintro e w4 ⟨r2, er2, D4, E4, d4, e4, hr2, rfl, o3, o4, hb4⟩)
             (try go_wp2_with fail)
             (refine hK.out _ _ ?_ (fun hHeld => ?_)
              · (try dsimp only); exact (by (repeat (first | with_reducible assumption | (simp [go_sem]; done) | with_reducible apply cell_alloc | with_reducible apply cell_drew | with_reducible apply cell_drewN | (with_reducible apply Ab.at; with_reducible assumption) | (with_reducible refine cell_set ?_ ?_; rotate_left; focus (first | (simp; done) | (simp; omega))) | (with_reducible refine cell_setb ?_ ?_; rotate_left; focus (first | omega | (simp only; omega) | (simp; omega))))))
              clear hK K
              (try simp only [Act.put, List.setIfInBounds_toArray, List.set_cons_zero, List.set_cons_succ])))
            have g0 := hb4.fr (cell_lt q0) g0
            have g1 := hb4.fr (cell_lt q1) g1
            have g2 := hb4.fr (cell_lt q2) g2
            have g3 := hb4.fr (cell_lt q3) g3
            have q0 := hb4.at q0
            have q1 := hb4.at q1
            have q2 := hb4.at q2
            have q3 := hb4.at q3
            (refine wpAnyH_take (i := 7) (v := ?_) rfl (by kernel_rfl) (by kernel_rfl) (by kernel_rfl) (fun _ _ _ h => h) (Or.inl ⟨by kernel_rfl, ?_⟩) (by assumption) ?_
             rotate_left
             · (intro w hSw; (try dsimp only at hSw); go_simp; (try with_reducible rfl))
             (try simp only [Act.put, List.setIfInBounds_toArray, List.set_cons_zero, List.set_cons_succ]))
            (refine wpAnyH_take (i := 8) (v := ?_) rfl (by kernel_rfl) (by kernel_rfl) (by kernel_rfl) (fun _ _ _ h => h) (Or.inl ⟨by kernel_rfl, ?_⟩) (by assumption) ?_
             rotate_left
             · (intro w hSw; (try dsimp only at hSw); go_simp; (try with_reducible rfl))
             (try simp only [Act.put, List.setIfInBounds_toArray, List.set_cons_zero, List.set_cons_succ]))
            (refine wpAnyH_take (i := 9) (v := ?_) rfl (by kernel_rfl) (by kernel_rfl) (by kernel_rfl) (fun _ _ _ h => h) (Or.inl ⟨by kernel_rfl, ?_⟩) (by assumption) ?_
             rotate_left
             · (intro w hSw; (try dsimp only at hSw); go_simp; (try with_reducible rfl))
             (try simp only [Act.put, List.setIfInBounds_toArray, List.set_cons_zero, List.set_cons_succ]))
            have hne8 : w.heap.size ≠ w1.heap.size := by omega
            (refine wpAnyH_ready (rs := [10]) (by kernel_rfl) (by simp) ?_)
            refine AllReadyH.cons rfl (fun K hK => ?_) AllReadyH.nil
            (go_simp
             (refine hK.out _ _ ?_ (fun hHeld => ?_)
              · (try dsimp only); exact (by (repeat (first | with_reducible assumption | (simp [go_sem]; done) | with_reducible apply cell_alloc | with_reducible apply cell_drew | with_reducible apply cell_drewN | (with_reducible apply Ab.at; with_reducible assumption) | (with_reducible refine cell_set ?_ ?_; rotate_left; focus (first | (simp; done) | (simp; omega))) | (with_reducible refine cell_setb ?_ ?_; rotate_left; focus (first | omega | (simp only; omega) | (simp; omega))))))
              clear hK K
              (try simp only [Act.put, List.setIfInBounds_toArray, List.set_cons_zero, List.set_cons_succ])))
            refine wpAnyH_done (by kernel_rfl) ?_ _
            go_wp2_with fail
            go_meet
            have hr2' : r2 = Slots.wr2 u1 (Frame.enc ⟨n, b⟩) k := by rw [HW.out, ← hE.out]; exact congrArg Prod.fst hr2.out
            rw [← hr2']
            exact StepSt.store hcut1 (hb3.trans hb4) (by rw [show r2 = _ from congrArg Prod.fst hr2.out]; exact Slots.small_app _ HSM2.out) (o3.rb.mono hb3.size) (o4.rb.mono hb3.size) o3.le o4.le
          · (go_simp
             (go_at_call 57
              refine (bytes_any n X b cx _ HV.out (hx.ab (by repeat (first | with_reducible exact Ab.refl _ | with_reducible assumption | with_reducible refine Ab.drew ?_ | with_reducible refine Ab.drewN ?_ _ | with_reducible refine Ab.alloc ?_ _ | with_reducible refine Ab.trans ?_ (by assumption) | with_reducible refine Ab.set ?_ (by first | (simp; done) | omega | (simp; omega)) _))) hcx).mono ?_
              rintro e w3 ⟨E3, c3, L, hE, rfl, oE, hb3⟩
              have hb3 : Ab wc w3 := ((Ab.refl wc).drew).trans hb3)
             (try go_wp2_with fail)
             (refine hK.out _ _ ?_ (fun hHeld => ?_)
              · (try dsimp only); exact (by (repeat (first | with_reducible assumption | (simp [go_sem]; done) | with_reducible apply cell_alloc | with_reducible apply cell_drew | with_reducible apply cell_drewN | (with_reducible apply Ab.at; with_reducible assumption) | (with_reducible refine cell_set ?_ ?_; rotate_left; focus (first | (simp; done) | (simp; omega))) | (with_reducible refine cell_setb ?_ ?_; rotate_left; focus (first | omega | (simp only; omega) | (simp; omega))))))
              clear hK K
              (try simp only [Act.put, List.setIfInBounds_toArray, List.set_cons_zero, List.set_cons_succ])))
            have g0 := hb3.fr (cell_lt q0) g0
            have g1 := hb3.fr (cell_lt q1) g1
            have g2 := hb3.fr (cell_lt q2) g2
            have g3 := hb3.fr (cell_lt q3) g3
            have q0 := hb3.at q0
            have q1 := hb3.at q1
            have q2 := hb3.at q2
            have q3 := hb3.at q3
            (refine wpAnyH_ready (rs := [0]) (by kernel_rfl) (by simp) ?_)
            refine AllReadyH.cons rfl (fun K hK => ?_) AllReadyH.nil
            (go_simp
             (refine hK.out _ _ ?_ (fun hHeld => ?_)
              · (try dsimp only); exact (by (repeat (first | with_reducible assumption | (simp [go_sem]; done) | with_reducible apply cell_alloc | with_reducible apply cell_drew | with_reducible apply cell_drewN | (with_reducible apply Ab.at; with_reducible assumption) | (with_reducible refine cell_set ?_ ?_; rotate_left; focus (first | (simp; done) | (simp; omega))) | (with_reducible refine cell_setb ?_ ?_; rotate_left; focus (first | omega | (simp only; omega) | (simp; omega))))))
              clear hK K
              (try simp only [Act.put, List.setIfInBounds_toArray, List.set_cons_zero, List.set_cons_succ])))
            (refine wpAnyH_ready (rs := [6]) (by kernel_rfl) (by simp) ?_)
            refine AllReadyH.cons rfl (fun K hK => ?_) AllReadyH.nil
            (go_simp
             (go_at_call 59
              refine (refAppend_any D2 E2 d2 e2 u1.s u1.t u1.cap u1.down _ (p1.ab hb3).zero (p2.ab hb3).zero l1 l2 HSM2.out.1 HSM2.out.2 E3 c3 L oE.rb.zero oE.le (by rw [hE.out, Frame.enc_length]; have := HV.out.2.2; simp only at this ⊢; omega)).mono ?_
              rintro e w4 ⟨r2, er2, D4, E4, d4, e4, hr2, rfl, o3, o4, hb4⟩)
             (try go_wp2_with fail)
             (refine hK.out _ _ ?_ (fun hHeld => ?_)
              · (try dsimp only); exact (by (repeat (first | with_reducible assumption | (simp [go_sem]; done) | with_reducible apply cell_alloc | with_reducible apply cell_drew | with_reducible apply cell_drewN | (with_reducible apply Ab.at; with_reducible assumption) | (with_reducible refine cell_set ?_ ?_; rotate_left; focus (first | (simp; done) | (simp; omega))) | (with_reducible refine cell_setb ?_ ?_; rotate_left; focus (first | omega | (simp only; omega) | (simp; omega))))))
              clear hK K
              (try simp only [Act.put, List.setIfInBounds_toArray, List.set_cons_zero, List.set_cons_succ])))
            have g0 := hb4.fr (cell_lt q0) g0
            have g1 := hb4.fr (cell_lt q1) g1
            have g2 := hb4.fr (cell_lt q2) g2
            have g3 := hb4.fr (cell_lt q3) g3
            have q0 := hb4.at q0
            have q1 := hb4.at q1
            have q2 := hb4.at q2
            have q3 := hb4.at q3
            (refine wpAnyH_take (i := 7) (v := ?_) rfl (by kernel_rfl) (by kernel_rfl) (by kernel_rfl) (fun _ _ _ h => h) (Or.inl ⟨by kernel_rfl, ?_⟩) (by assumption) ?_
             rotate_left
             · (intro w hSw; (try dsimp only at hSw); go_simp; (try with_reducible rfl))
             (try simp only [Act.put, List.setIfInBounds_toArray, List.set_cons_zero, List.set_cons_succ]))
            (refine wpAnyH_take (i := 8) (v := ?_) rfl (by kernel_rfl) (by kernel_rfl) (by kernel_rfl) (fun _ _ _ h => h) (Or.inl ⟨by kernel_rfl, ?_⟩) (by assumption) ?_
             rotate_left
             · (intro w hSw; (try dsimp only at hSw); go_simp; (try with_reducible rfl))
             (try simp only [Act.put, List.setIfInBounds_toArray, List.set_cons_zero, List.set_cons_succ]))
            (refine wpAnyH_take (i := 9) (v := ?_) rfl (by kernel_rfl) (by kernel_rfl) (by kernel_rfl) (fun _ _ _ h => h) (Or.inl ⟨by kernel_rfl, ?_⟩) (by assumption) ?_
             rotate_left
             · (intro w hSw; (try dsimp only at hSw); go_simp; (try with_reducible rfl))
             (try simp only [Act.put, List.setIfInBounds_toArray, List.set_cons_zero, List.set_cons_succ]))
            have hne8 : w.heap.size ≠ w1.heap.size := by omega
            (refine wpAnyH_ready (rs := [10]) (by kernel_rfl) (by simp) ?_)
            refine AllReadyH.cons rfl (fun K hK => ?_) AllReadyH.nil
            (go_simp
             (refine hK.out _ _ ?_ (fun hHeld => ?_)
              · (try dsimp only); exact (by (repeat (first | with_reducible assumption | (simp [go_sem]; done) | with_reducible apply cell_alloc | with_reducible apply cell_drew | with_reducible apply cell_drewN | (with_reducible apply Ab.at; with_reducible assumption) | (with_reducible refine cell_set ?_ ?_; rotate_left; focus (first | (simp; done) | (simp; omega))) | (with_reducible refine cell_setb ?_ ?_; rotate_left; focus (first | omega | (simp only; omega) | (simp; omega))))))
              clear hK K
              (try simp only [Act.put, List.setIfInBounds_toArray, List.set_cons_zero, List.set_cons_succ])))
            refine wpAnyH_done (by kernel_rfl) ?_ _
            go_wp2_with fail
            go_meet
            have hr2' : r2 = Slots.wr2 u1 (Frame.enc ⟨n, b⟩) k := by rw [HW.out, ← hE.out]; exact congrArg Prod.fst hr2.out
            rw [← hr2']
            exact StepSt.store hcut1 (hb3.trans hb4) (by rw [show r2 = _ from congrArg Prod.fst hr2.out]; exact Slots.small_app _ HSM2.out) (o3.rb.mono hb3.size) (o4.rb.mono hb3.size) o3.le o4.le
        · have HW := Lib.hid (show Slots.wr2 u1 (Frame.enc ⟨n, b⟩) k = u1 from if_neg h2)
          refine wp_cond (t := false) (by first | rfl | (simp [Act.eval]; done) | (simp [Act.eval]; omega)) ?_
          clear h2
          conv => arg 2; whnf
          go_wp2_with fail
          go_meet
          rw [HW.out]
          exact hcut1
      case rest =>
        have hcut2 := hcut
        clear hcut hcut1
        generalize hd2 : Slots.wr2 u1 (Frame.enc ⟨n, b⟩) k = u2 at hcut2
        have HD2 := Lib.hid hd2
        clear hd2
        go_upto_if 36 with fail
        go_cut [37] (fun _ wx => StepSt w wx (⟨A, B, C, D, ca, cb, cc, cd⟩ : AM) (⟨⟨s, t, cap, dn⟩, ⟨p, q, cep, dm⟩, n⟩ : Sl) w1.heap.size (Slots.wr3 u2 k))
        case first =>
          by_cases h3 : 3 ≤ k
          · have HW := Lib.hid (show Slots.wr3 u2 k = (Disk.sync u2).1 from if_pos h3)
            refine wp_cond (t := true) (by first | rfl | (simp [Act.eval]; done) | (simp [Act.eval]; omega)) ?_
            clear h3
            conv => arg 2; whnf
            have HS := hcut2
            obtain ⟨_, _, _, hab2, hsm2, D2, E2, d2, e2, ⟨q0, q1, q2, q3, g0, g1, g2, g3⟩, p1, p2, l1, l2⟩ := HS
            have HSM2 := Lib.hid hsm2
            clear hsm2
            go_wp2_with fail
            refine (refSync_any D2 E2 d2 e2 u2.s u2.t u2.cap u2.down _ p1.zero p2.zero l1 l2 HSM2.out.1 HSM2.out.2).mono ?_
            rintro e w2 ⟨r2, er2, D4, E4, d4, e4, hr2, rfl, o3, o4, hb2⟩
            have hr2' := Lib.hid (show r2 = Slots.wr3 u2 k by rw [HW.out]; exact congrArg Prod.fst hr2.out)
            clear q0 q1 q2 q3 g0 g1 g2 g3
            have HS := hcut2
            obtain ⟨_, _, _, _, _, _, _, _, _, ⟨q0, q1, q2, q3, g0, g1, g2, g3⟩, _, _, _, _⟩ := HS
            have g0 := hb2.fr (cell_lt q0) g0
            have g1 := hb2.fr (cell_lt q1) g1
            have g2 := hb2.fr (cell_lt q2) g2
            have g3 := hb2.fr (cell_lt q3) g3
            have q0 := hb2.at q0
            have q1 := hb2.at q1
            have q2 := hb2.at q2
            have q3 := hb2.at q3
            go_wp2_with fail
            go_meet
            rw [← hr2'.out]
            exact StepSt.store hcut2 hb2 (by rw [show r2 = _ from congrArg Prod.fst hr2.out]; exact Slots.small_sync HSM2.out) o3.rb o4.rb o3.le o4.le
          · have HW := Lib.hid (show Slots.wr3 u2 k = u2 from if_neg h3)
            refine wp_cond (t := false) (by first | rfl | (simp [Act.eval]; done) | (simp [Act.eval]; omega)) ?_
            clear h3
            conv => arg 2; whnf
            go_wp2_with fail
            go_meet
            rw [HW.out]
            exact hcut2
        case rest =>
          have hcut3 := hcut
          clear hcut hcut2
          generalize hd3 : Slots.wr3 u2 k = u3 at hcut3
          have HD3 := Lib.hid (show u3 = Slots.wr ⟨s, t, cap, dn⟩ (Frame.enc ⟨n, b⟩) k by rw [← hd3, ← HD2.out, ← HD1.out]; rfl)
          clear hd3
          obtain ⟨hv2, hz2, hb7, hab2, hsm2, D2, E2, d2, e2, ⟨q0, q1, q2, q3, g0, g1, g2, g3⟩, p1, p2, l1, l2⟩ := hcut3
          have HSM := Lib.hid hsm2
          clear hsm2
          have HV2 := hv2
          obtain ⟨vq0, vq1, vq2, vq3, vq4, vq5, vq6, vq7, vq8, vg0, vg1, vg2, vg3, vg4, vg5, vg6, vg7, vg8⟩ := hv2
          (try simp only [AM.nil, Slots.zero, Disk.zero, List.length_nil] at vq0 vq1 vq2 vq3 vq4 vq5 vq6 vq7 vq8)
          go_wp2_with fail
          refine (stwin_any (⟨A, B, C, D, ca, cb, cc, cd⟩ : AM) (⟨⟨s, t, cap, dn⟩, ⟨p, q, cep, dm⟩, n⟩ : Sl) _ (h.ab hab2)).mono ?_
          rintro e w5 ⟨r5, m5, hr5, rfl, hM5, hb5⟩
          have HR5 := Lib.hid hr5.out
          have b5 : Ab w w5 := hab2.trans hb5
          have g0 := hb5.fr (cell_lt q0) g0
          have g1 := hb5.fr (cell_lt q1) g1
          have g2 := hb5.fr (cell_lt q2) g2
          have g3 := hb5.fr (cell_lt q3) g3
          have q0 := hb5.at q0
          have q1 := hb5.at q1
          have q2 := hb5.at q2
          have q3 := hb5.at q3
          clear vq0 vq1 vq2 vq3 vq4 vq5 vq6 vq7 vq8 vg0 vg1 vg2 vg3 vg4 vg5 vg6 vg7 vg8
          obtain ⟨vq0, vq1, vq2, vq3, vq4, vq5, vq6, vq7, vq8, vg0, vg1, vg2, vg3, vg4, vg5, vg6, vg7, vg8⟩ := (HV2.ab hb5)
          (try simp only [AM.nil, Slots.zero, Disk.zero, List.length_nil] at vq0 vq1 vq2 vq3 vq4 vq5 vq6 vq7 vq8)
          obtain ⟨zq0, zq1, zq2, zq3, zq4, zq5, zq6, zq7, zq8, zg0, zg1, zg2, zg3, zg4, zg5, zg6, zg7, zg8⟩ := (hz2.ab hb5)
          (try simp only [AM.nil, Slots.zero, Disk.zero, List.length_nil] at zq0 zq1 zq2 zq3 zq4 zq5 zq6 zq7 zq8)
          have ss0 := cell_lt vq0
          have ss1 := cell_lt zq0
          have ss2 := cell_lt q0
          simp only at ss0 ss1 ss2
          have nva := fun (o : Obj) (j : Nat) => World.cell?_alloc_lt w5 o ⟨w.heap.size, j, none⟩ (by simp only; omega)
          have nvb := fun (o : Obj) (j : Nat) => ((Ab.refl w5).alloc o).frozen (p := ⟨w.heap.size, j, none⟩) (by simp only; omega)
          have nza := fun (o : Obj) (j : Nat) => World.cell?_alloc_lt w5 o ⟨w.heap.size + 1, j, none⟩ (by simp only; omega)
          have nzb := fun (o : Obj) (j : Nat) => ((Ab.refl w5).alloc o).frozen (p := ⟨w.heap.size + 1, j, none⟩) (by simp only; omega)
          have nqa := fun (o : Obj) (j : Nat) => World.cell?_alloc_lt w5 o ⟨w1.heap.size, j, none⟩ (by simp only; omega)
          have nqb := fun (o : Obj) (j : Nat) => ((Ab.refl w5).alloc o).frozen (p := ⟨w1.heap.size, j, none⟩) (by simp only; omega)
          have ne1 : w.heap.size ≠ w5.heap.size := by omega
          have ne2 : w.heap.size + 1 ≠ w5.heap.size := by omega
          have ne3 : w1.heap.size ≠ w5.heap.size := by omega
          have p1 := p1.ab hb5
          have p2 := p2.ab hb5
          have hM5 : SlM w5 (w.heap.size + 1 + 1) m5 r5 := hM5.mono (by have := hab2.size; have := cell_lt (hz2.q0); simp only at this; omega)
          have hal : Ab w5 (w5.alloc (.cells #[.slice m5.A r5.a.s.length m5.ca, .slice m5.B r5.a.t.length m5.cb, .int .i64 r5.a.cap, .bool r5.a.down, .slice m5.C r5.b.s.length m5.cc, .slice m5.D r5.b.t.length m5.cd, .int .i64 r5.b.cap, .bool r5.b.down, .int .i64 r5.n] 27)) := (Ab.refl w5).alloc _
          clear hb5 hr5
          go_wp2
          refine bodyPost_ret (v := .agg #[.slice (⟨D2, E2, m5.C, m5.D, d2, e2, m5.cc, m5.cd⟩ : AM).A (⟨u3, r5.b, r5.n⟩ : Sl).a.s.length (⟨D2, E2, m5.C, m5.D, d2, e2, m5.cc, m5.cd⟩ : AM).ca, .slice (⟨D2, E2, m5.C, m5.D, d2, e2, m5.cc, m5.cd⟩ : AM).B (⟨u3, r5.b, r5.n⟩ : Sl).a.t.length (⟨D2, E2, m5.C, m5.D, d2, e2, m5.cc, m5.cd⟩ : AM).cb, .int .i64 (⟨u3, r5.b, r5.n⟩ : Sl).a.cap, .bool (⟨u3, r5.b, r5.n⟩ : Sl).a.down, .slice (⟨D2, E2, m5.C, m5.D, d2, e2, m5.cc, m5.cd⟩ : AM).C (⟨u3, r5.b, r5.n⟩ : Sl).b.s.length (⟨D2, E2, m5.C, m5.D, d2, e2, m5.cc, m5.cd⟩ : AM).cc, .slice (⟨D2, E2, m5.C, m5.D, d2, e2, m5.cc, m5.cd⟩ : AM).D (⟨u3, r5.b, r5.n⟩ : Sl).b.t.length (⟨D2, E2, m5.C, m5.D, d2, e2, m5.cc, m5.cd⟩ : AM).cd, .int .i64 (⟨u3, r5.b, r5.n⟩ : Sl).b.cap, .bool (⟨u3, r5.b, r5.n⟩ : Sl).b.down, .int .i64 (⟨u3, r5.b, r5.n⟩ : Sl).n]) (by simp [results, Try.results42, go_sem, *]) rfl ?_
          refine ⟨⟨u3, r5.b, r5.n⟩, ⟨D2, E2, m5.C, m5.D, d2, e2, m5.cc, m5.cd⟩, Lib.hid (by rw [HR5.out, HD3.out]; simp [Slots.Sl.put, Slots.Sl.cur, Slots.Sl.oth, HP.out]), rfl, SlM.mono (lo := w.heap.size + 1 + 1) ⟨?_, ?_, ?_, ?_, l1, l2, hM5.lc, hM5.ld, HSM.out.1, HSM.out.2, hM5.sc, hM5.sd⟩ (by omega), (by repeat (first | with_reducible exact Ab.refl _ | with_reducible assumption | with_reducible refine Ab.drew ?_ | with_reducible refine Ab.drewN ?_ _ | with_reducible refine Ab.alloc ?_ _ | with_reducible refine Ab.trans ?_ (by assumption) | with_reducible refine Ab.set ?_ (by first | (simp; done) | omega | (simp; omega)) _))⟩
          · with_reducible refine RB.ab ?_ ((Ab.refl _).alloc _)
            (repeat with_reducible refine RB.put ?_ (by first | (simp; done) | omega | (simp; omega)) _)
            exact p1
          · with_reducible refine RB.ab ?_ ((Ab.refl _).alloc _)
            (repeat with_reducible refine RB.put ?_ (by first | (simp; done) | omega | (simp; omega)) _)
            exact p2
          · with_reducible refine RB.ab ?_ ((Ab.refl _).alloc _)
            (repeat with_reducible refine RB.put ?_ (by first | (simp; done) | omega | (simp; omega)) _)
            exact hM5.c
          · with_reducible refine RB.ab ?_ ((Ab.refl _).alloc _)
            (repeat with_reducible refine RB.put ?_ (by first | (simp; done) | omega | (simp; omega)) _)
            exact hM5.d
  · have ht0 : n.tmod 2 = 1 := by rw [Int.tmod_eq_emod_of_nonneg hn0]; exact hp0
    have HP := Lib.hid hp0
    go_enter Try.func42, Try.ntmps42
    go_wp2_with fail
    refine (twin_any C D cc cd p q cep dm _ (h.c.ab (by repeat (first | with_reducible exact Ab.refl _ | with_reducible assumption | with_reducible refine Ab.drew ?_ | with_reducible refine Ab.drewN ?_ _ | with_reducible refine Ab.alloc ?_ _ | with_reducible refine Ab.trans ?_ (by assumption) | with_reducible refine Ab.set ?_ (by first | (simp; done) | omega | (simp; omega)) _))) (h.d.ab (by repeat (first | with_reducible exact Ab.refl _ | with_reducible assumption | with_reducible refine Ab.drew ?_ | with_reducible refine Ab.drewN ?_ _ | with_reducible refine Ab.alloc ?_ _ | with_reducible refine Ab.trans ?_ (by assumption) | with_reducible refine Ab.set ?_ (by first | (simp; done) | omega | (simp; omega)) _))) h.lc h.ld h.sc h.sd).mono ?_
    rintro e w1 ⟨r1, D1, E1, d1, e1, hr1, rfl, o1, o2, hb1⟩
    go_upto_if 17 with fail
    have hz1 := (SlB.box (w := (w.alloc (.cells #[.slice A s.length ca, .slice B t.length cb, .int .i64 cap, .bool dn, .slice C p.length cc, .slice D q.length cd, .int .i64 cep, .bool dm, .int .i64 n] 27)).alloc (.cells #[.slice none 0 0, .slice none 0 0, .int .i64 0, .bool false, .slice none 0 0, .slice none 0 0, .int .i64 0, .bool false, .int .i64 0] 27)) (b := w.heap.size + 1) (m := AM.nil) (r := Slots.zero) (new_plain (by simp))).ab hb1
    have hv1 := (SlB.box (w := (w.alloc (.cells #[.slice A s.length ca, .slice B t.length cb, .int .i64 cap, .bool dn, .slice C p.length cc, .slice D q.length cd, .int .i64 cep, .bool dm, .int .i64 n] 27)).alloc (.cells #[.slice none 0 0, .slice none 0 0, .int .i64 0, .bool false, .slice none 0 0, .slice none 0 0, .int .i64 0, .bool false, .int .i64 0] 27)) (b := w.heap.size) (m := (⟨A, B, C, D, ca, cb, cc, cd⟩ : AM)) (r := (⟨⟨s, t, cap, dn⟩, ⟨p, q, cep, dm⟩, n⟩ : Sl)) (old_alloc (new_plain rfl))).ab hb1
    have zz1 : w.heap.size + 1 + 1 ≤ w1.heap.size := by have := hb1.size; simpa using this
    have b1 : Ab w w1 := (by repeat (first | with_reducible exact Ab.refl _ | with_reducible assumption | with_reducible refine Ab.drew ?_ | with_reducible refine Ab.drewN ?_ _ | with_reducible refine Ab.alloc ?_ _ | with_reducible refine Ab.trans ?_ (by assumption) | with_reducible refine Ab.set ?_ (by first | (simp; done) | omega | (simp; omega)) _))
    have HSM : Slots.Small r1 := by rw [hr1.out]; exact ⟨h.sc, h.sd⟩
    have hStart : StepSt w (w1.alloc (.cells #[.slice D1 r1.s.length d1, .slice E1 r1.t.length e1, .int .i64 r1.cap, .bool r1.down] 24)) (⟨A, B, C, D, ca, cb, cc, cd⟩ : AM) (⟨⟨s, t, cap, dn⟩, ⟨p, q, cep, dm⟩, n⟩ : Sl) w1.heap.size r1 :=
      StepSt.start hv1 hz1 zz1 b1 HSM (o1.rb.mono (by simp)) (o2.rb.mono (by simp)) o1.le o2.le
    have HSM := Lib.hid HSM
    go_cut [18] (fun _ wx => StepSt w wx (⟨A, B, C, D, ca, cb, cc, cd⟩ : AM) (⟨⟨s, t, cap, dn⟩, ⟨p, q, cep, dm⟩, n⟩ : Sl) w1.heap.size (Slots.wr1 ⟨p, q, cep, dm⟩ k))
    case first =>
      by_cases h1 : 1 ≤ k
      · have c1 : decide (0 < k) = true := by simp; omega
        have HW := Lib.hid (show Slots.wr1 ⟨p, q, cep, dm⟩ k = (Disk.truncate ⟨p, q, cep, dm⟩ 0).1 from if_pos h1)
        have HR := Lib.hid hr1.out
        refine wp_cond (t := true) (by first | rfl | (simp [Act.eval]; done) | (simp [Act.eval]; omega)) ?_
        clear h1
        conv => arg 2; whnf
        go_wp2_with fail
        refine (refTruncate_any D1 E1 d1 e1 r1.s r1.t r1.cap r1.down _ (o1.rb.zero.ab (by repeat (first | with_reducible exact Ab.refl _ | with_reducible assumption | with_reducible refine Ab.drew ?_ | with_reducible refine Ab.drewN ?_ _ | with_reducible refine Ab.alloc ?_ _ | with_reducible refine Ab.trans ?_ (by assumption) | with_reducible refine Ab.set ?_ (by first | (simp; done) | omega | (simp; omega)) _))) (o2.rb.zero.ab (by repeat (first | with_reducible exact Ab.refl _ | with_reducible assumption | with_reducible refine Ab.drew ?_ | with_reducible refine Ab.drewN ?_ _ | with_reducible refine Ab.alloc ?_ _ | with_reducible refine Ab.trans ?_ (by assumption) | with_reducible refine Ab.set ?_ (by first | (simp; done) | omega | (simp; omega)) _))) o1.le o2.le HSM.out.1 HSM.out.2 0).mono ?_
        rintro e w2 ⟨r2, er2, D2, E2, d2, e2, hr2, rfl, o3, o4, hb2⟩
        have hr2' := Lib.hid (show r2 = Slots.wr1 ⟨p, q, cep, dm⟩ k by rw [HW.out, ← HR.out]; exact congrArg Prod.fst hr2.out)
        have HS := hStart
        obtain ⟨_, _, _, _, _, _, _, _, _, ⟨q0, q1, q2, q3, g0, g1, g2, g3⟩, _, _, _, _⟩ := HS
        have g0 := hb2.fr (cell_lt q0) g0
        have g1 := hb2.fr (cell_lt q1) g1
        have g2 := hb2.fr (cell_lt q2) g2
        have g3 := hb2.fr (cell_lt q3) g3
        have q0 := hb2.at q0
        have q1 := hb2.at q1
        have q2 := hb2.at q2
        have q3 := hb2.at q3
        go_wp2_with fail
        go_meet
        rw [← hr2'.out]
        exact StepSt.store hStart hb2 (by rw [show r2 = _ from congrArg Prod.fst hr2.out]; exact Slots.small_trunc 0 HSM.out) o3.rb o4.rb o3.le o4.le
      · have c1 : decide (0 < k) = false := by simp; omega
        have HW := Lib.hid (show Slots.wr1 ⟨p, q, cep, dm⟩ k = ⟨p, q, cep, dm⟩ from if_neg h1)
        have HR := Lib.hid hr1.out
        refine wp_cond (t := false) (by first | rfl | (simp [Act.eval]; done) | (simp [Act.eval]; omega)) ?_
        clear h1
        conv => arg 2; whnf
        go_wp2_with fail
        go_meet
        rw [HW.out.trans HR.out.symm]
        exact hStart
    case rest =>
      have hcut1 := hcut
      clear hcut
      generalize hd1 : Slots.wr1 ⟨p, q, cep, dm⟩ k = u1 at hcut1
      have HD1 := Lib.hid hd1
      clear hd1
      go_upto_if 24 with fail
      go_cut [25] (fun _ wx => StepSt w wx (⟨A, B, C, D, ca, cb, cc, cd⟩ : AM) (⟨⟨s, t, cap, dn⟩, ⟨p, q, cep, dm⟩, n⟩ : Sl) w1.heap.size (Slots.wr2 u1 (Frame.enc ⟨n, b⟩) k))
      case first =>
        by_cases h2 : 2 ≤ k
        · have HW := Lib.hid (show Slots.wr2 u1 (Frame.enc ⟨n, b⟩) k = (Disk.append u1 (Frame.enc ⟨n, b⟩)).1 from if_pos h2)
          refine wp_cond (t := true) (by first | rfl | (simp [Act.eval]; done) | (simp [Act.eval]; omega)) ?_
          clear h2
          conv => arg 2; whnf
          have HS := hcut1
          obtain ⟨hv2, hz2, _, hab2, hsm2, D2, E2, d2, e2, ⟨q0, q1, q2, q3, g0, g1, g2, g3⟩, p1, p2, l1, l2⟩ := HS
          have bq := hv2.q8
          have HSM2 := Lib.hid hsm2
          clear hv2 hz2 hsm2
          refine wp_region_held_drew (by kernel_rfl) (S := fun w' => w'.cell? ⟨w.heap.size, 8, none⟩ = some (.int .i64 n)) ?_ (fun hHeld => ?_)
          · exact (by (repeat (first | with_reducible assumption | (simp [go_sem]; done) | with_reducible apply cell_alloc | with_reducible apply cell_drew | with_reducible apply cell_drewN | (with_reducible apply Ab.at; with_reducible assumption) | (with_reducible refine cell_set ?_ ?_; rotate_left; focus (first | (simp; done) | (simp; omega))) | (with_reducible refine cell_setb ?_ ?_; rotate_left; focus (first | omega | (simp only; omega) | (simp; omega))))))
          (refine wpAnyH_take (i := 1) (v := ?_) rfl (by kernel_rfl) (by kernel_rfl) (by kernel_rfl) (fun _ _ _ h => h) (Or.inl ⟨by kernel_rfl, ?_⟩) (by assumption) ?_
           rotate_left
           · (intro w hSw; (try dsimp only at hSw); go_simp; (try with_reducible rfl))
           (try simp only [Act.put, List.setIfInBounds_toArray, List.set_cons_zero, List.set_cons_succ]))
          (refine wpAnyH_take (i := 2) (v := ?_) rfl (by kernel_rfl) (by kernel_rfl) (by kernel_rfl) (fun _ _ _ h => h) (Or.inl ⟨by kernel_rfl, ?_⟩) (by assumption) ?_
           rotate_left
           · (intro w hSw; (try dsimp only at hSw); go_simp; (try with_reducible rfl))
           (try simp only [Act.put, List.setIfInBounds_toArray, List.set_cons_zero, List.set_cons_succ]))
          (refine wpAnyH_take (i := 3) (v := ?_) rfl (by kernel_rfl) (by kernel_rfl) (by kernel_rfl) (fun _ _ _ h => h) (Or.inl ⟨by kernel_rfl, ?_⟩) (by assumption) ?_
           rotate_left
           · (intro w hSw; (try dsimp only at hSw); go_simp; (try with_reducible rfl))
           (try simp only [Act.put, List.setIfInBounds_toArray, List.set_cons_zero, List.set_cons_succ]))
          (refine wpAnyH_take (i := 4) (v := ?_) rfl (by kernel_rfl) (by kernel_rfl) (by kernel_rfl) (fun _ _ _ h => h) (Or.inl ⟨by kernel_rfl, ?_⟩) (by assumption) ?_
           rotate_left
           · (intro w hSw; (try dsimp only at hSw); go_simp; (try with_reducible rfl))
           (try simp only [Act.put, List.setIfInBounds_toArray, List.set_cons_zero, List.set_cons_succ]))
          (refine wpAnyH_ready (rs := [0, 5]) (by kernel_rfl) (by simp) ?_)
          refine AllReadyH.cons rfl (fun K hK => ?_) (AllReadyH.cons rfl (fun K hK => ?_) AllReadyH.nil)
          · (go_simp
             (refine hK.out _ _ ?_ (fun hHeld => ?_)
              · (try dsimp only); exact (by (repeat (first | with_reducible assumption | (simp [go_sem]; done) | with_reducible apply cell_alloc | with_reducible apply cell_drew | with_reducible apply cell_drewN | (with_reducible apply Ab.at; with_reducible assumption) | (with_reducible refine cell_set ?_ ?_; rotate_left; focus (first | (simp; done) | (simp; omega))) | (with_reducible refine cell_setb ?_ ?_; rotate_left; focus (first | omega | (simp only; omega) | (simp; omega))))))
              clear hK K
              (try simp only [Act.put, List.setIfInBounds_toArray, List.set_cons_zero, List.set_cons_succ])))
            (refine wpAnyH_ready (rs := [5]) (by kernel_rfl) (by simp) ?_)
            refine AllReadyH.cons rfl (fun K hK => ?_) AllReadyH.nil
            (go_simp
             (go_at_call 57
              refine (bytes_any n X b cx _ HV.out (hx.ab (by repeat (first | with_reducible exact Ab.refl _ | with_reducible assumption | with_reducible refine Ab.drew ?_ | with_reducible refine Ab.drewN ?_ _ | with_reducible refine Ab.alloc ?_ _ | with_reducible refine Ab.trans ?_ (by assumption) | with_reducible refine Ab.set ?_ (by first | (simp; done) | omega | (simp; omega)) _))) hcx).mono ?_
              rintro e w3 ⟨E3, c3, L, hE, rfl, oE, hb3⟩
              have hb3 : Ab wc w3 := ((Ab.refl wc).drew).trans hb3)
             (try go_wp2_with fail)
             (refine hK.out _ _ ?_ (fun hHeld => ?_)
              · (try dsimp only); exact (by (repeat (first | with_reducible assumption | (simp [go_sem]; done) | with_reducible apply cell_alloc | with_reducible apply cell_drew | with_reducible apply cell_drewN | (with_reducible apply Ab.at; with_reducible assumption) | (with_reducible refine cell_set ?_ ?_; rotate_left; focus (first | (simp; done) | (simp; omega))) | (with_reducible refine cell_setb ?_ ?_; rotate_left; focus (first | omega | (simp only; omega) | (simp; omega))))))
              clear hK K
              (try simp only [Act.put, List.setIfInBounds_toArray, List.set_cons_zero, List.set_cons_succ])))
            have g0 := hb3.fr (cell_lt q0) g0
            have g1 := hb3.fr (cell_lt q1) g1
            have g2 := hb3.fr (cell_lt q2) g2
            have g3 := hb3.fr (cell_lt q3) g3
            have q0 := hb3.at q0
            have q1 := hb3.at q1
            have q2 := hb3.at q2
            have q3 := hb3.at q3
            (refine wpAnyH_ready (rs := [6]) (by kernel_rfl) (by simp) ?_)
            refine AllReadyH.cons rfl (fun K hK => ?_) AllReadyH.nil
            (go_simp
             (go_at_call 59
              refine (refAppend_any D2 E2 d2 e2 u1.s u1.t u1.cap u1.down _ (p1.ab hb3).zero (p2.ab hb3).zero l1 l2 HSM2.out.1 HSM2.out.2 E3 c3 L oE.rb.zero oE.le (by rw [hE.out, Frame.enc_length]; have := HV.out.2.2; simp only at this ⊢; omega)).mono ?_
              rintro e w4 ⟨r2, er2, D4, E4, d4, e4, hr2, rfl, o3, o4, hb4⟩)
             (try go_wp2_with fail)
             (refine hK.out _ _ ?_ (fun hHeld => ?_)
              · (try dsimp only); exact (by (repeat (first | with_reducible assumption | (simp [go_sem]; done) | with_reducible apply cell_alloc | with_reducible apply cell_drew | with_reducible apply cell_drewN | (with_reducible apply Ab.at; with_reducible assumption) | (with_reducible refine cell_set ?_ ?_; rotate_left; focus (first | (simp; done) | (simp; omega))) | (with_reducible refine cell_setb ?_ ?_; rotate_left; focus (first | omega | (simp only; omega) | (simp; omega))))))
              clear hK K
              (try simp only [Act.put, List.setIfInBounds_toArray, List.set_cons_zero, List.set_cons_succ])))
            have g0 := hb4.fr (cell_lt q0) g0
            have g1 := hb4.fr (cell_lt q1) g1
            have g2 := hb4.fr (cell_lt q2) g2
            have g3 := hb4.fr (cell_lt q3) g3
            have q0 := hb4.at q0
            have q1 := hb4.at q1
            have q2 := hb4.at q2
            have q3 := hb4.at q3
            (refine wpAnyH_take (i := 7) (v := ?_) rfl (by kernel_rfl) (by kernel_rfl) (by kernel_rfl) (fun _ _ _ h => h) (Or.inl ⟨by kernel_rfl, ?_⟩) (by assumption) ?_
             rotate_left
             · (intro w hSw; (try dsimp only at hSw); go_simp; (try with_reducible rfl))
             (try simp only [Act.put, List.setIfInBounds_toArray, List.set_cons_zero, List.set_cons_succ]))
            (refine wpAnyH_take (i := 8) (v := ?_) rfl (by kernel_rfl) (by kernel_rfl) (by kernel_rfl) (fun _ _ _ h => h) (Or.inl ⟨by kernel_rfl, ?_⟩) (by assumption) ?_
             rotate_left
             · (intro w hSw; (try dsimp only at hSw); go_simp; (try with_reducible rfl))
             (try simp only [Act.put, List.setIfInBounds_toArray, List.set_cons_zero, List.set_cons_succ]))
            (refine wpAnyH_take (i := 9) (v := ?_) rfl (by kernel_rfl) (by kernel_rfl) (by kernel_rfl) (fun _ _ _ h => h) (Or.inl ⟨by kernel_rfl, ?_⟩) (by assumption) ?_
             rotate_left
             · (intro w hSw; (try dsimp only at hSw); go_simp; (try with_reducible rfl))
             (try simp only [Act.put, List.setIfInBounds_toArray, List.set_cons_zero, List.set_cons_succ]))
            have hne8 : w.heap.size ≠ w1.heap.size := by omega
            (refine wpAnyH_ready (rs := [10]) (by kernel_rfl) (by simp) ?_)
            refine AllReadyH.cons rfl (fun K hK => ?_) AllReadyH.nil
            (go_simp
             (refine hK.out _ _ ?_ (fun hHeld => ?_)
              · (try dsimp only); exact (by (repeat (first | with_reducible assumption | (simp [go_sem]; done) | with_reducible apply cell_alloc | with_reducible apply cell_drew | with_reducible apply cell_drewN | (with_reducible apply Ab.at; with_reducible assumption) | (with_reducible refine cell_set ?_ ?_; rotate_left; focus (first | (simp; done) | (simp; omega))) | (with_reducible refine cell_setb ?_ ?_; rotate_left; focus (first | omega | (simp only; omega) | (simp; omega))))))
              clear hK K
              (try simp only [Act.put, List.setIfInBounds_toArray, List.set_cons_zero, List.set_cons_succ])))
            refine wpAnyH_done (by kernel_rfl) ?_ _
            go_wp2_with fail
            go_meet
            have hr2' : r2 = Slots.wr2 u1 (Frame.enc ⟨n, b⟩) k := by rw [HW.out, ← hE.out]; exact congrArg Prod.fst hr2.out
            rw [← hr2']
            exact StepSt.store hcut1 (hb3.trans hb4) (by rw [show r2 = _ from congrArg Prod.fst hr2.out]; exact Slots.small_app _ HSM2.out) (o3.rb.mono hb3.size) (o4.rb.mono hb3.size) o3.le o4.le
          · (go_simp
             (go_at_call 57
              refine (bytes_any n X b cx _ HV.out (hx.ab (by repeat (first | with_reducible exact Ab.refl _ | with_reducible assumption | with_reducible refine Ab.drew ?_ | with_reducible refine Ab.drewN ?_ _ | with_reducible refine Ab.alloc ?_ _ | with_reducible refine Ab.trans ?_ (by assumption) | with_reducible refine Ab.set ?_ (by first | (simp; done) | omega | (simp; omega)) _))) hcx).mono ?_
              rintro e w3 ⟨E3, c3, L, hE, rfl, oE, hb3⟩
              have hb3 : Ab wc w3 := ((Ab.refl wc).drew).trans hb3)
             (try go_wp2_with fail)
             (refine hK.out _ _ ?_ (fun hHeld => ?_)
              · (try dsimp only); exact (by (repeat (first | with_reducible assumption | (simp [go_sem]; done) | with_reducible apply cell_alloc | with_reducible apply cell_drew | with_reducible apply cell_drewN | (with_reducible apply Ab.at; with_reducible assumption) | (with_reducible refine cell_set ?_ ?_; rotate_left; focus (first | (simp; done) | (simp; omega))) | (with_reducible refine cell_setb ?_ ?_; rotate_left; focus (first | omega | (simp only; omega) | (simp; omega))))))
              clear hK K
              (try simp only [Act.put, List.setIfInBounds_toArray, List.set_cons_zero, List.set_cons_succ])))
            have g0 := hb3.fr (cell_lt q0) g0
            have g1 := hb3.fr (cell_lt q1) g1
            have g2 := hb3.fr (cell_lt q2) g2
            have g3 := hb3.fr (cell_lt q3) g3
            have q0 := hb3.at q0
            have q1 := hb3.at q1
            have q2 := hb3.at q2
            have q3 := hb3.at q3
            (refine wpAnyH_ready (rs := [0]) (by kernel_rfl) (by simp) ?_)
            refine AllReadyH.cons rfl (fun K hK => ?_) AllReadyH.nil
            (go_simp
             (refine hK.out _ _ ?_ (fun hHeld => ?_)
              · (try dsimp only); exact (by (repeat (first | with_reducible assumption | (simp [go_sem]; done) | with_reducible apply cell_alloc | with_reducible apply cell_drew | with_reducible apply cell_drewN | (with_reducible apply Ab.at; with_reducible assumption) | (with_reducible refine cell_set ?_ ?_; rotate_left; focus (first | (simp; done) | (simp; omega))) | (with_reducible refine cell_setb ?_ ?_; rotate_left; focus (first | omega | (simp only; omega) | (simp; omega))))))
              clear hK K
              (try simp only [Act.put, List.setIfInBounds_toArray, List.set_cons_zero, List.set_cons_succ])))
            (refine wpAnyH_ready (rs := [6]) (by kernel_rfl) (by simp) ?_)
            refine AllReadyH.cons rfl (fun K hK => ?_) AllReadyH.nil
            (go_simp
             (go_at_call 59
              refine (refAppend_any D2 E2 d2 e2 u1.s u1.t u1.cap u1.down _ (p1.ab hb3).zero (p2.ab hb3).zero l1 l2 HSM2.out.1 HSM2.out.2 E3 c3 L oE.rb.zero oE.le (by rw [hE.out, Frame.enc_length]; have := HV.out.2.2; simp only at this ⊢; omega)).mono ?_
              rintro e w4 ⟨r2, er2, D4, E4, d4, e4, hr2, rfl, o3, o4, hb4⟩)
             (try go_wp2_with fail)
             (refine hK.out _ _ ?_ (fun hHeld => ?_)
              · (try dsimp only); exact (by (repeat (first | with_reducible assumption | (simp [go_sem]; done) | with_reducible apply cell_alloc | with_reducible apply cell_drew | with_reducible apply cell_drewN | (with_reducible apply Ab.at; with_reducible assumption) | (with_reducible refine cell_set ?_ ?_; rotate_left; focus (first | (simp; done) | (simp; omega))) | (with_reducible refine cell_setb ?_ ?_; rotate_left; focus (first | omega | (simp only; omega) | (simp; omega))))))
              clear hK K
              (try simp only [Act.put, List.setIfInBounds_toArray, List.set_cons_zero, List.set_cons_succ])))
            have g0 := hb4.fr (cell_lt q0) g0
            have g1 := hb4.fr (cell_lt q1) g1
            have g2 := hb4.fr (cell_lt q2) g2
            have g3 := hb4.fr (cell_lt q3) g3
            have q0 := hb4.at q0
            have q1 := hb4.at q1
            have q2 := hb4.at q2
            have q3 := hb4.at q3
            (refine wpAnyH_take (i := 7) (v := ?_) rfl (by kernel_rfl) (by kernel_rfl) (by kernel_rfl) (fun _ _ _ h => h) (Or.inl ⟨by kernel_rfl, ?_⟩) (by assumption) ?_
             rotate_left
             · (intro w hSw; (try dsimp only at hSw); go_simp; (try with_reducible rfl))
             (try simp only [Act.put, List.setIfInBounds_toArray, List.set_cons_zero, List.set_cons_succ]))
            (refine wpAnyH_take (i := 8) (v := ?_) rfl (by kernel_rfl) (by kernel_rfl) (by kernel_rfl) (fun _ _ _ h => h) (Or.inl ⟨by kernel_rfl, ?_⟩) (by assumption) ?_
             rotate_left
             · (intro w hSw; (try dsimp only at hSw); go_simp; (try with_reducible rfl))
             (try simp only [Act.put, List.setIfInBounds_toArray, List.set_cons_zero, List.set_cons_succ]))
            (refine wpAnyH_take (i := 9) (v := ?_) rfl (by kernel_rfl) (by kernel_rfl) (by kernel_rfl) (fun _ _ _ h => h) (Or.inl ⟨by kernel_rfl, ?_⟩) (by assumption) ?_
             rotate_left
             · (intro w hSw; (try dsimp only at hSw); go_simp; (try with_reducible rfl))
             (try simp only [Act.put, List.setIfInBounds_toArray, List.set_cons_zero, List.set_cons_succ]))
            have hne8 : w.heap.size ≠ w1.heap.size := by omega
            (refine wpAnyH_ready (rs := [10]) (by kernel_rfl) (by simp) ?_)
            refine AllReadyH.cons rfl (fun K hK => ?_) AllReadyH.nil
            (go_simp
             (refine hK.out _ _ ?_ (fun hHeld => ?_)
              · (try dsimp only); exact (by (repeat (first | with_reducible assumption | (simp [go_sem]; done) | with_reducible apply cell_alloc | with_reducible apply cell_drew | with_reducible apply cell_drewN | (with_reducible apply Ab.at; with_reducible assumption) | (with_reducible refine cell_set ?_ ?_; rotate_left; focus (first | (simp; done) | (simp; omega))) | (with_reducible refine cell_setb ?_ ?_; rotate_left; focus (first | omega | (simp only; omega) | (simp; omega))))))
              clear hK K
              (try simp only [Act.put, List.setIfInBounds_toArray, List.set_cons_zero, List.set_cons_succ])))
            refine wpAnyH_done (by kernel_rfl) ?_ _
            go_wp2_with fail
            go_meet
            have hr2' : r2 = Slots.wr2 u1 (Frame.enc ⟨n, b⟩) k := by rw [HW.out, ← hE.out]; exact congrArg Prod.fst hr2.out
            rw [← hr2']
            exact StepSt.store hcut1 (hb3.trans hb4) (by rw [show r2 = _ from congrArg Prod.fst hr2.out]; exact Slots.small_app _ HSM2.out) (o3.rb.mono hb3.size) (o4.rb.mono hb3.size) o3.le o4.le
        · have HW := Lib.hid (show Slots.wr2 u1 (Frame.enc ⟨n, b⟩) k = u1 from if_neg h2)
          refine wp_cond (t := false) (by first | rfl | (simp [Act.eval]; done) | (simp [Act.eval]; omega)) ?_
          clear h2
          conv => arg 2; whnf
          go_wp2_with fail
          go_meet
          rw [HW.out]
          exact hcut1
      case rest =>
        have hcut2 := hcut
        clear hcut hcut1
        generalize hd2 : Slots.wr2 u1 (Frame.enc ⟨n, b⟩) k = u2 at hcut2
        have HD2 := Lib.hid hd2
        clear hd2
        go_upto_if 36 with fail
        go_cut [37] (fun _ wx => StepSt w wx (⟨A, B, C, D, ca, cb, cc, cd⟩ : AM) (⟨⟨s, t, cap, dn⟩, ⟨p, q, cep, dm⟩, n⟩ : Sl) w1.heap.size (Slots.wr3 u2 k))
        case first =>
          by_cases h3 : 3 ≤ k
          · have HW := Lib.hid (show Slots.wr3 u2 k = (Disk.sync u2).1 from if_pos h3)
            refine wp_cond (t := true) (by first | rfl | (simp [Act.eval]; done) | (simp [Act.eval]; omega)) ?_
            clear h3
            conv => arg 2; whnf
            have HS := hcut2
            obtain ⟨_, _, _, hab2, hsm2, D2, E2, d2, e2, ⟨q0, q1, q2, q3, g0, g1, g2, g3⟩, p1, p2, l1, l2⟩ := HS
            have HSM2 := Lib.hid hsm2
            clear hsm2
            go_wp2_with fail
            refine (refSync_any D2 E2 d2 e2 u2.s u2.t u2.cap u2.down _ p1.zero p2.zero l1 l2 HSM2.out.1 HSM2.out.2).mono ?_
            rintro e w2 ⟨r2, er2, D4, E4, d4, e4, hr2, rfl, o3, o4, hb2⟩
            have hr2' := Lib.hid (show r2 = Slots.wr3 u2 k by rw [HW.out]; exact congrArg Prod.fst hr2.out)
            clear q0 q1 q2 q3 g0 g1 g2 g3
            have HS := hcut2
            obtain ⟨_, _, _, _, _, _, _, _, _, ⟨q0, q1, q2, q3, g0, g1, g2, g3⟩, _, _, _, _⟩ := HS
            have g0 := hb2.fr (cell_lt q0) g0
            have g1 := hb2.fr (cell_lt q1) g1
            have g2 := hb2.fr (cell_lt q2) g2
            have g3 := hb2.fr (cell_lt q3) g3
            have q0 := hb2.at q0
            have q1 := hb2.at q1
            have q2 := hb2.at q2
            have q3 := hb2.at q3
            go_wp2_with fail
            go_meet
            rw [← hr2'.out]
            exact StepSt.store hcut2 hb2 (by rw [show r2 = _ from congrArg Prod.fst hr2.out]; exact Slots.small_sync HSM2.out) o3.rb o4.rb o3.le o4.le
          · have HW := Lib.hid (show Slots.wr3 u2 k = u2 from if_neg h3)
            refine wp_cond (t := false) (by first | rfl | (simp [Act.eval]; done) | (simp [Act.eval]; omega)) ?_
            clear h3
            conv => arg 2; whnf
            go_wp2_with fail
            go_meet
            rw [HW.out]
            exact hcut2
        case rest =>
          have hcut3 := hcut
          clear hcut hcut2
          generalize hd3 : Slots.wr3 u2 k = u3 at hcut3
          have HD3 := Lib.hid (show u3 = Slots.wr ⟨p, q, cep, dm⟩ (Frame.enc ⟨n, b⟩) k by rw [← hd3, ← HD2.out, ← HD1.out]; rfl)
          clear hd3
          obtain ⟨hv2, hz2, hb7, hab2, hsm2, D2, E2, d2, e2, ⟨q0, q1, q2, q3, g0, g1, g2, g3⟩, p1, p2, l1, l2⟩ := hcut3
          have HSM := Lib.hid hsm2
          clear hsm2
          have HV2 := hv2
          obtain ⟨vq0, vq1, vq2, vq3, vq4, vq5, vq6, vq7, vq8, vg0, vg1, vg2, vg3, vg4, vg5, vg6, vg7, vg8⟩ := hv2
          (try simp only [AM.nil, Slots.zero, Disk.zero, List.length_nil] at vq0 vq1 vq2 vq3 vq4 vq5 vq6 vq7 vq8)
          go_wp2_with fail
          refine (stwin_any (⟨A, B, C, D, ca, cb, cc, cd⟩ : AM) (⟨⟨s, t, cap, dn⟩, ⟨p, q, cep, dm⟩, n⟩ : Sl) _ (h.ab hab2)).mono ?_
          rintro e w5 ⟨r5, m5, hr5, rfl, hM5, hb5⟩
          have HR5 := Lib.hid hr5.out
          have b5 : Ab w w5 := hab2.trans hb5
          have g0 := hb5.fr (cell_lt q0) g0
          have g1 := hb5.fr (cell_lt q1) g1
          have g2 := hb5.fr (cell_lt q2) g2
          have g3 := hb5.fr (cell_lt q3) g3
          have q0 := hb5.at q0
          have q1 := hb5.at q1
          have q2 := hb5.at q2
          have q3 := hb5.at q3
          clear vq0 vq1 vq2 vq3 vq4 vq5 vq6 vq7 vq8 vg0 vg1 vg2 vg3 vg4 vg5 vg6 vg7 vg8
          obtain ⟨vq0, vq1, vq2, vq3, vq4, vq5, vq6, vq7, vq8, vg0, vg1, vg2, vg3, vg4, vg5, vg6, vg7, vg8⟩ := (HV2.ab hb5)
          (try simp only [AM.nil, Slots.zero, Disk.zero, List.length_nil] at vq0 vq1 vq2 vq3 vq4 vq5 vq6 vq7 vq8)
          obtain ⟨zq0, zq1, zq2, zq3, zq4, zq5, zq6, zq7, zq8, zg0, zg1, zg2, zg3, zg4, zg5, zg6, zg7, zg8⟩ := (hz2.ab hb5)
          (try simp only [AM.nil, Slots.zero, Disk.zero, List.length_nil] at zq0 zq1 zq2 zq3 zq4 zq5 zq6 zq7 zq8)
          have ss0 := cell_lt vq0
          have ss1 := cell_lt zq0
          have ss2 := cell_lt q0
          simp only at ss0 ss1 ss2
          have nva := fun (o : Obj) (j : Nat) => World.cell?_alloc_lt w5 o ⟨w.heap.size, j, none⟩ (by simp only; omega)
          have nvb := fun (o : Obj) (j : Nat) => ((Ab.refl w5).alloc o).frozen (p := ⟨w.heap.size, j, none⟩) (by simp only; omega)
          have nza := fun (o : Obj) (j : Nat) => World.cell?_alloc_lt w5 o ⟨w.heap.size + 1, j, none⟩ (by simp only; omega)
          have nzb := fun (o : Obj) (j : Nat) => ((Ab.refl w5).alloc o).frozen (p := ⟨w.heap.size + 1, j, none⟩) (by simp only; omega)
          have nqa := fun (o : Obj) (j : Nat) => World.cell?_alloc_lt w5 o ⟨w1.heap.size, j, none⟩ (by simp only; omega)
          have nqb := fun (o : Obj) (j : Nat) => ((Ab.refl w5).alloc o).frozen (p := ⟨w1.heap.size, j, none⟩) (by simp only; omega)
          have ne1 : w.heap.size ≠ w5.heap.size := by omega
          have ne2 : w.heap.size + 1 ≠ w5.heap.size := by omega
          have ne3 : w1.heap.size ≠ w5.heap.size := by omega
          have p1 := p1.ab hb5
          have p2 := p2.ab hb5
          have hM5 : SlM w5 (w.heap.size + 1 + 1) m5 r5 := hM5.mono (by have := hab2.size; have := cell_lt (hz2.q0); simp only at this; omega)
          have hal : Ab w5 (w5.alloc (.cells #[.slice m5.A r5.a.s.length m5.ca, .slice m5.B r5.a.t.length m5.cb, .int .i64 r5.a.cap, .bool r5.a.down, .slice m5.C r5.b.s.length m5.cc, .slice m5.D r5.b.t.length m5.cd, .int .i64 r5.b.cap, .bool r5.b.down, .int .i64 r5.n] 27)) := (Ab.refl w5).alloc _
          clear hb5 hr5
          go_wp2
          refine bodyPost_ret (v := .agg #[.slice (⟨m5.A, m5.B, D2, E2, m5.ca, m5.cb, d2, e2⟩ : AM).A (⟨r5.a, u3, r5.n⟩ : Sl).a.s.length (⟨m5.A, m5.B, D2, E2, m5.ca, m5.cb, d2, e2⟩ : AM).ca, .slice (⟨m5.A, m5.B, D2, E2, m5.ca, m5.cb, d2, e2⟩ : AM).B (⟨r5.a, u3, r5.n⟩ : Sl).a.t.length (⟨m5.A, m5.B, D2, E2, m5.ca, m5.cb, d2, e2⟩ : AM).cb, .int .i64 (⟨r5.a, u3, r5.n⟩ : Sl).a.cap, .bool (⟨r5.a, u3, r5.n⟩ : Sl).a.down, .slice (⟨m5.A, m5.B, D2, E2, m5.ca, m5.cb, d2, e2⟩ : AM).C (⟨r5.a, u3, r5.n⟩ : Sl).b.s.length (⟨m5.A, m5.B, D2, E2, m5.ca, m5.cb, d2, e2⟩ : AM).cc, .slice (⟨m5.A, m5.B, D2, E2, m5.ca, m5.cb, d2, e2⟩ : AM).D (⟨r5.a, u3, r5.n⟩ : Sl).b.t.length (⟨m5.A, m5.B, D2, E2, m5.ca, m5.cb, d2, e2⟩ : AM).cd, .int .i64 (⟨r5.a, u3, r5.n⟩ : Sl).b.cap, .bool (⟨r5.a, u3, r5.n⟩ : Sl).b.down, .int .i64 (⟨r5.a, u3, r5.n⟩ : Sl).n]) (by simp [results, Try.results42, go_sem, *]) rfl ?_
          refine ⟨⟨r5.a, u3, r5.n⟩, ⟨m5.A, m5.B, D2, E2, m5.ca, m5.cb, d2, e2⟩, Lib.hid (by rw [HR5.out, HD3.out]; simp [Slots.Sl.put, Slots.Sl.cur, Slots.Sl.oth, HP.out]), rfl, SlM.mono (lo := w.heap.size + 1 + 1) ⟨?_, ?_, ?_, ?_, hM5.la, hM5.lb, l1, l2, hM5.sa, hM5.sb, HSM.out.1, HSM.out.2⟩ (by omega), (by repeat (first | with_reducible exact Ab.refl _ | with_reducible assumption | with_reducible refine Ab.drew ?_ | with_reducible refine Ab.drewN ?_ _ | with_reducible refine Ab.alloc ?_ _ | with_reducible refine Ab.trans ?_ (by assumption) | with_reducible refine Ab.set ?_ (by first | (simp; done) | omega | (simp; omega)) _))⟩
          · with_reducible refine RB.ab ?_ ((Ab.refl _).alloc _)
            (repeat with_reducible refine RB.put ?_ (by first | (simp; done) | omega | (simp; omega)) _)
            exact hM5.a
          · with_reducible refine RB.ab ?_ ((Ab.refl _).alloc _)
            (repeat with_reducible refine RB.put ?_ (by first | (simp; done) | omega | (simp; omega)) _)
            exact hM5.b
          · with_reducible refine RB.ab ?_ ((Ab.refl _).alloc _)
            (repeat with_reducible refine RB.put ?_ (by first | (simp; done) | omega | (simp; omega)) _)
            exact p1
          · with_reducible refine RB.ab ?_ ((Ab.refl _).alloc _)
            (repeat with_reducible refine RB.put ?_ (by first | (simp; done) | omega | (simp; omega)) _)
            exact p2
end Go.Proofs.Ytakgglpfgpkboaa
