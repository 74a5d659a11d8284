/- Open of the reference of layer 5, walked. Own work. -/
import Derived.Test.YtakgglpfgpkboaaSRefD
import Derived.IntWalk
set_option linter.unusedVariables false
set_option linter.unusedSimpArgs false
namespace Go.Proofs.Ytakgglpfgpkboaa
open Go.RowKit
open Slots (Sl)
open Disk (Dev)

theorem SlM.numr {w : World} {lo : Nat} {m : AM} {r : Sl} (h : SlM w lo m r) (n : Int) : SlM w lo m ⟨r.a, r.b, n⟩ := ⟨h.a, h.b, h.c, h.d, h.la, h.lb, h.lc, h.ld, h.sa, h.sb, h.sc, h.sd⟩
/-- The box, the result and the variable of Open. -/
def ROpSt (w wr : World) (m0 : AM) (r0 : Sl) (m : AM) (r : Sl) : Prop :=
  SlB wr w.heap.size m0 r0 ∧ SlB wr (w.heap.size + 1) AM.nil Slots.zero ∧ SlB wr (w.heap.size + 1 + 1) m r ∧ SlM wr (w.heap.size + 1 + 1 + 1) m r ∧ Ab w wr ∧ w.heap.size + 1 + 1 + 1 ≤ wr.heap.size
def ROpRow (r r' : Sl) (i : Value) : Prop :=
  (i = .int .i64 0 ∧ Hid (r' = ⟨Disk.zero, Disk.zero, 1⟩)) ∨
  (i = .int .i64 1 ∧ Hid (¬ Disk.bad r.a) ∧ Hid (r' = ⟨Slots.op r.a, Disk.zero, 1⟩)) ∨
  (i = .int .i64 2 ∧ Hid (¬ Disk.bad r.a) ∧ Hid (¬ Disk.bad r.b) ∧ Hid (r' = ⟨Slots.op r.a, Slots.op r.b, 1⟩))

set_option maxHeartbeats 1600000 in
set_option maxRecDepth 100000 in
theorem sropen_any (m : AM) (r : Sl) (w : World) (h : SlM w 0 m r) :
    Calls Try.prog 26 #[.agg #[.slice m.A r.a.s.length m.ca, .slice m.B r.a.t.length m.cb, .int .i64 r.a.cap, .bool r.a.down, .slice m.C r.b.s.length m.cc, .slice m.D r.b.t.length m.cd, .int .i64 r.b.cap, .bool r.b.down, .int .i64 r.n]] w (RetSlE w (Slots.open_ r)) := by
  obtain ⟨A, B, C, D, ca, cb, cc, cd⟩ := m
  obtain ⟨⟨s, t, cap, dn⟩, ⟨p, q, cep, dm⟩, n⟩ := r
  dsimp only
  go_enter Try.func26, Try.ntmps26
  go_wp2
  go_loopw [5] (fun i wr => ∃ m' r', ROpSt w wr (⟨A, B, C, D, ca, cb, cc, cd⟩ : AM) (⟨⟨s, t, cap, dn⟩, ⟨p, q, cep, dm⟩, n⟩ : Sl) m' r' ∧ ROpRow (⟨⟨s, t, cap, dn⟩, ⟨p, q, cep, dm⟩, n⟩ : Sl) r' i) (fun i _ => 2 - (intOf i).toNat)
  case atStart =>
    refine ⟨AM.nil, ⟨Disk.zero, Disk.zero, 1⟩, ⟨SlB.box (old_alloc (old_alloc (new_plain rfl))), SlB.box (old_alloc (new_plain (by simp))), SlB.box (new_plain (by simp)), ⟨RB.nil, RB.nil, RB.nil, RB.nil, Nat.le_refl _, Nat.le_refl _, Nat.le_refl _, Nat.le_refl _, Nat.zero_le _, Nat.zero_le _, Nat.zero_le _, Nat.zero_le _⟩, (by repeat (first | with_reducible exact Ab.refl _ | with_reducible assumption | with_reducible refine Ab.drew ?_ | with_reducible refine Ab.drewN ?_ _ | with_reducible refine Ab.alloc ?_ _ | with_reducible refine Ab.trans ?_ (by assumption) | with_reducible refine Ab.set ?_ (by first | (simp; done) | omega | (simp; omega)) _)), by simp⟩, .inl ⟨rfl, rfl⟩⟩
  case round =>
    obtain ⟨m', r', ⟨hb, hz, hv, hM, hab, hsz⟩, hi⟩ := hrel
    rcases hi with ⟨rfl, hr'⟩ | ⟨rfl, hna, hr'⟩ | ⟨rfl, hna, hnb, hr'⟩
    · have HBX := hb
      obtain ⟨vq0, vq1, vq2, vq3, vq4, vq5, vq6, vq7, vq8, vg0, vg1, vg2, vg3, vg4, vg5, vg6, vg7, vg8⟩ := hb
      (try simp only [AM.nil, Slots.zero, Disk.zero, List.length_nil] at vq0 vq1 vq2 vq3 vq4 vq5 vq6 vq7 vq8)
      go_wp2_with fail
      refine (refCheck_any A B ca cb s t cap dn _ h.sa h.sb).mono ?_
      rintro e w1 ⟨er, hr, rfl, hb1⟩
      clear vq0 vq1 vq2 vq3 vq4 vq5 vq6 vq7 vq8 vg0 vg1 vg2 vg3 vg4 vg5 vg6 vg7 vg8
      by_cases hbd : Disk.bad ⟨s, t, cap, dn⟩
      · obtain rfl : er = 8 := hr.out.trans (Disk.check_bad hbd)
        have HM := Lib.hid (show Slots.open_ (⟨⟨s, t, cap, dn⟩, ⟨p, q, cep, dm⟩, n⟩ : Sl) = (Slots.zero, 8) from if_pos (Or.inl hbd))
        obtain ⟨zq0, zq1, zq2, zq3, zq4, zq5, zq6, zq7, zq8, zg0, zg1, zg2, zg3, zg4, zg5, zg6, zg7, zg8⟩ := (hz.ab hb1)
        (try simp only [AM.nil, Slots.zero, Disk.zero, List.length_nil] at zq0 zq1 zq2 zq3 zq4 zq5 zq6 zq7 zq8)
        clear hr hbd
        go_wp2
        refine bodyPost_ret (v := .tuple #[(.agg #[.slice none 0 0, .slice none 0 0, .int .i64 0, .bool false, .slice none 0 0, .slice none 0 0, .int .i64 0, .bool false, .int .i64 0]), .int .i64 8]) (by simp [results, Try.results26, go_sem, *]) rfl ?_
        exact RetSlE.zero HM.out.symm (by repeat (first | with_reducible exact Ab.refl _ | with_reducible assumption | with_reducible refine Ab.drew ?_ | with_reducible refine Ab.drewN ?_ _ | with_reducible refine Ab.alloc ?_ _ | with_reducible refine Ab.trans ?_ (by assumption) | with_reducible refine Ab.set ?_ (by first | (simp; done) | omega | (simp; omega)) _))
      obtain rfl : er = 0 := hr.out.trans (Disk.check_ok hbd)
      have HN := Lib.hid hbd
      have HO := Lib.hid (Slots.small_op hbd)
      clear hr hbd
      obtain ⟨vq0, vq1, vq2, vq3, vq4, vq5, vq6, vq7, vq8, vg0, vg1, vg2, vg3, vg4, vg5, vg6, vg7, vg8⟩ := (HBX.ab hb1)
      (try simp only [AM.nil, Slots.zero, Disk.zero, List.length_nil] at vq0 vq1 vq2 vq3 vq4 vq5 vq6 vq7 vq8)
      have b1 : Ab w w1 := (by repeat (first | with_reducible exact Ab.refl _ | with_reducible assumption | with_reducible refine Ab.drew ?_ | with_reducible refine Ab.drewN ?_ _ | with_reducible refine Ab.alloc ?_ _ | with_reducible refine Ab.trans ?_ (by assumption) | with_reducible refine Ab.set ?_ (by first | (simp; done) | omega | (simp; omega)) _))
      go_upto_region 7 with fail
      refine wp_region_held_drew (by kernel_rfl) (S := fun w' => w'.cell? ⟨w.heap.size, 0, none⟩ = some (.slice A s.length ca) ∧ w'.cell? ⟨w.heap.size, 1, none⟩ = some (.slice B t.length cb) ∧ w'.cell? ⟨w.heap.size, 2, none⟩ = some (.int .i64 cap) ∧ w'.cell? ⟨w.heap.size, 3, none⟩ = some (.bool dn) ∧ w'.cell? ⟨w.heap.size, 4, none⟩ = some (.slice C p.length cc) ∧ w'.cell? ⟨w.heap.size, 5, none⟩ = some (.slice D q.length cd) ∧ w'.cell? ⟨w.heap.size, 6, none⟩ = some (.int .i64 cep) ∧ w'.cell? ⟨w.heap.size, 7, none⟩ = some (.bool dm) ∧ w'.cell? ⟨w.heap.size, 8, none⟩ = some (.int .i64 n)) ?_ (fun hHeld => ?_)
      · (refine ⟨?_, ?_, ?_, ?_, ?_, ?_, ?_, ?_, ?_⟩ <;> (repeat (first | with_reducible assumption | (simp [go_sem]; done) | with_reducible apply cell_alloc | with_reducible apply cell_drew | with_reducible apply cell_drewN | (with_reducible apply Ab.at; with_reducible assumption) | (with_reducible refine cell_set ?_ ?_; rotate_left; focus (first | (simp; done) | (simp; omega))) | (with_reducible refine cell_setb ?_ ?_; rotate_left; focus (first | omega | (simp only; omega) | (simp; omega))))))
      (refine wpAnyH_take (i := 0) (v := ?_) rfl (by kernel_rfl) (by kernel_rfl) (by kernel_rfl) (fun _ _ _ h => h) (Or.inl ⟨by kernel_rfl, ?_⟩) (by assumption) ?_
       rotate_left
       · (intro w hSw; (try dsimp only at hSw); go_simp; (try with_reducible rfl))
       (try simp only [Act.put, List.setIfInBounds_toArray, List.set_cons_zero, List.set_cons_succ]))
      (refine wpAnyH_take (i := 1) (v := ?_) rfl (by kernel_rfl) (by kernel_rfl) (by kernel_rfl) (fun _ _ _ h => h) (Or.inl ⟨by kernel_rfl, ?_⟩) (by assumption) ?_
       rotate_left
       · (intro w hSw; (try dsimp only at hSw); go_simp; (try with_reducible rfl))
       (try simp only [Act.put, List.setIfInBounds_toArray, List.set_cons_zero, List.set_cons_succ]))
      (refine wpAnyH_take (i := 2) (v := ?_) rfl (by kernel_rfl) (by kernel_rfl) (by kernel_rfl) (fun _ _ _ h => h) (Or.inl ⟨by kernel_rfl, ?_⟩) (by assumption) ?_
       rotate_left
       · (intro w hSw; (try dsimp only at hSw); go_simp; (try with_reducible rfl))
       (try simp only [Act.put, List.setIfInBounds_toArray, List.set_cons_zero, List.set_cons_succ]))
      (refine wpAnyH_take (i := 3) (v := ?_) rfl (by kernel_rfl) (by kernel_rfl) (by kernel_rfl) (fun _ _ _ h => h) (Or.inl ⟨by kernel_rfl, ?_⟩) (by assumption) ?_
       rotate_left
       · (intro w hSw; (try dsimp only at hSw); go_simp; (try with_reducible rfl))
       (try simp only [Act.put, List.setIfInBounds_toArray, List.set_cons_zero, List.set_cons_succ]))
      (refine wpAnyH_take (i := 4) (v := ?_) rfl (by kernel_rfl) (by kernel_rfl) (by kernel_rfl) (fun _ _ _ h => h) (Or.inl ⟨by kernel_rfl, ?_⟩) (by assumption) ?_
       rotate_left
       · (intro w hSw; (try dsimp only at hSw); go_simp; (try with_reducible rfl))
       (try simp only [Act.put, List.setIfInBounds_toArray, List.set_cons_zero, List.set_cons_succ]))
      (refine wpAnyH_take (i := 6) (v := ?_) rfl (by kernel_rfl) (by kernel_rfl) (by kernel_rfl) (fun _ _ _ h => h) (Or.inl ⟨by kernel_rfl, ?_⟩) (by assumption) ?_
       rotate_left
       · (intro w hSw; (try dsimp only at hSw); go_simp; (try with_reducible rfl))
       (try simp only [Act.put, List.setIfInBounds_toArray, List.set_cons_zero, List.set_cons_succ]))
      (refine wpAnyH_take (i := 7) (v := ?_) rfl (by kernel_rfl) (by kernel_rfl) (by kernel_rfl) (fun _ _ _ h => h) (Or.inl ⟨by kernel_rfl, ?_⟩) (by assumption) ?_
       rotate_left
       · (intro w hSw; (try dsimp only at hSw); go_simp; (try with_reducible rfl))
       (try simp only [Act.put, List.setIfInBounds_toArray, List.set_cons_zero, List.set_cons_succ]))
      (refine wpAnyH_take (i := 8) (v := ?_) rfl (by kernel_rfl) (by kernel_rfl) (by kernel_rfl) (fun _ _ _ h => h) (Or.inl ⟨by kernel_rfl, ?_⟩) (by assumption) ?_
       rotate_left
       · (intro w hSw; (try dsimp only at hSw); go_simp; (try with_reducible rfl))
       (try simp only [Act.put, List.setIfInBounds_toArray, List.set_cons_zero, List.set_cons_succ]))
      (refine wpAnyH_take (i := 9) (v := ?_) rfl (by kernel_rfl) (by kernel_rfl) (by kernel_rfl) (fun _ _ _ h => h) (Or.inl ⟨by kernel_rfl, ?_⟩) (by assumption) ?_
       rotate_left
       · (intro w hSw; (try dsimp only at hSw); go_simp; (try with_reducible rfl))
       (try simp only [Act.put, List.setIfInBounds_toArray, List.set_cons_zero, List.set_cons_succ]))
      (refine wpAnyH_take (i := 10) (v := ?_) rfl (by kernel_rfl) (by kernel_rfl) (by kernel_rfl) (fun _ _ _ h => h) (Or.inl ⟨by kernel_rfl, ?_⟩) (by assumption) ?_
       rotate_left
       · (intro w hSw; (try dsimp only at hSw); go_simp; (try with_reducible rfl))
       (try simp only [Act.put, List.setIfInBounds_toArray, List.set_cons_zero, List.set_cons_succ]))
      (refine wpAnyH_take (i := 12) (v := ?_) rfl (by kernel_rfl) (by kernel_rfl) (by kernel_rfl) (fun _ _ _ h => h) (Or.inl ⟨by kernel_rfl, ?_⟩) (by assumption) ?_
       rotate_left
       · (intro w hSw; (try dsimp only at hSw); go_simp; (try with_reducible rfl))
       (try simp only [Act.put, List.setIfInBounds_toArray, List.set_cons_zero, List.set_cons_succ]))
      (refine wpAnyH_ready (rs := [5]) (by kernel_rfl) (by simp) ?_)
      refine AllReadyH.cons rfl (fun K hK => ?_) AllReadyH.nil
      (go_simp
       (go_at_call 48
        refine (whole_any A B ca cb s t cap dn _ (RB.ab h.a (by repeat (first | with_reducible exact Ab.refl _ | with_reducible assumption | with_reducible refine Ab.drew ?_ | with_reducible refine Ab.drewN ?_ _ | with_reducible refine Ab.alloc ?_ _ | with_reducible refine Ab.trans ?_ (by assumption) | with_reducible refine Ab.set ?_ (by first | (simp; done) | omega | (simp; omega)) _))) (RB.ab h.b (by repeat (first | with_reducible exact Ab.refl _ | with_reducible assumption | with_reducible refine Ab.drew ?_ | with_reducible refine Ab.drewN ?_ _ | with_reducible refine Ab.alloc ?_ _ | with_reducible refine Ab.trans ?_ (by assumption) | with_reducible refine Ab.set ?_ (by first | (simp; done) | omega | (simp; omega)) _))) h.la h.lb h.sa h.sb).mono ?_
        rintro e w2 ⟨L, E, c, hL, rfl, oL, hb2⟩)
       (try go_wp2_with fail)
       (refine hK.out _ _ ?_ (fun hHeld => ?_)
        · (try dsimp only); (refine ⟨?_, ?_, ?_, ?_, ?_, ?_, ?_, ?_, ?_⟩ <;> (repeat (first | with_reducible assumption | (simp [go_sem]; done) | with_reducible apply cell_alloc | with_reducible apply cell_drew | with_reducible apply cell_drewN | (with_reducible apply Ab.at; with_reducible assumption) | (with_reducible refine cell_set ?_ ?_; rotate_left; focus (first | (simp; done) | (simp; omega))) | (with_reducible refine cell_setb ?_ ?_; rotate_left; focus (first | omega | (simp only; omega) | (simp; omega))))))
        clear hK K
        (try simp only [Act.put, List.setIfInBounds_toArray, List.set_cons_zero, List.set_cons_succ])))
      have bw2 : Ab wr w2 := (by repeat (first | with_reducible exact Ab.refl _ | with_reducible assumption | with_reducible refine Ab.drew ?_ | with_reducible refine Ab.drewN ?_ _ | with_reducible refine Ab.alloc ?_ _ | with_reducible refine Ab.trans ?_ (by assumption) | with_reducible refine Ab.set ?_ (by first | (simp; done) | omega | (simp; omega)) _))
      obtain ⟨yq0, yq1, yq2, yq3, yq4, yq5, yq6, yq7, yq8, yg0, yg1, yg2, yg3, yg4, yg5, yg6, yg7, yg8⟩ := (hv.ab bw2)
      (try simp only [AM.nil, Slots.zero, Disk.zero, List.length_nil] at yq0 yq1 yq2 yq3 yq4 yq5 yq6 yq7 yq8)
      have HV2 := (HBX.ab hb1).ab (((Ab.refl w1).drew).trans hb2)
      clear vq0 vq1 vq2 vq3 vq4 vq5 vq6 vq7 vq8 vg0 vg1 vg2 vg3 vg4 vg5 vg6 vg7 vg8
      obtain ⟨vq0, vq1, vq2, vq3, vq4, vq5, vq6, vq7, vq8, vg0, vg1, vg2, vg3, vg4, vg5, vg6, vg7, vg8⟩ := HV2
      (try simp only [AM.nil, Slots.zero, Disk.zero, List.length_nil] at vq0 vq1 vq2 vq3 vq4 vq5 vq6 vq7 vq8)
      (refine wpAnyH_take (i := 11) (v := ?_) rfl (by kernel_rfl) (by kernel_rfl) (by kernel_rfl) (fun _ _ _ h => h) (Or.inl ⟨by kernel_rfl, ?_⟩) (by assumption) ?_
       rotate_left
       · (intro w hSw; (try dsimp only at hSw); go_simp; (try with_reducible rfl))
       (try simp only [Act.put, List.setIfInBounds_toArray, List.set_cons_zero, List.set_cons_succ]))
      have ne1 : w.heap.size ≠ w.heap.size + 1 + 1 := by omega
      have ne2 : w.heap.size + 1 ≠ w.heap.size + 1 + 1 := by omega
      (refine wpAnyH_ready (rs := [13]) (by kernel_rfl) (by simp) ?_)
      refine AllReadyH.cons rfl (fun K hK => ?_) AllReadyH.nil
      (go_simp
       (refine hK.out _ _ ?_ (fun hHeld => ?_)
        · (try dsimp only); (refine ⟨?_, ?_, ?_, ?_, ?_, ?_, ?_, ?_, ?_⟩ <;> (repeat (first | with_reducible assumption | (simp [go_sem]; done) | with_reducible apply cell_alloc | with_reducible apply cell_drew | with_reducible apply cell_drewN | (with_reducible apply Ab.at; with_reducible assumption) | (with_reducible refine cell_set ?_ ?_; rotate_left; focus (first | (simp; done) | (simp; omega))) | (with_reducible refine cell_setb ?_ ?_; rotate_left; focus (first | omega | (simp only; omega) | (simp; omega))))))
        clear hK K
        (try simp only [Act.put, List.setIfInBounds_toArray, List.set_cons_zero, List.set_cons_succ])))
      (refine wpAnyH_ready (rs := [14]) (by kernel_rfl) (by simp) ?_)
      refine AllReadyH.cons rfl (fun K hK => ?_) AllReadyH.nil
      (go_simp
       (refine hK.out _ _ ?_ (fun hHeld => ?_)
        · (try dsimp only); (refine ⟨?_, ?_, ?_, ?_, ?_, ?_, ?_, ?_, ?_⟩ <;> (repeat (first | with_reducible assumption | (simp [go_sem]; done) | with_reducible apply cell_alloc | with_reducible apply cell_drew | with_reducible apply cell_drewN | (with_reducible apply Ab.at; with_reducible assumption) | (with_reducible refine cell_set ?_ ?_; rotate_left; focus (first | (simp; done) | (simp; omega))) | (with_reducible refine cell_setb ?_ ?_; rotate_left; focus (first | omega | (simp only; omega) | (simp; omega))))))
        clear hK K
        (try simp only [Act.put, List.setIfInBounds_toArray, List.set_cons_zero, List.set_cons_succ])))
      refine wpAnyH_done (by kernel_rfl) ?_ _
      have hz2 := hz.ab bw2
      have hM2 := hM.ab bw2
      have zz2 := Nat.le_trans hsz bw2.size
      have hL2 : RB w2 (w.heap.size + 1 + 1 + 1) E L := oL.rb.mono (by have := hb1.size; first | omega | (simp; omega))
      have hLc := oL.le
      have HS := Lib.hid (show Slots.Small ⟨L, [], cap, false⟩ by have := HO.out; unfold Slots.op at this; rw [hL.out]; exact this)
      have HOP := Lib.hid (show (⟨L, [], cap, false⟩ : Dev) = Slots.op ⟨s, t, cap, dn⟩ by rw [hL.out]; rfl)
      have b2 : Ab w w2 := (by repeat (first | with_reducible exact Ab.refl _ | with_reducible assumption | with_reducible refine Ab.drew ?_ | with_reducible refine Ab.drewN ?_ _ | with_reducible refine Ab.alloc ?_ _ | with_reducible refine Ab.trans ?_ (by assumption) | with_reducible refine Ab.set ?_ (by first | (simp; done) | omega | (simp; omega)) _))
      obtain ⟨zq0, zq1, zq2, zq3, zq4, zq5, zq6, zq7, zq8, zg0, zg1, zg2, zg3, zg4, zg5, zg6, zg7, zg8⟩ := hz2
      (try simp only [AM.nil, Slots.zero, Disk.zero, List.length_nil] at zq0 zq1 zq2 zq3 zq4 zq5 zq6 zq7 zq8)
      go_wp2
      go_roundw
      case rel => exact ⟨⟨E, none, m'.C, m'.D, c, 0, m'.cc, m'.cd⟩, ⟨⟨L, [], cap, false⟩, r'.b, r'.n⟩, ⟨⟨(by simp [go_sem, *]), (by simp [go_sem, *]), (by simp [go_sem, *]), (by simp [go_sem, *]), (by simp [go_sem, *]), (by simp [go_sem, *]), (by simp [go_sem, *]), (by simp [go_sem, *]), (by simp [go_sem, *]), (by simp [go_sem, *]), (by simp [go_sem, *]), (by simp [go_sem, *]), (by simp [go_sem, *]), (by simp [go_sem, *]), (by simp [go_sem, *]), (by simp [go_sem, *]), (by simp [go_sem, *]), (by simp [go_sem, *])⟩, ⟨(by simp [go_sem, AM.nil, Slots.zero, Disk.zero, *]), (by simp [go_sem, AM.nil, Slots.zero, Disk.zero, *]), (by simp [go_sem, AM.nil, Slots.zero, Disk.zero, *]), (by simp [go_sem, AM.nil, Slots.zero, Disk.zero, *]), (by simp [go_sem, AM.nil, Slots.zero, Disk.zero, *]), (by simp [go_sem, AM.nil, Slots.zero, Disk.zero, *]), (by simp [go_sem, AM.nil, Slots.zero, Disk.zero, *]), (by simp [go_sem, AM.nil, Slots.zero, Disk.zero, *]), (by simp [go_sem, AM.nil, Slots.zero, Disk.zero, *]), (by simp [go_sem, AM.nil, Slots.zero, Disk.zero, *]), (by simp [go_sem, AM.nil, Slots.zero, Disk.zero, *]), (by simp [go_sem, AM.nil, Slots.zero, Disk.zero, *]), (by simp [go_sem, AM.nil, Slots.zero, Disk.zero, *]), (by simp [go_sem, AM.nil, Slots.zero, Disk.zero, *]), (by simp [go_sem, AM.nil, Slots.zero, Disk.zero, *]), (by simp [go_sem, AM.nil, Slots.zero, Disk.zero, *]), (by simp [go_sem, AM.nil, Slots.zero, Disk.zero, *]), (by simp [go_sem, AM.nil, Slots.zero, Disk.zero, *])⟩, ⟨(by simp [go_sem, AM.nil, Slots.zero, Disk.zero, *]), (by simp [go_sem, AM.nil, Slots.zero, Disk.zero, *]), (by simp [go_sem, AM.nil, Slots.zero, Disk.zero, *]), (by simp [go_sem, AM.nil, Slots.zero, Disk.zero, *]), (by simp [go_sem, AM.nil, Slots.zero, Disk.zero, *]), (by simp [go_sem, AM.nil, Slots.zero, Disk.zero, *]), (by simp [go_sem, AM.nil, Slots.zero, Disk.zero, *]), (by simp [go_sem, AM.nil, Slots.zero, Disk.zero, *]), (by simp [go_sem, AM.nil, Slots.zero, Disk.zero, *]), (by simp [go_sem, AM.nil, Slots.zero, Disk.zero, *]), (by simp [go_sem, AM.nil, Slots.zero, Disk.zero, *]), (by simp [go_sem, AM.nil, Slots.zero, Disk.zero, *]), (by simp [go_sem, AM.nil, Slots.zero, Disk.zero, *]), (by simp [go_sem, AM.nil, Slots.zero, Disk.zero, *]), (by simp [go_sem, AM.nil, Slots.zero, Disk.zero, *]), (by simp [go_sem, AM.nil, Slots.zero, Disk.zero, *]), (by simp [go_sem, AM.nil, Slots.zero, Disk.zero, *]), (by simp [go_sem, AM.nil, Slots.zero, Disk.zero, *])⟩, by (repeat with_reducible refine SlM.put ?_ (by first | (simp; done) | omega | (simp; omega)) _); exact ⟨hL2, RB.nil, hM2.c, hM2.d, hLc, Nat.le_refl _, hM2.lc, hM2.ld, HS.out.1, HS.out.2, hM2.sc, hM2.sd⟩, (by repeat (first | with_reducible exact Ab.refl _ | with_reducible assumption | with_reducible refine Ab.drew ?_ | with_reducible refine Ab.drewN ?_ _ | with_reducible refine Ab.alloc ?_ _ | with_reducible refine Ab.trans ?_ (by assumption) | with_reducible refine Ab.set ?_ (by first | (simp; done) | omega | (simp; omega)) _)), by simp; omega⟩, .inr (.inl ⟨rfl, HN, Lib.hid (by rw [hr'.out, HOP.out])⟩)⟩
      case measure => (show 2 - (intOf _).toNat < 2 - (intOf _).toNat); simp only [intOf]; omega
    · have HBX := hb
      obtain ⟨vq0, vq1, vq2, vq3, vq4, vq5, vq6, vq7, vq8, vg0, vg1, vg2, vg3, vg4, vg5, vg6, vg7, vg8⟩ := hb
      (try simp only [AM.nil, Slots.zero, Disk.zero, List.length_nil] at vq0 vq1 vq2 vq3 vq4 vq5 vq6 vq7 vq8)
      go_wp2_with fail
      refine (refCheck_any C D cc cd p q cep dm _ h.sc h.sd).mono ?_
      rintro e w1 ⟨er, hr, rfl, hb1⟩
      clear vq0 vq1 vq2 vq3 vq4 vq5 vq6 vq7 vq8 vg0 vg1 vg2 vg3 vg4 vg5 vg6 vg7 vg8
      by_cases hbd : Disk.bad ⟨p, q, cep, dm⟩
      · obtain rfl : er = 8 := hr.out.trans (Disk.check_bad hbd)
        have HM := Lib.hid (show Slots.open_ (⟨⟨s, t, cap, dn⟩, ⟨p, q, cep, dm⟩, n⟩ : Sl) = (Slots.zero, 8) from if_pos (Or.inr hbd))
        obtain ⟨zq0, zq1, zq2, zq3, zq4, zq5, zq6, zq7, zq8, zg0, zg1, zg2, zg3, zg4, zg5, zg6, zg7, zg8⟩ := (hz.ab hb1)
        (try simp only [AM.nil, Slots.zero, Disk.zero, List.length_nil] at zq0 zq1 zq2 zq3 zq4 zq5 zq6 zq7 zq8)
        clear hr hbd
        go_wp2
        refine bodyPost_ret (v := .tuple #[(.agg #[.slice none 0 0, .slice none 0 0, .int .i64 0, .bool false, .slice none 0 0, .slice none 0 0, .int .i64 0, .bool false, .int .i64 0]), .int .i64 8]) (by simp [results, Try.results26, go_sem, *]) rfl ?_
        exact RetSlE.zero HM.out.symm (by repeat (first | with_reducible exact Ab.refl _ | with_reducible assumption | with_reducible refine Ab.drew ?_ | with_reducible refine Ab.drewN ?_ _ | with_reducible refine Ab.alloc ?_ _ | with_reducible refine Ab.trans ?_ (by assumption) | with_reducible refine Ab.set ?_ (by first | (simp; done) | omega | (simp; omega)) _))
      obtain rfl : er = 0 := hr.out.trans (Disk.check_ok hbd)
      have HN := Lib.hid hbd
      have HO := Lib.hid (Slots.small_op hbd)
      clear hr hbd
      obtain ⟨vq0, vq1, vq2, vq3, vq4, vq5, vq6, vq7, vq8, vg0, vg1, vg2, vg3, vg4, vg5, vg6, vg7, vg8⟩ := (HBX.ab hb1)
      (try simp only [AM.nil, Slots.zero, Disk.zero, List.length_nil] at vq0 vq1 vq2 vq3 vq4 vq5 vq6 vq7 vq8)
      have b1 : Ab w w1 := (by repeat (first | with_reducible exact Ab.refl _ | with_reducible assumption | with_reducible refine Ab.drew ?_ | with_reducible refine Ab.drewN ?_ _ | with_reducible refine Ab.alloc ?_ _ | with_reducible refine Ab.trans ?_ (by assumption) | with_reducible refine Ab.set ?_ (by first | (simp; done) | omega | (simp; omega)) _))
      go_upto_region 7 with fail
      refine wp_region_held_drew (by kernel_rfl) (S := fun w' => w'.cell? ⟨w.heap.size, 0, none⟩ = some (.slice A s.length ca) ∧ w'.cell? ⟨w.heap.size, 1, none⟩ = some (.slice B t.length cb) ∧ w'.cell? ⟨w.heap.size, 2, none⟩ = some (.int .i64 cap) ∧ w'.cell? ⟨w.heap.size, 3, none⟩ = some (.bool dn) ∧ w'.cell? ⟨w.heap.size, 4, none⟩ = some (.slice C p.length cc) ∧ w'.cell? ⟨w.heap.size, 5, none⟩ = some (.slice D q.length cd) ∧ w'.cell? ⟨w.heap.size, 6, none⟩ = some (.int .i64 cep) ∧ w'.cell? ⟨w.heap.size, 7, none⟩ = some (.bool dm) ∧ w'.cell? ⟨w.heap.size, 8, none⟩ = some (.int .i64 n)) ?_ (fun hHeld => ?_)
      · (refine ⟨?_, ?_, ?_, ?_, ?_, ?_, ?_, ?_, ?_⟩ <;> (repeat (first | with_reducible assumption | (simp [go_sem]; done) | with_reducible apply cell_alloc | with_reducible apply cell_drew | with_reducible apply cell_drewN | (with_reducible apply Ab.at; with_reducible assumption) | (with_reducible refine cell_set ?_ ?_; rotate_left; focus (first | (simp; done) | (simp; omega))) | (with_reducible refine cell_setb ?_ ?_; rotate_left; focus (first | omega | (simp only; omega) | (simp; omega))))))
      (refine wpAnyH_take (i := 0) (v := ?_) rfl (by kernel_rfl) (by kernel_rfl) (by kernel_rfl) (fun _ _ _ h => h) (Or.inl ⟨by kernel_rfl, ?_⟩) (by assumption) ?_
       rotate_left
       · (intro w hSw; (try dsimp only at hSw); go_simp; (try with_reducible rfl))
       (try simp only [Act.put, List.setIfInBounds_toArray, List.set_cons_zero, List.set_cons_succ]))
      (refine wpAnyH_take (i := 1) (v := ?_) rfl (by kernel_rfl) (by kernel_rfl) (by kernel_rfl) (fun _ _ _ h => h) (Or.inl ⟨by kernel_rfl, ?_⟩) (by assumption) ?_
       rotate_left
       · (intro w hSw; (try dsimp only at hSw); go_simp; (try with_reducible rfl))
       (try simp only [Act.put, List.setIfInBounds_toArray, List.set_cons_zero, List.set_cons_succ]))
      (refine wpAnyH_take (i := 2) (v := ?_) rfl (by kernel_rfl) (by kernel_rfl) (by kernel_rfl) (fun _ _ _ h => h) (Or.inl ⟨by kernel_rfl, ?_⟩) (by assumption) ?_
       rotate_left
       · (intro w hSw; (try dsimp only at hSw); go_simp; (try with_reducible rfl))
       (try simp only [Act.put, List.setIfInBounds_toArray, List.set_cons_zero, List.set_cons_succ]))
      (refine wpAnyH_take (i := 3) (v := ?_) rfl (by kernel_rfl) (by kernel_rfl) (by kernel_rfl) (fun _ _ _ h => h) (Or.inl ⟨by kernel_rfl, ?_⟩) (by assumption) ?_
       rotate_left
       · (intro w hSw; (try dsimp only at hSw); go_simp; (try with_reducible rfl))
       (try simp only [Act.put, List.setIfInBounds_toArray, List.set_cons_zero, List.set_cons_succ]))
      (refine wpAnyH_take (i := 4) (v := ?_) rfl (by kernel_rfl) (by kernel_rfl) (by kernel_rfl) (fun _ _ _ h => h) (Or.inl ⟨by kernel_rfl, ?_⟩) (by assumption) ?_
       rotate_left
       · (intro w hSw; (try dsimp only at hSw); go_simp; (try with_reducible rfl))
       (try simp only [Act.put, List.setIfInBounds_toArray, List.set_cons_zero, List.set_cons_succ]))
      (refine wpAnyH_take (i := 6) (v := ?_) rfl (by kernel_rfl) (by kernel_rfl) (by kernel_rfl) (fun _ _ _ h => h) (Or.inl ⟨by kernel_rfl, ?_⟩) (by assumption) ?_
       rotate_left
       · (intro w hSw; (try dsimp only at hSw); go_simp; (try with_reducible rfl))
       (try simp only [Act.put, List.setIfInBounds_toArray, List.set_cons_zero, List.set_cons_succ]))
      (refine wpAnyH_take (i := 7) (v := ?_) rfl (by kernel_rfl) (by kernel_rfl) (by kernel_rfl) (fun _ _ _ h => h) (Or.inl ⟨by kernel_rfl, ?_⟩) (by assumption) ?_
       rotate_left
       · (intro w hSw; (try dsimp only at hSw); go_simp; (try with_reducible rfl))
       (try simp only [Act.put, List.setIfInBounds_toArray, List.set_cons_zero, List.set_cons_succ]))
      (refine wpAnyH_take (i := 8) (v := ?_) rfl (by kernel_rfl) (by kernel_rfl) (by kernel_rfl) (fun _ _ _ h => h) (Or.inl ⟨by kernel_rfl, ?_⟩) (by assumption) ?_
       rotate_left
       · (intro w hSw; (try dsimp only at hSw); go_simp; (try with_reducible rfl))
       (try simp only [Act.put, List.setIfInBounds_toArray, List.set_cons_zero, List.set_cons_succ]))
      (refine wpAnyH_take (i := 9) (v := ?_) rfl (by kernel_rfl) (by kernel_rfl) (by kernel_rfl) (fun _ _ _ h => h) (Or.inl ⟨by kernel_rfl, ?_⟩) (by assumption) ?_
       rotate_left
       · (intro w hSw; (try dsimp only at hSw); go_simp; (try with_reducible rfl))
       (try simp only [Act.put, List.setIfInBounds_toArray, List.set_cons_zero, List.set_cons_succ]))
      (refine wpAnyH_take (i := 10) (v := ?_) rfl (by kernel_rfl) (by kernel_rfl) (by kernel_rfl) (fun _ _ _ h => h) (Or.inl ⟨by kernel_rfl, ?_⟩) (by assumption) ?_
       rotate_left
       · (intro w hSw; (try dsimp only at hSw); go_simp; (try with_reducible rfl))
       (try simp only [Act.put, List.setIfInBounds_toArray, List.set_cons_zero, List.set_cons_succ]))
      (refine wpAnyH_take (i := 12) (v := ?_) rfl (by kernel_rfl) (by kernel_rfl) (by kernel_rfl) (fun _ _ _ h => h) (Or.inl ⟨by kernel_rfl, ?_⟩) (by assumption) ?_
       rotate_left
       · (intro w hSw; (try dsimp only at hSw); go_simp; (try with_reducible rfl))
       (try simp only [Act.put, List.setIfInBounds_toArray, List.set_cons_zero, List.set_cons_succ]))
      (refine wpAnyH_ready (rs := [5]) (by kernel_rfl) (by simp) ?_)
      refine AllReadyH.cons rfl (fun K hK => ?_) AllReadyH.nil
      (go_simp
       (go_at_call 48
        refine (whole_any C D cc cd p q cep dm _ (RB.ab h.c (by repeat (first | with_reducible exact Ab.refl _ | with_reducible assumption | with_reducible refine Ab.drew ?_ | with_reducible refine Ab.drewN ?_ _ | with_reducible refine Ab.alloc ?_ _ | with_reducible refine Ab.trans ?_ (by assumption) | with_reducible refine Ab.set ?_ (by first | (simp; done) | omega | (simp; omega)) _))) (RB.ab h.d (by repeat (first | with_reducible exact Ab.refl _ | with_reducible assumption | with_reducible refine Ab.drew ?_ | with_reducible refine Ab.drewN ?_ _ | with_reducible refine Ab.alloc ?_ _ | with_reducible refine Ab.trans ?_ (by assumption) | with_reducible refine Ab.set ?_ (by first | (simp; done) | omega | (simp; omega)) _))) h.lc h.ld h.sc h.sd).mono ?_
        rintro e w2 ⟨L, E, c, hL, rfl, oL, hb2⟩)
       (try go_wp2_with fail)
       (refine hK.out _ _ ?_ (fun hHeld => ?_)
        · (try dsimp only); (refine ⟨?_, ?_, ?_, ?_, ?_, ?_, ?_, ?_, ?_⟩ <;> (repeat (first | with_reducible assumption | (simp [go_sem]; done) | with_reducible apply cell_alloc | with_reducible apply cell_drew | with_reducible apply cell_drewN | (with_reducible apply Ab.at; with_reducible assumption) | (with_reducible refine cell_set ?_ ?_; rotate_left; focus (first | (simp; done) | (simp; omega))) | (with_reducible refine cell_setb ?_ ?_; rotate_left; focus (first | omega | (simp only; omega) | (simp; omega))))))
        clear hK K
        (try simp only [Act.put, List.setIfInBounds_toArray, List.set_cons_zero, List.set_cons_succ])))
      have bw2 : Ab wr w2 := (by repeat (first | with_reducible exact Ab.refl _ | with_reducible assumption | with_reducible refine Ab.drew ?_ | with_reducible refine Ab.drewN ?_ _ | with_reducible refine Ab.alloc ?_ _ | with_reducible refine Ab.trans ?_ (by assumption) | with_reducible refine Ab.set ?_ (by first | (simp; done) | omega | (simp; omega)) _))
      obtain ⟨yq0, yq1, yq2, yq3, yq4, yq5, yq6, yq7, yq8, yg0, yg1, yg2, yg3, yg4, yg5, yg6, yg7, yg8⟩ := (hv.ab bw2)
      (try simp only [AM.nil, Slots.zero, Disk.zero, List.length_nil] at yq0 yq1 yq2 yq3 yq4 yq5 yq6 yq7 yq8)
      have HV2 := (HBX.ab hb1).ab (((Ab.refl w1).drew).trans hb2)
      clear vq0 vq1 vq2 vq3 vq4 vq5 vq6 vq7 vq8 vg0 vg1 vg2 vg3 vg4 vg5 vg6 vg7 vg8
      obtain ⟨vq0, vq1, vq2, vq3, vq4, vq5, vq6, vq7, vq8, vg0, vg1, vg2, vg3, vg4, vg5, vg6, vg7, vg8⟩ := HV2
      (try simp only [AM.nil, Slots.zero, Disk.zero, List.length_nil] at vq0 vq1 vq2 vq3 vq4 vq5 vq6 vq7 vq8)
      (refine wpAnyH_take (i := 11) (v := ?_) rfl (by kernel_rfl) (by kernel_rfl) (by kernel_rfl) (fun _ _ _ h => h) (Or.inl ⟨by kernel_rfl, ?_⟩) (by assumption) ?_
       rotate_left
       · (intro w hSw; (try dsimp only at hSw); go_simp; (try with_reducible rfl))
       (try simp only [Act.put, List.setIfInBounds_toArray, List.set_cons_zero, List.set_cons_succ]))
      have ne1 : w.heap.size ≠ w.heap.size + 1 + 1 := by omega
      have ne2 : w.heap.size + 1 ≠ w.heap.size + 1 + 1 := by omega
      (refine wpAnyH_ready (rs := [13]) (by kernel_rfl) (by simp) ?_)
      refine AllReadyH.cons rfl (fun K hK => ?_) AllReadyH.nil
      (go_simp
       (refine hK.out _ _ ?_ (fun hHeld => ?_)
        · (try dsimp only); (refine ⟨?_, ?_, ?_, ?_, ?_, ?_, ?_, ?_, ?_⟩ <;> (repeat (first | with_reducible assumption | (simp [go_sem]; done) | with_reducible apply cell_alloc | with_reducible apply cell_drew | with_reducible apply cell_drewN | (with_reducible apply Ab.at; with_reducible assumption) | (with_reducible refine cell_set ?_ ?_; rotate_left; focus (first | (simp; done) | (simp; omega))) | (with_reducible refine cell_setb ?_ ?_; rotate_left; focus (first | omega | (simp only; omega) | (simp; omega))))))
        clear hK K
        (try simp only [Act.put, List.setIfInBounds_toArray, List.set_cons_zero, List.set_cons_succ])))
      (refine wpAnyH_ready (rs := [14]) (by kernel_rfl) (by simp) ?_)
      refine AllReadyH.cons rfl (fun K hK => ?_) AllReadyH.nil
      (go_simp
       (refine hK.out _ _ ?_ (fun hHeld => ?_)
        · (try dsimp only); (refine ⟨?_, ?_, ?_, ?_, ?_, ?_, ?_, ?_, ?_⟩ <;> (repeat (first | with_reducible assumption | (simp [go_sem]; done) | with_reducible apply cell_alloc | with_reducible apply cell_drew | with_reducible apply cell_drewN | (with_reducible apply Ab.at; with_reducible assumption) | (with_reducible refine cell_set ?_ ?_; rotate_left; focus (first | (simp; done) | (simp; omega))) | (with_reducible refine cell_setb ?_ ?_; rotate_left; focus (first | omega | (simp only; omega) | (simp; omega))))))
        clear hK K
        (try simp only [Act.put, List.setIfInBounds_toArray, List.set_cons_zero, List.set_cons_succ])))
      refine wpAnyH_done (by kernel_rfl) ?_ _
      have hz2 := hz.ab bw2
      have hM2 := hM.ab bw2
      have zz2 := Nat.le_trans hsz bw2.size
      have hL2 : RB w2 (w.heap.size + 1 + 1 + 1) E L := oL.rb.mono (by have := hb1.size; first | omega | (simp; omega))
      have hLc := oL.le
      have HS := Lib.hid (show Slots.Small ⟨L, [], cep, false⟩ by have := HO.out; unfold Slots.op at this; rw [hL.out]; exact this)
      have HOP := Lib.hid (show (⟨L, [], cep, false⟩ : Dev) = Slots.op ⟨p, q, cep, dm⟩ by rw [hL.out]; rfl)
      have b2 : Ab w w2 := (by repeat (first | with_reducible exact Ab.refl _ | with_reducible assumption | with_reducible refine Ab.drew ?_ | with_reducible refine Ab.drewN ?_ _ | with_reducible refine Ab.alloc ?_ _ | with_reducible refine Ab.trans ?_ (by assumption) | with_reducible refine Ab.set ?_ (by first | (simp; done) | omega | (simp; omega)) _))
      obtain ⟨zq0, zq1, zq2, zq3, zq4, zq5, zq6, zq7, zq8, zg0, zg1, zg2, zg3, zg4, zg5, zg6, zg7, zg8⟩ := hz2
      (try simp only [AM.nil, Slots.zero, Disk.zero, List.length_nil] at zq0 zq1 zq2 zq3 zq4 zq5 zq6 zq7 zq8)
      go_wp2
      go_roundw
      case rel => exact ⟨⟨m'.A, m'.B, E, none, m'.ca, m'.cb, c, 0⟩, ⟨r'.a, ⟨L, [], cep, false⟩, r'.n⟩, ⟨⟨(by simp [go_sem, *]), (by simp [go_sem, *]), (by simp [go_sem, *]), (by simp [go_sem, *]), (by simp [go_sem, *]), (by simp [go_sem, *]), (by simp [go_sem, *]), (by simp [go_sem, *]), (by simp [go_sem, *]), (by simp [go_sem, *]), (by simp [go_sem, *]), (by simp [go_sem, *]), (by simp [go_sem, *]), (by simp [go_sem, *]), (by simp [go_sem, *]), (by simp [go_sem, *]), (by simp [go_sem, *]), (by simp [go_sem, *])⟩, ⟨(by simp [go_sem, AM.nil, Slots.zero, Disk.zero, *]), (by simp [go_sem, AM.nil, Slots.zero, Disk.zero, *]), (by simp [go_sem, AM.nil, Slots.zero, Disk.zero, *]), (by simp [go_sem, AM.nil, Slots.zero, Disk.zero, *]), (by simp [go_sem, AM.nil, Slots.zero, Disk.zero, *]), (by simp [go_sem, AM.nil, Slots.zero, Disk.zero, *]), (by simp [go_sem, AM.nil, Slots.zero, Disk.zero, *]), (by simp [go_sem, AM.nil, Slots.zero, Disk.zero, *]), (by simp [go_sem, AM.nil, Slots.zero, Disk.zero, *]), (by simp [go_sem, AM.nil, Slots.zero, Disk.zero, *]), (by simp [go_sem, AM.nil, Slots.zero, Disk.zero, *]), (by simp [go_sem, AM.nil, Slots.zero, Disk.zero, *]), (by simp [go_sem, AM.nil, Slots.zero, Disk.zero, *]), (by simp [go_sem, AM.nil, Slots.zero, Disk.zero, *]), (by simp [go_sem, AM.nil, Slots.zero, Disk.zero, *]), (by simp [go_sem, AM.nil, Slots.zero, Disk.zero, *]), (by simp [go_sem, AM.nil, Slots.zero, Disk.zero, *]), (by simp [go_sem, AM.nil, Slots.zero, Disk.zero, *])⟩, ⟨(by simp [go_sem, AM.nil, Slots.zero, Disk.zero, *]), (by simp [go_sem, AM.nil, Slots.zero, Disk.zero, *]), (by simp [go_sem, AM.nil, Slots.zero, Disk.zero, *]), (by simp [go_sem, AM.nil, Slots.zero, Disk.zero, *]), (by simp [go_sem, AM.nil, Slots.zero, Disk.zero, *]), (by simp [go_sem, AM.nil, Slots.zero, Disk.zero, *]), (by simp [go_sem, AM.nil, Slots.zero, Disk.zero, *]), (by simp [go_sem, AM.nil, Slots.zero, Disk.zero, *]), (by simp [go_sem, AM.nil, Slots.zero, Disk.zero, *]), (by simp [go_sem, AM.nil, Slots.zero, Disk.zero, *]), (by simp [go_sem, AM.nil, Slots.zero, Disk.zero, *]), (by simp [go_sem, AM.nil, Slots.zero, Disk.zero, *]), (by simp [go_sem, AM.nil, Slots.zero, Disk.zero, *]), (by simp [go_sem, AM.nil, Slots.zero, Disk.zero, *]), (by simp [go_sem, AM.nil, Slots.zero, Disk.zero, *]), (by simp [go_sem, AM.nil, Slots.zero, Disk.zero, *]), (by simp [go_sem, AM.nil, Slots.zero, Disk.zero, *]), (by simp [go_sem, AM.nil, Slots.zero, Disk.zero, *])⟩, by (repeat with_reducible refine SlM.put ?_ (by first | (simp; done) | omega | (simp; omega)) _); exact ⟨hM2.a, hM2.b, hL2, RB.nil, hM2.la, hM2.lb, hLc, Nat.le_refl _, hM2.sa, hM2.sb, HS.out.1, HS.out.2⟩, (by repeat (first | with_reducible exact Ab.refl _ | with_reducible assumption | with_reducible refine Ab.drew ?_ | with_reducible refine Ab.drewN ?_ _ | with_reducible refine Ab.alloc ?_ _ | with_reducible refine Ab.trans ?_ (by assumption) | with_reducible refine Ab.set ?_ (by first | (simp; done) | omega | (simp; omega)) _)), by simp; omega⟩, .inr (.inr ⟨rfl, hna, HN, Lib.hid (by rw [hr'.out, HOP.out])⟩)⟩
      case measure => (show 2 - (intOf _).toNat < 2 - (intOf _).toNat); simp only [intOf]; omega
    · have HA := Lib.hid (show Slots.Ok r'.a by rw [hr'.out]; exact Slots.op_ok hna.out)
      have HB := Lib.hid (show Slots.Ok r'.b by rw [hr'.out]; exact Slots.op_ok hnb.out)
      have HM := Lib.hid (show Slots.open_ (⟨⟨s, t, cap, dn⟩, ⟨p, q, cep, dm⟩, n⟩ : Sl) = (⟨r'.a, r'.b, Slots.nextOf (Slots.newest ⟨r'.a, r'.b, 1⟩)⟩, 0) by
        rw [hr'.out]; exact if_neg (by rintro (k | k); exact hna.out k; exact hnb.out k))
      have hn1 : r'.n = 1 := by rw [hr'.out]
      have HV := hv
      obtain ⟨yq0, yq1, yq2, yq3, yq4, yq5, yq6, yq7, yq8, yg0, yg1, yg2, yg3, yg4, yg5, yg6, yg7, yg8⟩ := hv
      (try simp only [AM.nil, Slots.zero, Disk.zero, List.length_nil] at yq0 yq1 yq2 yq3 yq4 yq5 yq6 yq7 yq8)
      go_wp2_with fail
      refine (srnewest_any m' ⟨r'.a, r'.b, 1⟩ _ (hM.numr 1).zero (by have := HA.out.size; rw [HA.out.tail]; simpa using this) (by have := HB.out.size; rw [HB.out.tail]; simpa using this)).mono ?_
      rintro e w2 ⟨r1, ok1, X1, c1, h1, rfl, hX1, hc1, hv1, hb2⟩
      have hM2 : SlM w2 (w.heap.size + 1 + 1 + 1) m' ⟨r'.a, r'.b, 1⟩ := (hM.ab hb2).numr 1
      have b2 : Ab w w2 := hab.trans hb2
      have zz2 : w.heap.size + 1 + 1 + 1 ≤ w2.heap.size := Nat.le_trans hsz hb2.size
      clear yq0 yq1 yq2 yq3 yq4 yq5 yq6 yq7 yq8 yg0 yg1 yg2 yg3 yg4 yg5 yg6 yg7 yg8
      obtain ⟨yq0, yq1, yq2, yq3, yq4, yq5, yq6, yq7, yq8, yg0, yg1, yg2, yg3, yg4, yg5, yg6, yg7, yg8⟩ := (HV.ab hb2)
      (try simp only [AM.nil, Slots.zero, Disk.zero, List.length_nil] at yq0 yq1 yq2 yq3 yq4 yq5 yq6 yq7 yq8)
      obtain ⟨zq0, zq1, zq2, zq3, zq4, zq5, zq6, zq7, zq8, zg0, zg1, zg2, zg3, zg4, zg5, zg6, zg7, zg8⟩ := (hz.ab hb2)
      (try simp only [AM.nil, Slots.zero, Disk.zero, List.length_nil] at zq0 zq1 zq2 zq3 zq4 zq5 zq6 zq7 zq8)
      have nya := fun (o : Obj) (j : Nat) => World.cell?_alloc_lt w2 o ⟨w.heap.size + 1 + 1, j, none⟩ (by simp only; omega)
      have nyb := fun (o : Obj) (j : Nat) => ((Ab.refl w2).alloc o).frozen (p := ⟨w.heap.size + 1 + 1, j, none⟩) (by simp only; omega)
      have nza := fun (o : Obj) (j : Nat) => World.cell?_alloc_lt w2 o ⟨w.heap.size + 1, j, none⟩ (by simp only; omega)
      have nzb := fun (o : Obj) (j : Nat) => ((Ab.refl w2).alloc o).frozen (p := ⟨w.heap.size + 1, j, none⟩) (by simp only; omega)
      have ne1 : w.heap.size + 1 ≠ w2.heap.size := by omega
      have ne2 : w.heap.size + 1 + 1 ≠ w2.heap.size := by omega
      have ne3 : w2.heap.size ≠ w.heap.size + 1 := by omega
      have ne4 : w2.heap.size ≠ w.heap.size + 1 + 1 := by omega
      clear hX1 hb2
      cases ok1 with
      | false =>
        go_wp2
        refine bodyPost_ret (v := .tuple #[.agg #[.slice m'.A (⟨r'.a, r'.b, 1⟩ : Sl).a.s.length m'.ca, .slice m'.B (⟨r'.a, r'.b, 1⟩ : Sl).a.t.length m'.cb, .int .i64 (⟨r'.a, r'.b, 1⟩ : Sl).a.cap, .bool (⟨r'.a, r'.b, 1⟩ : Sl).a.down, .slice m'.C (⟨r'.a, r'.b, 1⟩ : Sl).b.s.length m'.cc, .slice m'.D (⟨r'.a, r'.b, 1⟩ : Sl).b.t.length m'.cd, .int .i64 (⟨r'.a, r'.b, 1⟩ : Sl).b.cap, .bool (⟨r'.a, r'.b, 1⟩ : Sl).b.down, .int .i64 (⟨r'.a, r'.b, 1⟩ : Sl).n], .int .i64 0]) (by simp [results, Try.results26, go_sem, *]) rfl ?_
        exact ⟨⟨r'.a, r'.b, 1⟩, 0, m', Lib.hid (by rw [HM.out, ← h1.out]; rfl), rfl, by refine SlM.mono (lo := w.heap.size + 1 + 1 + 1) (SlM.numr (r := ⟨r'.a, r'.b, 1⟩) ?_ 1) (by omega); repeat (first | with_reducible exact hM2 | with_reducible exact hM2.ab ((Ab.refl w2).alloc _) | with_reducible refine SlM.put ?_ (by first | (simp; done) | omega | (simp; omega)) _), (by repeat (first | with_reducible exact Ab.refl _ | with_reducible assumption | with_reducible refine Ab.drew ?_ | with_reducible refine Ab.drewN ?_ _ | with_reducible refine Ab.alloc ?_ _ | with_reducible refine Ab.trans ?_ (by assumption) | with_reducible refine Ab.set ?_ (by first | (simp; done) | omega | (simp; omega)) _))⟩
      | true =>
        have hv := hv1 rfl
        have hnw : IntKind.i64.wrap (r1.num + 1) = r1.num + 1 := IntWalk.i64_in _ (by have := hv.1; have := hv.2.1; omega)
        clear hv hv1
        go_wp2
        refine bodyPost_ret (v := .tuple #[.agg #[.slice m'.A (⟨r'.a, r'.b, r1.num + 1⟩ : Sl).a.s.length m'.ca, .slice m'.B (⟨r'.a, r'.b, r1.num + 1⟩ : Sl).a.t.length m'.cb, .int .i64 (⟨r'.a, r'.b, r1.num + 1⟩ : Sl).a.cap, .bool (⟨r'.a, r'.b, r1.num + 1⟩ : Sl).a.down, .slice m'.C (⟨r'.a, r'.b, r1.num + 1⟩ : Sl).b.s.length m'.cc, .slice m'.D (⟨r'.a, r'.b, r1.num + 1⟩ : Sl).b.t.length m'.cd, .int .i64 (⟨r'.a, r'.b, r1.num + 1⟩ : Sl).b.cap, .bool (⟨r'.a, r'.b, r1.num + 1⟩ : Sl).b.down, .int .i64 (⟨r'.a, r'.b, r1.num + 1⟩ : Sl).n], .int .i64 0]) (by simp [results, Try.results26, go_sem, *]) rfl ?_
        exact ⟨⟨r'.a, r'.b, r1.num + 1⟩, 0, m', Lib.hid (by rw [HM.out, ← h1.out]; rfl), rfl, by refine SlM.mono (lo := w.heap.size + 1 + 1 + 1) (SlM.numr (r := ⟨r'.a, r'.b, 1⟩) ?_ (r1.num + 1)) (by omega); repeat (first | with_reducible exact hM2 | with_reducible exact hM2.ab ((Ab.refl w2).alloc _) | with_reducible refine SlM.put ?_ (by first | (simp; done) | omega | (simp; omega)) _), (by repeat (first | with_reducible exact Ab.refl _ | with_reducible assumption | with_reducible refine Ab.drew ?_ | with_reducible refine Ab.drewN ?_ _ | with_reducible refine Ab.alloc ?_ _ | with_reducible refine Ab.trans ?_ (by assumption) | with_reducible refine Ab.set ?_ (by first | (simp; done) | omega | (simp; omega)) _))⟩
end Go.Proofs.Ytakgglpfgpkboaa
