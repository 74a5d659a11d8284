/- SlotsKeeps, walked. Own work. -/
import Derived.Test.YtakgglpfgpkboaaSLawC
set_option linter.unusedVariables false
set_option linter.unusedSimpArgs false
namespace Go.Proofs.Ytakgglpfgpkboaa
open Go.RowKit
open Slots (Sl)
open Disk (Dev)

/-- Saving: an error, or the slots with the checkpoint. -/
theorem Slots.saves {o : Sl} (h : Slots.Op o) {b : List UInt8} (hb : b.length ≤ 1000) {p : Sl} {num er : Int} (hh : (p, num, er) = Slots.save o b) :
    (er = 18 ∨ er = 2) ∨ (er = 0 ∧ num = o.n ∧ o.n ≤ 1000000000 ∧ Slots.Op p ∧ p.n = o.n + 1 ∧ Slots.newest p = some ⟨o.n, b⟩ ∧ p = o.put ⟨Frame.enc ⟨o.n, b⟩, [], o.cur.cap, false⟩ o.oth (o.n + 1)) := by
  by_cases ha : Slots.asked o b = 0
  · rw [Slots.save_ok ha] at hh
    obtain ⟨h1, h2⟩ := Prod.mk.inj hh
    obtain ⟨h3, h4⟩ := Prod.mk.inj h2
    refine .inr ⟨h4, h3, (Slots.asked_good ha).2.2.1, ?_, ?_, ?_, h1⟩
    · rw [h1]; exact Slots.saved_op h ha
    · rw [h1]; unfold Slots.Sl.put; split <;> rfl
    · rw [h1]; exact Slots.saved_newest h ha _
  · unfold Slots.save at hh
    rw [if_pos ha] at hh
    have h4 := (Prod.mk.inj (Prod.mk.inj hh).2).2
    rcases Slots.asked_err h.1 hb ha with e | e
    · exact .inl (.inr (h4.trans e))
    · exact .inl (.inl (h4.trans e))
theorem Slots.op_load {o : Sl} (h : Slots.Op o) {q : Frame.Rec} (hn : Slots.newest o = some q) : Slots.load o = (q.num, q.data, 0) := by
  rw [Slots.load_good h.1, hn]; rfl
/-- The checkpoint before the last one is there when the last one's slot is empty. -/
theorem Slots.kept {x : Sl} (h : Slots.Op x) {q : Frame.Rec} (hn : Slots.newest x = some q) (hl : x.n ≤ 1000000000) {e : Dev} {y : Sl} (hy : y = x.put e x.oth (x.n + 1)) :
    (x.n % 2 = 0 → Slots.load ⟨⟨[], [], 1, false⟩, y.b, y.n⟩ = (q.num, q.data, 0)) ∧ (x.n % 2 = 1 → Slots.load ⟨y.a, ⟨[], [], 1, false⟩, y.n⟩ = (q.num, q.data, 0)) := by
  have hk : Slots.Ok ⟨[], [], 1, false⟩ := Slots.ok_mk (by decide) (by simp)
  have h0 := Slots.newest_before h (x := ⟨[], [], 1, false⟩) Slots.first_nil (x.n + 1)
  have hg := Slots.put_oth (s := x) _ _ (x.n + 1) hk h.1.oth (by have := h.1.lo; omega) (by omega)
  rw [hn] at h0
  refine ⟨fun hp => ?_, fun hp => ?_⟩
  · have e1 : (⟨⟨[], [], 1, false⟩, y.b, y.n⟩ : Sl) = x.put ⟨[], [], 1, false⟩ x.oth (x.n + 1) := by
      rw [hy]; simp only [Slots.Sl.put, if_pos hp]
    rw [e1, Slots.load_good hg, h0]; rfl
  · have hp' : ¬ x.n % 2 = 0 := by omega
    have e1 : (⟨y.a, ⟨[], [], 1, false⟩, y.n⟩ : Sl) = x.put ⟨[], [], 1, false⟩ x.oth (x.n + 1) := by
      rw [hy]; simp only [Slots.Sl.put, if_neg hp']
    rw [e1, Slots.load_good hg, h0]; rfl

theorem SlA.ab {w w' : World} {m : AM} {r : Sl} (h : SlA w m r) (k : Ab w w') : SlA w' m r := ⟨h.a.ab k, h.b.ab k, h.c.ab k, h.d.ab k, h.la, h.lb, h.lc, h.ld⟩

set_option maxRecDepth 100000 in
set_option maxHeartbeats 6400000 in
theorem skeeps_walk (m : AM) (r : Sl) (w : World) (ha : SlA w m r) (X : Option Addr) (cx : Nat) (a : List UInt8) (hx : RB w 0 X a) (hcx : a.length ≤ cx) (la : a.length ≤ 9223372036854775807)
    (Y : Option Addr) (cy : Nat) (b : List UInt8) (hy : RB w 0 Y b) (hcy : b.length ≤ cy) (lb : b.length ≤ 9223372036854775807) :
    Calls Try.prog 7 #[.agg #[.slice m.A r.a.s.length m.ca, .slice m.B r.a.t.length m.cb, .int .i64 r.a.cap, .bool r.a.down, .slice m.C r.b.s.length m.cc, .slice m.D r.b.t.length m.cd, .int .i64 r.b.cap, .bool r.b.down, .int .i64 r.n], .slice X a.length cx, .slice Y b.length cy] w fun e w' => e = .returned (.bool true) ∧ Ab w w' := by
  by_cases hf : Slots.fits r
  case neg =>
    have HF := Lib.hid hf
    clear hf
    go_enter Try.func7, Try.ntmps7
    go_wp2_with fail
    refine (sfit_no m r _ (ha.ab (by repeat (first | with_reducible exact Ab.refl _ | with_reducible assumption | with_reducible refine Ab.drew ?_ | with_reducible refine Ab.drewN ?_ _ | with_reducible refine Ab.alloc ?_ _ | with_reducible refine Ab.trans ?_ (by assumption) | with_reducible refine Ab.set ?_ (by first | (simp; done) | omega | (simp; omega)) _))) HF.out).mono ?_
    rintro e w1 ⟨rfl, hb1⟩
    go_wp2_with fail
    refine (salive_true _).mono ?_
    rintro e wz ⟨rfl, hbz⟩
    go_wp2
    go_ret
    exact ⟨rfl, (by repeat (first | with_reducible exact Ab.refl _ | with_reducible assumption | with_reducible refine Ab.drew ?_ | with_reducible refine Ab.drewN ?_ _ | with_reducible refine Ab.alloc ?_ _ | with_reducible refine Ab.trans ?_ (by assumption) | with_reducible refine Ab.set ?_ (by first | (simp; done) | omega | (simp; omega)) _))⟩
  have h := ha.slmC hf.1
  have HF := Lib.hid hf
  clear hf
  by_cases h11 : 1000 < a.length
  · have h11' : decide ((1000 : Int) < (a.length : Int)) = true := by simp; omega
    clear h11
    go_enter Try.func7, Try.ntmps7
    go_wp2_with fail
    refine (sfit_yes m r _ (ha.ab (by repeat (first | with_reducible exact Ab.refl _ | with_reducible assumption | with_reducible refine Ab.drew ?_ | with_reducible refine Ab.drewN ?_ _ | with_reducible refine Ab.alloc ?_ _ | with_reducible refine Ab.trans ?_ (by assumption) | with_reducible refine Ab.set ?_ (by first | (simp; done) | omega | (simp; omega)) _))) HF.out).mono ?_
    rintro e w1 ⟨rfl, hb1⟩
    go_wp2_with fail
    refine (salive_true _).mono ?_
    rintro e wz ⟨rfl, hbz⟩
    go_wp2
    go_ret
    exact ⟨rfl, (by repeat (first | with_reducible exact Ab.refl _ | with_reducible assumption | with_reducible refine Ab.drew ?_ | with_reducible refine Ab.drewN ?_ _ | with_reducible refine Ab.alloc ?_ _ | with_reducible refine Ab.trans ?_ (by assumption) | with_reducible refine Ab.set ?_ (by first | (simp; done) | omega | (simp; omega)) _))⟩
  have h11' : decide ((1000 : Int) < (a.length : Int)) = false := by simp; omega
  have hal : a.length ≤ 1000 := by omega
  clear h11
  by_cases h12 : 1000 < b.length
  · have h12' : decide ((1000 : Int) < (b.length : Int)) = true := by simp; omega
    clear h12
    go_enter Try.func7, Try.ntmps7
    go_wp2_with fail
    refine (sfit_yes m r _ (ha.ab (by repeat (first | with_reducible exact Ab.refl _ | with_reducible assumption | with_reducible refine Ab.drew ?_ | with_reducible refine Ab.drewN ?_ _ | with_reducible refine Ab.alloc ?_ _ | with_reducible refine Ab.trans ?_ (by assumption) | with_reducible refine Ab.set ?_ (by first | (simp; done) | omega | (simp; omega)) _))) HF.out).mono ?_
    rintro e w1 ⟨rfl, hb1⟩
    go_wp2_with fail
    refine (salive_true _).mono ?_
    rintro e wz ⟨rfl, hbz⟩
    go_wp2
    go_ret
    exact ⟨rfl, (by repeat (first | with_reducible exact Ab.refl _ | with_reducible assumption | with_reducible refine Ab.drew ?_ | with_reducible refine Ab.drewN ?_ _ | with_reducible refine Ab.alloc ?_ _ | with_reducible refine Ab.trans ?_ (by assumption) | with_reducible refine Ab.set ?_ (by first | (simp; done) | omega | (simp; omega)) _))⟩
  have h12' : decide ((1000 : Int) < (b.length : Int)) = false := by simp; omega
  have hbl : b.length ≤ 1000 := by omega
  clear h12
  have hO := Slots.open_good HF.out.2.a HF.out.2.b
  have hP := Slots.op_of HF.out.2.a HF.out.2.b
  generalize hnx : Slots.nextOf (Slots.newest r) = nx at hO hP
  have HO := Lib.hid hO
  have HP := Lib.hid hP
  have hlo : decide (nx < 1) = false := by have := hP.1.lo; simp only at this; simpa using this
  clear hO hP hnx
  go_enter Try.func7, Try.ntmps7
  go_wp2_with fail
  refine (sfit_yes m r _ (ha.ab (by repeat (first | with_reducible exact Ab.refl _ | with_reducible assumption | with_reducible refine Ab.drew ?_ | with_reducible refine Ab.drewN ?_ _ | with_reducible refine Ab.alloc ?_ _ | with_reducible refine Ab.trans ?_ (by assumption) | with_reducible refine Ab.set ?_ (by first | (simp; done) | omega | (simp; omega)) _))) HF.out).mono ?_
  rintro e w1 ⟨rfl, hb1⟩
  have H3 : SlB w1 w.heap.size m r := (SlB.box (new_plain rfl)).ab hb1
  have S3 := H3
  obtain ⟨vq0, vq1, vq2, vq3, vq4, vq5, vq6, vq7, vq8, vg0, vg1, vg2, vg3, vg4, vg5, vg6, vg7, vg8⟩ := S3
  (try simp only [AM.nil, Slots.zero, Disk.zero, List.length_nil] at vq0 vq1 vq2 vq3 vq4 vq5 vq6 vq7 vq8)
  go_wp2_with fail
  refine (sopen_any m r _ (h.ab (by repeat (first | with_reducible exact Ab.refl _ | with_reducible assumption | with_reducible refine Ab.drew ?_ | with_reducible refine Ab.drewN ?_ _ | with_reducible refine Ab.alloc ?_ _ | with_reducible refine Ab.trans ?_ (by assumption) | with_reducible refine Ab.set ?_ (by first | (simp; done) | omega | (simp; omega)) _)))).mono ?_
  rintro e w2 ⟨r2, e2, m2, hr2, rfl, hM2, hb2⟩
  obtain ⟨e3, e4⟩ := Prod.mk.inj (hr2.out.trans HO.out)
  obtain rfl : r2 = ⟨r.a, r.b, nx⟩ := e3
  obtain rfl : e2 = 0 := e4
  clear hr2
  dsimp only
  clear vq0 vq1 vq2 vq3 vq4 vq5 vq6 vq7 vq8 vg0 vg1 vg2 vg3 vg4 vg5 vg6 vg7 vg8
  have b02 : Ab w w2 := (by repeat (first | with_reducible exact Ab.refl _ | with_reducible assumption | with_reducible refine Ab.drew ?_ | with_reducible refine Ab.drewN ?_ _ | with_reducible refine Ab.alloc ?_ _ | with_reducible refine Ab.trans ?_ (by assumption) | with_reducible refine Ab.set ?_ (by first | (simp; done) | omega | (simp; omega)) _))
  have H3 := H3.ab hb2
  have S3 := H3
  obtain ⟨vq0, vq1, vq2, vq3, vq4, vq5, vq6, vq7, vq8, vg0, vg1, vg2, vg3, vg4, vg5, vg6, vg7, vg8⟩ := S3
  (try simp only [AM.nil, Slots.zero, Disk.zero, List.length_nil] at vq0 vq1 vq2 vq3 vq4 vq5 vq6 vq7 vq8)
  have nva := fun (o : Obj) (j : Nat) => World.cell?_alloc_lt w2 o ⟨w.heap.size, j, none⟩ H3.lt
  have nvb := fun (o : Obj) (j : Nat) => ((Ab.refl w2).alloc o).frozen (p := ⟨w.heap.size, j, none⟩) H3.lt
  have hne := Nat.ne_of_lt H3.lt
  go_wp2_with fail
  refine (ssame_true m2 m r _ ((show SlM w2 0 m2 r from (hM2.num r.n).zero).ab ((Ab.refl w2).alloc _)) (h.ab (by repeat (first | with_reducible exact Ab.refl _ | with_reducible assumption | with_reducible refine Ab.drew ?_ | with_reducible refine Ab.drewN ?_ _ | with_reducible refine Ab.alloc ?_ _ | with_reducible refine Ab.trans ?_ (by assumption) | with_reducible refine Ab.set ?_ (by first | (simp; done) | omega | (simp; omega)) _)))).mono ?_
  rintro e w3 ⟨rfl, hb3⟩
  have H7 : SlB w3 w2.heap.size m2 r := (SlB.box (w := w2.alloc (.cells #[.slice m2.A r.a.s.length m2.ca, .slice m2.B r.a.t.length m2.cb, .int .i64 r.a.cap, .bool r.a.down, .slice m2.C r.b.s.length m2.cc, .slice m2.D r.b.t.length m2.cd, .int .i64 r.b.cap, .bool r.b.down, .int .i64 r.n] 27)) (new_plain rfl)).ab hb3
  have b23 : Ab w2 w3 := ((Ab.refl w2).alloc _).trans hb3
  have b03 : Ab w w3 := b02.trans b23
  have H3 := H3.ab b23
  clear vq0 vq1 vq2 vq3 vq4 vq5 vq6 vq7 vq8 vg0 vg1 vg2 vg3 vg4 vg5 vg6 vg7 vg8
  have S3 := H3
  obtain ⟨vq0, vq1, vq2, vq3, vq4, vq5, vq6, vq7, vq8, vg0, vg1, vg2, vg3, vg4, vg5, vg6, vg7, vg8⟩ := S3
  (try simp only [AM.nil, Slots.zero, Disk.zero, List.length_nil] at vq0 vq1 vq2 vq3 vq4 vq5 vq6 vq7 vq8)
  clear hb1 hb2 hb3
  go_wp2_with fail
  refine (sopen_any m r _ (h.ab b03)).mono ?_
  rintro e w4 ⟨r4, e4, m4, hr4, rfl, hM4, hb4⟩
  obtain ⟨e5, e6⟩ := Prod.mk.inj (hr4.out.trans HO.out)
  obtain rfl : r4 = ⟨r.a, r.b, nx⟩ := e5
  obtain rfl : e4 = 0 := e6
  clear hr4
  dsimp only
  clear vq0 vq1 vq2 vq3 vq4 vq5 vq6 vq7 vq8 vg0 vg1 vg2 vg3 vg4 vg5 vg6 vg7 vg8
  have b04 : Ab w w4 := b03.trans hb4
  have H7 := H7.ab hb4
  have h27 : w.heap.size ≤ w2.heap.size := b02.size
  have H7n : SlB (((((((((w4.setCell ⟨w2.heap.size, 0, none⟩ (.slice m4.A (⟨r.a, r.b, nx⟩ : Sl).a.s.length m4.ca)).setCell ⟨w2.heap.size, 1, none⟩ (.slice m4.B (⟨r.a, r.b, nx⟩ : Sl).a.t.length m4.cb)).setCell ⟨w2.heap.size, 2, none⟩ (.int .i64 (⟨r.a, r.b, nx⟩ : Sl).a.cap)).setCell ⟨w2.heap.size, 3, none⟩ (.bool (⟨r.a, r.b, nx⟩ : Sl).a.down)).setCell ⟨w2.heap.size, 4, none⟩ (.slice m4.C (⟨r.a, r.b, nx⟩ : Sl).b.s.length m4.cc)).setCell ⟨w2.heap.size, 5, none⟩ (.slice m4.D (⟨r.a, r.b, nx⟩ : Sl).b.t.length m4.cd)).setCell ⟨w2.heap.size, 6, none⟩ (.int .i64 (⟨r.a, r.b, nx⟩ : Sl).b.cap)).setCell ⟨w2.heap.size, 7, none⟩ (.bool (⟨r.a, r.b, nx⟩ : Sl).b.down)).setCell ⟨w2.heap.size, 8, none⟩ (.int .i64 (⟨r.a, r.b, nx⟩ : Sl).n)) w2.heap.size m4 (⟨r.a, r.b, nx⟩ : Sl) := H7.set9
  have hM5 : SlM (((((((((w4.setCell ⟨w2.heap.size, 0, none⟩ (.slice m4.A (⟨r.a, r.b, nx⟩ : Sl).a.s.length m4.ca)).setCell ⟨w2.heap.size, 1, none⟩ (.slice m4.B (⟨r.a, r.b, nx⟩ : Sl).a.t.length m4.cb)).setCell ⟨w2.heap.size, 2, none⟩ (.int .i64 (⟨r.a, r.b, nx⟩ : Sl).a.cap)).setCell ⟨w2.heap.size, 3, none⟩ (.bool (⟨r.a, r.b, nx⟩ : Sl).a.down)).setCell ⟨w2.heap.size, 4, none⟩ (.slice m4.C (⟨r.a, r.b, nx⟩ : Sl).b.s.length m4.cc)).setCell ⟨w2.heap.size, 5, none⟩ (.slice m4.D (⟨r.a, r.b, nx⟩ : Sl).b.t.length m4.cd)).setCell ⟨w2.heap.size, 6, none⟩ (.int .i64 (⟨r.a, r.b, nx⟩ : Sl).b.cap)).setCell ⟨w2.heap.size, 7, none⟩ (.bool (⟨r.a, r.b, nx⟩ : Sl).b.down)).setCell ⟨w2.heap.size, 8, none⟩ (.int .i64 (⟨r.a, r.b, nx⟩ : Sl).n)) 0 m4 (⟨r.a, r.b, nx⟩ : Sl) := hM4.zero.set9 H7 _ _
  have b05 : Ab w (((((((((w4.setCell ⟨w2.heap.size, 0, none⟩ (.slice m4.A (⟨r.a, r.b, nx⟩ : Sl).a.s.length m4.ca)).setCell ⟨w2.heap.size, 1, none⟩ (.slice m4.B (⟨r.a, r.b, nx⟩ : Sl).a.t.length m4.cb)).setCell ⟨w2.heap.size, 2, none⟩ (.int .i64 (⟨r.a, r.b, nx⟩ : Sl).a.cap)).setCell ⟨w2.heap.size, 3, none⟩ (.bool (⟨r.a, r.b, nx⟩ : Sl).a.down)).setCell ⟨w2.heap.size, 4, none⟩ (.slice m4.C (⟨r.a, r.b, nx⟩ : Sl).b.s.length m4.cc)).setCell ⟨w2.heap.size, 5, none⟩ (.slice m4.D (⟨r.a, r.b, nx⟩ : Sl).b.t.length m4.cd)).setCell ⟨w2.heap.size, 6, none⟩ (.int .i64 (⟨r.a, r.b, nx⟩ : Sl).b.cap)).setCell ⟨w2.heap.size, 7, none⟩ (.bool (⟨r.a, r.b, nx⟩ : Sl).b.down)).setCell ⟨w2.heap.size, 8, none⟩ (.int .i64 (⟨r.a, r.b, nx⟩ : Sl).n)) := b04.set9 h27 _ _
  have S7 := H7
  obtain ⟨yq0, yq1, yq2, yq3, yq4, yq5, yq6, yq7, yq8, yg0, yg1, yg2, yg3, yg4, yg5, yg6, yg7, yg8⟩ := S7
  (try simp only [AM.nil, Slots.zero, Disk.zero, List.length_nil] at yq0 yq1 yq2 yq3 yq4 yq5 yq6 yq7 yq8)
  go_wp2_with fail
  refine (ssave_any m4 (⟨r.a, r.b, nx⟩ : Sl) _ hM5 X a cx (hx.ab b05) hcx).mono ?_
  rintro e w5 ⟨r5, n5, e5, m5, hr5, rfl, hM5', hb5⟩
  clear yq0 yq1 yq2 yq3 yq4 yq5 yq6 yq7 yq8 yg0 yg1 yg2 yg3 yg4 yg5 yg6 yg7 yg8
  have H7 := H7n.ab hb5
  have b06 : Ab w w5 := b05.trans hb5
  clear hb4 H7n hM5
  rcases Slots.saves HP.out hal hr5.out with he | ⟨he, hnum, hx9', hP5, hn5, hN5, hform⟩
  · clear hr5
    rcases he with rfl | rfl
    · go_wp2_with fail
      refine (salive_true _).mono ?_
      rintro e wz ⟨rfl, hbz⟩
      go_wp2
      go_ret
      exact ⟨rfl, (by repeat (first | with_reducible exact Ab.refl _ | with_reducible assumption | with_reducible refine Ab.drew ?_ | with_reducible refine Ab.drewN ?_ _ | with_reducible refine Ab.alloc ?_ _ | with_reducible refine Ab.trans ?_ (by assumption) | with_reducible refine Ab.set ?_ (by first | (simp; done) | omega | (simp; omega)) _))⟩
    · go_wp2_with fail
      refine (salive_true _).mono ?_
      rintro e wz ⟨rfl, hbz⟩
      go_wp2
      go_ret
      exact ⟨rfl, (by repeat (first | with_reducible exact Ab.refl _ | with_reducible assumption | with_reducible refine Ab.drew ?_ | with_reducible refine Ab.drewN ?_ _ | with_reducible refine Ab.alloc ?_ _ | with_reducible refine Ab.trans ?_ (by assumption) | with_reducible refine Ab.set ?_ (by first | (simp; done) | omega | (simp; omega)) _))⟩
  clear hr5
  (try simp only at hnum hn5 hx9')
  obtain rfl : e5 = 0 := he
  obtain rfl : n5 = nx := hnum
  have HP5 := Lib.hid hP5
  have HN5 := Lib.hid hN5
  have HL5 := Lib.hid (Slots.op_load hP5 hN5)
  have hc1 : (r5.n != n5 + 1) = false := by rw [hn5]; simp
  have hlo1 := HP.out.1.lo
  simp only at hlo1
  have hw : IntKind.i64.wrap (n5 + 1) = n5 + 1 := IntWalk.i64_in _ (by omega)
  have hx0 : 0 ≤ r5.n := by omega
  have HN := Lib.hid hn5
  clear hP5 hN5 hn5 hform hb5
  have hal5 : Ab w5 (w5.alloc (.cells #[.slice m5.A r5.a.s.length m5.ca, .slice m5.B r5.a.t.length m5.cb, .int .i64 r5.a.cap, .bool r5.a.down, .slice m5.C r5.b.s.length m5.cc, .slice m5.D r5.b.t.length m5.cd, .int .i64 r5.b.cap, .bool r5.b.down, .int .i64 r5.n] 27)) := (Ab.refl w5).alloc _
  go_wp2_with fail
  refine (load_any m5 r5 _ (hM5'.ab hal5)).mono ?_
  rintro e w6 ⟨n6, e6, b6, A6, c6, hr6, rfl, hA6, hc6, hl6, hb6⟩
  obtain ⟨f1, f2⟩ := Prod.mk.inj (hr6.out.trans HL5.out)
  obtain ⟨f3, f4⟩ := Prod.mk.inj f2
  (try simp only at f1 f3)
  obtain rfl : n6 = n5 := f1
  obtain rfl : b6 = a := f3
  obtain rfl : e6 = 0 := f4
  clear hr6 f2
  have H9 : SlB w6 w5.heap.size m5 r5 := (SlB.box (w := w5.alloc (.cells #[.slice m5.A r5.a.s.length m5.ca, .slice m5.B r5.a.t.length m5.cb, .int .i64 r5.a.cap, .bool r5.a.down, .slice m5.C r5.b.s.length m5.cc, .slice m5.D r5.b.t.length m5.cd, .int .i64 r5.b.cap, .bool r5.b.down, .int .i64 r5.n] 27)) (new_plain rfl)).ab hb6
  have b56 : Ab w5 w6 := hal5.trans hb6
  have H7 := H7.ab b56
  have S9 := H9
  obtain ⟨yq0, yq1, yq2, yq3, yq4, yq5, yq6, yq7, yq8, yg0, yg1, yg2, yg3, yg4, yg5, yg6, yg7, yg8⟩ := S9
  (try simp only [AM.nil, Slots.zero, Disk.zero, List.length_nil] at yq0 yq1 yq2 yq3 yq4 yq5 yq6 yq7 yq8)
  go_wp2_with fail
  refine (ssave_any m5 r5 _ (hM5'.ab b56) Y b cy (hy.ab (b06.trans b56)) hcy).mono ?_
  rintro e w7 ⟨r7, n7, e7, m7, hr7, rfl, hM7, hb7⟩
  clear yq0 yq1 yq2 yq3 yq4 yq5 yq6 yq7 yq8 yg0 yg1 yg2 yg3 yg4 yg5 yg6 yg7 yg8
  have b07 : Ab w w7 := (b06.trans b56).trans hb7
  have H9 := H9.ab hb7
  have H7 := H7.ab hb7
  have S9 := H9
  have S7 := H7
  obtain ⟨yq0, yq1, yq2, yq3, yq4, yq5, yq6, yq7, yq8, yg0, yg1, yg2, yg3, yg4, yg5, yg6, yg7, yg8⟩ := S9
  (try simp only [AM.nil, Slots.zero, Disk.zero, List.length_nil] at yq0 yq1 yq2 yq3 yq4 yq5 yq6 yq7 yq8)
  obtain ⟨xq0, xq1, xq2, xq3, xq4, xq5, xq6, xq7, xq8, xg0, xg1, xg2, xg3, xg4, xg5, xg6, xg7, xg8⟩ := S7
  (try simp only [AM.nil, Slots.zero, Disk.zero, List.length_nil] at xq0 xq1 xq2 xq3 xq4 xq5 xq6 xq7 xq8)
  have nya := fun (o : Obj) (j : Nat) => World.cell?_alloc_lt w7 o ⟨w5.heap.size, j, none⟩ H9.lt
  have nyb := fun (o : Obj) (j : Nat) => ((Ab.refl w7).alloc o).frozen (p := ⟨w5.heap.size, j, none⟩) H9.lt
  have nxa := fun (o : Obj) (j : Nat) => World.cell?_alloc_lt w7 o ⟨w2.heap.size, j, none⟩ H7.lt
  have nxb := fun (o : Obj) (j : Nat) => ((Ab.refl w7).alloc o).frozen (p := ⟨w2.heap.size, j, none⟩) H7.lt
  have rX : RB w7 0 X b6 := hx.ab b07
  have rA6 : RB w7 0 A6 b6 := hA6.zero.ab hb7
  have hal7 : Ab w7 (w7.alloc (.cells #[.slice m7.A r7.a.s.length m7.ca, .slice m7.B r7.a.t.length m7.cb, .int .i64 r7.a.cap, .bool r7.a.down, .slice m7.C r7.b.s.length m7.cc, .slice m7.D r7.b.t.length m7.cd, .int .i64 r7.b.cap, .bool r7.b.down, .int .i64 r7.n] 27)) := (Ab.refl w7).alloc _
  go_wp2_with fail
  refine (sameBytes_refl A6 X c6 cx b6 _ (rA6.ab hal7) (rX.ab hal7) (by omega)).mono ?_
  rintro e wa ⟨rfl, na, rfl⟩
  have H15 : SlB ((w7.alloc (.cells #[.slice m7.A r7.a.s.length m7.ca, .slice m7.B r7.a.t.length m7.cb, .int .i64 r7.a.cap, .bool r7.a.down, .slice m7.C r7.b.s.length m7.cc, .slice m7.D r7.b.t.length m7.cd, .int .i64 r7.b.cap, .bool r7.b.down, .int .i64 r7.n] 27)).drewN na) w7.heap.size m7 r7 := (SlB.box (w := w7.alloc (.cells #[.slice m7.A r7.a.s.length m7.ca, .slice m7.B r7.a.t.length m7.cb, .int .i64 r7.a.cap, .bool r7.a.down, .slice m7.C r7.b.s.length m7.cc, .slice m7.D r7.b.t.length m7.cd, .int .i64 r7.b.cap, .bool r7.b.down, .int .i64 r7.n] 27)) (new_plain rfl)).ab ((Ab.refl _).drewN _)
  have hbb : Ab w7 ((w7.alloc (.cells #[.slice m7.A r7.a.s.length m7.ca, .slice m7.B r7.a.t.length m7.cb, .int .i64 r7.a.cap, .bool r7.a.down, .slice m7.C r7.b.s.length m7.cc, .slice m7.D r7.b.t.length m7.cd, .int .i64 r7.b.cap, .bool r7.b.down, .int .i64 r7.n] 27)).drewN na) := hal7.trans ((Ab.refl _).drewN _)
  have hsz : ((w7.alloc (.cells #[.slice m7.A r7.a.s.length m7.ca, .slice m7.B r7.a.t.length m7.cb, .int .i64 r7.a.cap, .bool r7.a.down, .slice m7.C r7.b.s.length m7.cc, .slice m7.D r7.b.t.length m7.cd, .int .i64 r7.b.cap, .bool r7.b.down, .int .i64 r7.n] 27)).drewN na).heap.size = w7.heap.size + 1 := by simp
  generalize (w7.alloc (.cells #[.slice m7.A r7.a.s.length m7.ca, .slice m7.B r7.a.t.length m7.cb, .int .i64 r7.a.cap, .bool r7.a.down, .slice m7.C r7.b.s.length m7.cc, .slice m7.D r7.b.t.length m7.cd, .int .i64 r7.b.cap, .bool r7.b.down, .int .i64 r7.n] 27)).drewN na = wb at *
  clear yq0 yq1 yq2 yq3 yq4 yq5 yq6 yq7 yq8 yg0 yg1 yg2 yg3 yg4 yg5 yg6 yg7 yg8
  clear xq0 xq1 xq2 xq3 xq4 xq5 xq6 xq7 xq8 xg0 xg1 xg2 xg3 xg4 xg5 xg6 xg7 xg8
  clear nya nyb nxa nxb
  rcases Slots.saves HP5.out hbl hr7.out with he | ⟨he, hnum, hx9, hP7, hn7, hN7, hform⟩
  · clear hr7
    rcases he with rfl | rfl
    · go_wp2_with fail
      refine (salive_true _).mono ?_
      rintro e wz ⟨rfl, hbz⟩
      go_wp2
      go_ret
      exact ⟨rfl, (by repeat (first | with_reducible exact Ab.refl _ | with_reducible assumption | with_reducible refine Ab.drew ?_ | with_reducible refine Ab.drewN ?_ _ | with_reducible refine Ab.alloc ?_ _ | with_reducible refine Ab.trans ?_ (by assumption) | with_reducible refine Ab.set ?_ (by first | (simp; done) | omega | (simp; omega)) _))⟩
    · go_wp2_with fail
      refine (salive_true _).mono ?_
      rintro e wz ⟨rfl, hbz⟩
      go_wp2
      go_ret
      exact ⟨rfl, (by repeat (first | with_reducible exact Ab.refl _ | with_reducible assumption | with_reducible refine Ab.drew ?_ | with_reducible refine Ab.drewN ?_ _ | with_reducible refine Ab.alloc ?_ _ | with_reducible refine Ab.trans ?_ (by assumption) | with_reducible refine Ab.set ?_ (by first | (simp; done) | omega | (simp; omega)) _))⟩
  clear hr7
  obtain rfl : e7 = 0 := he
  obtain rfl : n7 = r5.n := hnum
  have HP7 := Lib.hid hP7
  have HL7 := Lib.hid (Slots.op_load hP7 hN7)
  have hk := Slots.kept HP5.out HN5.out hx9 hform
  have S15 := H15
  obtain ⟨yq0, yq1, yq2, yq3, yq4, yq5, yq6, yq7, yq8, yg0, yg1, yg2, yg3, yg4, yg5, yg6, yg7, yg8⟩ := S15
  (try simp only [AM.nil, Slots.zero, Disk.zero, List.length_nil] at yq0 yq1 yq2 yq3 yq4 yq5 yq6 yq7 yq8)
  clear hP7 hn7 hN7 hform
  go_wp2_with fail
  refine (load_any m7 r7 _ (hM7.ab hbb)).mono ?_
  rintro e w8 ⟨n8, e8, b8, A8, c8, hr8, rfl, hA8, hc8, hl8, hb8⟩
  obtain ⟨f1, f2⟩ := Prod.mk.inj (hr8.out.trans HL7.out)
  obtain ⟨f3, f4⟩ := Prod.mk.inj f2
  (try simp only at f1 f3)
  obtain rfl : n8 = r5.n := f1
  obtain rfl : b8 = b := f3
  obtain rfl : e8 = 0 := f4
  clear hr8 f2
  clear yq0 yq1 yq2 yq3 yq4 yq5 yq6 yq7 yq8 yg0 yg1 yg2 yg3 yg4 yg5 yg6 yg7 yg8
  have S15 := H15.ab hb8
  obtain ⟨yq0, yq1, yq2, yq3, yq4, yq5, yq6, yq7, yq8, yg0, yg1, yg2, yg3, yg4, yg5, yg6, yg7, yg8⟩ := S15
  (try simp only [AM.nil, Slots.zero, Disk.zero, List.length_nil] at yq0 yq1 yq2 yq3 yq4 yq5 yq6 yq7 yq8)
  have b78 : Ab w7 w8 := hbb.trans hb8
  have hA8' : RB w8 (w7.heap.size + 1) A8 b8 := hA8.mono (by omega)
  have HX0 := Lib.hid hx0
  rcases Int.emod_two_eq r5.n with hp0 | hp0
  · have hkp := Lib.hid (hk.1 hp0)
    have ht0 : r5.n.tmod 2 = 0 := by rw [Int.tmod_eq_emod_of_nonneg hx0]; exact hp0
    clear hk hp0
    go_wp2_with fail
    refine (load_any (⟨none, none, m7.C, m7.D, 0, 0, m7.cc, m7.cd⟩ : AM) (⟨⟨[], [], 1, false⟩, r7.b, r7.n⟩ : Sl) _ ⟨RB.nil, RB.nil, hM7.c.ab (by repeat (first | with_reducible exact Ab.refl _ | with_reducible assumption | with_reducible refine Ab.drew ?_ | with_reducible refine Ab.drewN ?_ _ | with_reducible refine Ab.alloc ?_ _ | with_reducible refine Ab.trans ?_ (by assumption) | with_reducible refine Ab.set ?_ (by first | (simp; done) | omega | (simp; omega)) _)), hM7.d.ab (by repeat (first | with_reducible exact Ab.refl _ | with_reducible assumption | with_reducible refine Ab.drew ?_ | with_reducible refine Ab.drewN ?_ _ | with_reducible refine Ab.alloc ?_ _ | with_reducible refine Ab.trans ?_ (by assumption) | with_reducible refine Ab.set ?_ (by first | (simp; done) | omega | (simp; omega)) _)), Nat.le_refl _, Nat.le_refl _, hM7.lc, hM7.ld, Nat.zero_le _, Nat.zero_le _, hM7.sc, hM7.sd⟩).mono ?_
    rintro e w9 ⟨n9, e9, b9, A9, c9, hr9, rfl, hA9, hc9, hl9, hb9⟩
    obtain ⟨f1, f2⟩ := Prod.mk.inj (hr9.out.trans hkp.out)
    obtain ⟨f3, f4⟩ := Prod.mk.inj f2
    (try simp only at f1 f3)
    obtain rfl : n9 = n6 := f1
    obtain rfl : b9 = b6 := f3
    obtain rfl : e9 = 0 := f4
    clear hr9 f2
    have b89 : Ab w8 w9 ∨ True := .inr trivial
    have bw9 : Ab w7 w9 := by
      refine Ab.trans ?_ hb9
      exact ((((b78.set (Nat.le_refl _) _).set (Nat.le_refl _) _).set (Nat.le_refl _) _).set (Nat.le_refl _) _)
    have rY : RB w9 0 Y b8 := (hy.ab b07).ab bw9
    have rX9 : RB w9 0 X b9 := (hx.ab b07).ab bw9
    have rA8 : RB w9 0 A8 b8 := by
      refine RB.zero (lo := w7.heap.size + 1) (RB.ab ?_ hb9)
      exact (((hA8'.put (by simp) _).put (by simp) _).put (by simp) _).put (by simp) _
    have rA9 : RB w9 0 A9 b9 := hA9.zero
    have bend : Ab w w9 := b07.trans bw9
    clear hb9 bw9 b78 hA8' hA9
    go_wp2_with fail
    refine (sameBytes_refl A8 Y c8 cy b8 _ rA8 rY (by omega)).mono ?_
    rintro e wx ⟨rfl, nx1, rfl⟩
    have bx : Ab w9 (w9.drewN nx1) := (Ab.refl _).drewN _
    go_wp2_with fail
    refine (sameBytes_refl A9 X c9 cx b9 _ (rA9.ab bx) (rX9.ab bx) (by omega)).mono ?_
    rintro e wy ⟨rfl, ny1, rfl⟩
    go_wp2_with fail
    refine (salive_true _).mono ?_
    rintro e wz ⟨rfl, hbz⟩
    go_wp2
    go_ret
    exact ⟨rfl, (by repeat (first | with_reducible exact Ab.refl _ | with_reducible assumption | with_reducible refine Ab.drew ?_ | with_reducible refine Ab.drewN ?_ _ | with_reducible refine Ab.alloc ?_ _ | with_reducible refine Ab.trans ?_ (by assumption) | with_reducible refine Ab.set ?_ (by first | (simp; done) | omega | (simp; omega)) _))⟩
  · have hkp := Lib.hid (hk.2 hp0)
    have ht0 : r5.n.tmod 2 = 1 := by rw [Int.tmod_eq_emod_of_nonneg hx0]; exact hp0
    clear hk hp0
    go_wp2_with fail
    refine (load_any (⟨m7.A, m7.B, none, none, m7.ca, m7.cb, 0, 0⟩ : AM) (⟨r7.a, ⟨[], [], 1, false⟩, r7.n⟩ : Sl) _ ⟨hM7.a.ab (by repeat (first | with_reducible exact Ab.refl _ | with_reducible assumption | with_reducible refine Ab.drew ?_ | with_reducible refine Ab.drewN ?_ _ | with_reducible refine Ab.alloc ?_ _ | with_reducible refine Ab.trans ?_ (by assumption) | with_reducible refine Ab.set ?_ (by first | (simp; done) | omega | (simp; omega)) _)), hM7.b.ab (by repeat (first | with_reducible exact Ab.refl _ | with_reducible assumption | with_reducible refine Ab.drew ?_ | with_reducible refine Ab.drewN ?_ _ | with_reducible refine Ab.alloc ?_ _ | with_reducible refine Ab.trans ?_ (by assumption) | with_reducible refine Ab.set ?_ (by first | (simp; done) | omega | (simp; omega)) _)), RB.nil, RB.nil, hM7.la, hM7.lb, Nat.le_refl _, Nat.le_refl _, hM7.sa, hM7.sb, Nat.zero_le _, Nat.zero_le _⟩).mono ?_
    rintro e w9 ⟨n9, e9, b9, A9, c9, hr9, rfl, hA9, hc9, hl9, hb9⟩
    obtain ⟨f1, f2⟩ := Prod.mk.inj (hr9.out.trans hkp.out)
    obtain ⟨f3, f4⟩ := Prod.mk.inj f2
    (try simp only at f1 f3)
    obtain rfl : n9 = n6 := f1
    obtain rfl : b9 = b6 := f3
    obtain rfl : e9 = 0 := f4
    clear hr9 f2
    have b89 : Ab w8 w9 ∨ True := .inr trivial
    have bw9 : Ab w7 w9 := by
      refine Ab.trans ?_ hb9
      exact ((((b78.set (Nat.le_refl _) _).set (Nat.le_refl _) _).set (Nat.le_refl _) _).set (Nat.le_refl _) _)
    have rY : RB w9 0 Y b8 := (hy.ab b07).ab bw9
    have rX9 : RB w9 0 X b9 := (hx.ab b07).ab bw9
    have rA8 : RB w9 0 A8 b8 := by
      refine RB.zero (lo := w7.heap.size + 1) (RB.ab ?_ hb9)
      exact (((hA8'.put (by simp) _).put (by simp) _).put (by simp) _).put (by simp) _
    have rA9 : RB w9 0 A9 b9 := hA9.zero
    have bend : Ab w w9 := b07.trans bw9
    clear hb9 bw9 b78 hA8' hA9
    go_wp2_with fail
    refine (sameBytes_refl A8 Y c8 cy b8 _ rA8 rY (by omega)).mono ?_
    rintro e wx ⟨rfl, nx1, rfl⟩
    have bx : Ab w9 (w9.drewN nx1) := (Ab.refl _).drewN _
    go_wp2_with fail
    refine (sameBytes_refl A9 X c9 cx b9 _ (rA9.ab bx) (rX9.ab bx) (by omega)).mono ?_
    rintro e wy ⟨rfl, ny1, rfl⟩
    go_wp2_with fail
    refine (salive_true _).mono ?_
    rintro e wz ⟨rfl, hbz⟩
    go_wp2
    go_ret
    exact ⟨rfl, (by repeat (first | with_reducible exact Ab.refl _ | with_reducible assumption | with_reducible refine Ab.drew ?_ | with_reducible refine Ab.drewN ?_ _ | with_reducible refine Ab.alloc ?_ _ | with_reducible refine Ab.trans ?_ (by assumption) | with_reducible refine Ab.set ?_ (by first | (simp; done) | omega | (simp; omega)) _))⟩
end Go.Proofs.Ytakgglpfgpkboaa
