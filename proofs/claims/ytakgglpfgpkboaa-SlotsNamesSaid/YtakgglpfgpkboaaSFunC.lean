/- checkpoint and newest of package slots, walked. Own work. -/
import Derived.Test.YtakgglpfgpkboaaSFunA
set_option linter.unusedVariables false
set_option linter.unusedSimpArgs false
namespace Go.Proofs.Ytakgglpfgpkboaa
open Go.RowKit
open Slots (Sl)

theorem ck_scan {d : Disk.Dev} {i u : Int} {xs : List RecM} {er : Int} (h : ScanE d.all (recs xs) u er) (hl : d.all.length ≤ 20000) :
    er = 0 ∧ Slots.first d.all = (recs xs).head? := by
  rcases h with ⟨h, _⟩ | ⟨_, h0, n, _, hs⟩
  · omega
  · exact ⟨h0, Slots.first_scan hs⟩

theorem RetRecO.no {w w' : World} (hb : Ab w w') : RetRecO w none (.returned (.tuple #[.agg #[.int .i64 0, .slice none 0 0], .bool false])) w' :=
  ⟨⟨0, []⟩, false, none, 0, rfl, rfl, RB.nil, Nat.le_refl _, by simp, hb⟩

set_option maxRecDepth 100000 in
theorem checkpoint_any (A B : Option Addr) (ca cb : Nat) (s t : List UInt8) (cap : Int) (w : World) (hs : RB w 0 A s) (ht : RB w 0 B t) (hca : s.length ≤ ca) (hcb : t.length ≤ cb) (hnb : ¬ Disk.bad ⟨s, t, cap, false⟩) (i : Int) :
    Calls Try.prog 56 #[.agg #[.slice A s.length ca, .slice B t.length cb, .int .i64 cap, .bool false], .int .i64 i] w (RetRecO w (Slots.ck ⟨s, t, cap, false⟩ i)) := by
  have hsz := Disk.size_le hnb
  simp only [Disk.Dev.size] at hsz
  have ls : s.length ≤ 1000000 := by omega
  have lt : t.length ≤ 1000000 := by omega
  have HS := Lib.hid (show Disk.size ⟨s, t, cap, false⟩ = ((s.length : Int) + t.length, 0) by unfold Disk.size; rw [if_neg hnb]; simp [Disk.Dev.size])
  have HR := Lib.hid (show Disk.read ⟨s, t, cap, false⟩ 0 ((s.length : Int) + t.length) = (s ++ t, 0) by
    unfold Disk.read
    rw [if_neg (by rw [Disk.up_ok hnb rfl]; simp), if_neg (by simp only [Disk.Dev.size]; omega)]
    simp only [Disk.Dev.all, Int.toNat_zero, List.drop_zero]
    rw [List.take_of_length_le (by simp; omega)])
  have HL := Lib.hid (show s.length + t.length ≤ 20000 by omega)
  clear hsz hnb
  go_enter Try.func56, Try.ntmps56
  go_wp2_with fail
  refine (size_any A B ca cb s t cap false _ ls lt).mono ?_
  rintro e w1 ⟨z, er, hr, rfl, hb1⟩
  obtain ⟨rfl, rfl⟩ := Prod.mk.inj (hr.out.trans HS.out)
  clear hr
  have bq0 := hb1.at (p := ⟨w.heap.size, 0, none⟩) (v := .slice A s.length ca) (by (repeat (first | with_reducible assumption | (simp [go_sem]; done) | with_reducible apply cell_alloc | with_reducible apply cell_drew | with_reducible apply cell_drewN | (with_reducible apply Ab.at; with_reducible assumption) | (with_reducible refine cell_set ?_ ?_; rotate_left; focus (first | (simp; done) | (simp; omega))) | (with_reducible refine cell_setb ?_ ?_; rotate_left; focus (first | omega | (simp only; omega) | (simp; omega)))))); have bq1 := hb1.at (p := ⟨w.heap.size, 1, none⟩) (v := .slice B t.length cb) (by (repeat (first | with_reducible assumption | (simp [go_sem]; done) | with_reducible apply cell_alloc | with_reducible apply cell_drew | with_reducible apply cell_drewN | (with_reducible apply Ab.at; with_reducible assumption) | (with_reducible refine cell_set ?_ ?_; rotate_left; focus (first | (simp; done) | (simp; omega))) | (with_reducible refine cell_setb ?_ ?_; rotate_left; focus (first | omega | (simp only; omega) | (simp; omega)))))); have bq2 := hb1.at (p := ⟨w.heap.size, 2, none⟩) (v := .int .i64 cap) (by (repeat (first | with_reducible assumption | (simp [go_sem]; done) | with_reducible apply cell_alloc | with_reducible apply cell_drew | with_reducible apply cell_drewN | (with_reducible apply Ab.at; with_reducible assumption) | (with_reducible refine cell_set ?_ ?_; rotate_left; focus (first | (simp; done) | (simp; omega))) | (with_reducible refine cell_setb ?_ ?_; rotate_left; focus (first | omega | (simp only; omega) | (simp; omega)))))); have bq3 := hb1.at (p := ⟨w.heap.size, 3, none⟩) (v := .bool false) (by (repeat (first | with_reducible assumption | (simp [go_sem]; done) | with_reducible apply cell_alloc | with_reducible apply cell_drew | with_reducible apply cell_drewN | (with_reducible apply Ab.at; with_reducible assumption) | (with_reducible refine cell_set ?_ ?_; rotate_left; focus (first | (simp; done) | (simp; omega))) | (with_reducible refine cell_setb ?_ ?_; rotate_left; focus (first | omega | (simp only; omega) | (simp; omega))))))
  go_wp2_with fail
  refine (read_any A B ca cb s t cap false _ (hs.ab (by repeat (first | with_reducible exact Ab.refl _ | with_reducible assumption | with_reducible refine Ab.drew ?_ | with_reducible refine Ab.drewN ?_ _ | with_reducible refine Ab.alloc ?_ _ | with_reducible refine Ab.trans ?_ (by assumption) | with_reducible refine Ab.set ?_ (by first | (simp; done) | omega | (simp; omega)) _))) (ht.ab (by repeat (first | with_reducible exact Ab.refl _ | with_reducible assumption | with_reducible refine Ab.drew ?_ | with_reducible refine Ab.drewN ?_ _ | with_reducible refine Ab.alloc ?_ _ | with_reducible refine Ab.trans ?_ (by assumption) | with_reducible refine Ab.set ?_ (by first | (simp; done) | omega | (simp; omega)) _))) hca hcb ls lt 0 _ (by decide) (by decide)).mono ?_
  rintro e w2 ⟨L, er, E, c, hr, rfl, hE, hc, hb2⟩
  have HL2 := Lib.hid (Prod.mk.inj (hr.out.trans HR.out)).1
  have her := (Prod.mk.inj (hr.out.trans HR.out)).2
  clear hr
  obtain rfl := her
  have hLl : L.length ≤ 20000 := by rw [HL2.out, List.length_append]; exact HL.out
  go_wp2_with fail
  refine (scan_any E L c _ (hE.zero.ab (by repeat (first | with_reducible exact Ab.refl _ | with_reducible assumption | with_reducible refine Ab.drew ?_ | with_reducible refine Ab.drewN ?_ _ | with_reducible refine Ab.alloc ?_ _ | with_reducible refine Ab.trans ?_ (by assumption) | with_reducible refine Ab.set ?_ (by first | (simp; done) | omega | (simp; omega)) _))) hc (by omega)).mono ?_
  rintro e w3 ⟨X, d, xs, u, er, hS, rfl, oX, hb3⟩
  obtain ⟨rfl, hF⟩ := ck_scan (d := ⟨L, [], 0, false⟩) (i := 0) (by simpa [Disk.Dev.all] using hS.out) (by simpa [Disk.Dev.all] using hLl)
  simp only [Disk.Dev.all, List.append_nil] at hF
  rw [HL2.out] at hF
  have HF := Lib.hid hF
  clear hF hS
  have hzz : Ab ((w.alloc (.cells #[.slice A s.length ca, .slice B t.length cb, .int .i64 cap, .bool false] 24)).alloc (.cells #[.int .i64 0, .slice none 0 0] 68)) w3 := (by repeat (first | with_reducible exact Ab.refl _ | with_reducible assumption | with_reducible refine Ab.drew ?_ | with_reducible refine Ab.drewN ?_ _ | with_reducible refine Ab.alloc ?_ _ | with_reducible refine Ab.trans ?_ (by assumption) | with_reducible refine Ab.set ?_ (by first | (simp; done) | omega | (simp; omega)) _))
  have zq0 := hzz.at (p := ⟨w.heap.size + 1, 0, none⟩) (v := .int .i64 0) (by simp [go_sem])
  have zq1 := hzz.at (p := ⟨w.heap.size + 1, 1, none⟩) (v := .slice none 0 0) (by simp [go_sem])
  have zr0 : w3.frozen? ⟨w.heap.size + 1, 0, none⟩ = false := (hzz.frozen (p := ⟨w.heap.size + 1, 0, none⟩) (by first | (simp; done) | omega | (simp; omega))).trans (by simp [go_sem])
  have zr1 : w3.frozen? ⟨w.heap.size + 1, 1, none⟩ = false := (hzz.frozen (p := ⟨w.heap.size + 1, 1, none⟩) (by first | (simp; done) | omega | (simp; omega))).trans (by simp [go_sem])
  have b3 : Ab w w3 := (by repeat (first | with_reducible exact Ab.refl _ | with_reducible assumption | with_reducible refine Ab.drew ?_ | with_reducible refine Ab.drewN ?_ _ | with_reducible refine Ab.alloc ?_ _ | with_reducible refine Ab.trans ?_ (by assumption) | with_reducible refine Ab.set ?_ (by first | (simp; done) | omega | (simp; omega)) _))
  rcases xs with _ | ⟨x, xs⟩
  · have HM := Lib.hid (show Slots.ck ⟨s, t, cap, false⟩ i = none by unfold Slots.ck; simp only [Disk.Dev.all]; rw [HF.out]; rfl)
    go_wp2
    refine bodyPost_ret (v := .tuple #[.agg #[.int .i64 0, .slice none 0 0], .bool false]) (by simp [results, Try.results56, go_sem, zq0, zq1]) rfl ?_
    rw [HM.out]
    exact RetRecO.no (by repeat (first | with_reducible exact Ab.refl _ | with_reducible assumption | with_reducible refine Ab.drew ?_ | with_reducible refine Ab.drewN ?_ _ | with_reducible refine Ab.alloc ?_ _ | with_reducible refine Ab.trans ?_ (by assumption) | with_reducible refine Ab.set ?_ (by first | (simp; done) | omega | (simp; omega)) _))
  · have HF2 := Lib.hid (show Slots.first (s ++ t) = some ⟨x.num, x.b⟩ from HF.out)
    have hv := Slots.first_valid HF2.out
    have hn0 : 0 ≤ x.num := hv.1
    have HV := Lib.hid hv
    obtain ⟨a, rfl, ha, c0, c1, hlaid⟩ := oX.recs.at_ (k := 0) (by simp)
    simp only [List.getElem_cons_zero] at c0 c1 hlaid
    have d0 : w3.cell? a = some (.int .i64 x.num) := c0
    have d1 : w3.cell? ⟨a.block, a.off + 1, none⟩ = some (.slice x.A x.b.length x.c) := c1
    have hE3 : RB w3 (w.heap.size + 1 + 1) x.A x.b := hlaid.1.mono (by have := (show Ab ((w.alloc (.cells #[.slice A s.length ca, .slice B t.length cb, .int .i64 cap, .bool false] 24)).alloc (.cells #[.int .i64 0, .slice none 0 0] 68)) w2 from (by repeat (first | with_reducible exact Ab.refl _ | with_reducible assumption | with_reducible refine Ab.drew ?_ | with_reducible refine Ab.drewN ?_ _ | with_reducible refine Ab.alloc ?_ _ | with_reducible refine Ab.trans ?_ (by assumption) | with_reducible refine Ab.set ?_ (by first | (simp; done) | omega | (simp; omega)) _))).size; simpa using this)
    have hlx := hlaid.2.1
    clear c0 c1 hlaid hv HF
    generalize hv : x.num % 2 = v
    have HD := Lib.hid hv
    have hpos : (0 : Int) < ((x :: xs).length : Int) := by simp
    have hl0 : ((xs.length : Int) + 1 == 0) = false := by simp; omega
    by_cases hi : v = i
    · have HM := Lib.hid (show Slots.ck ⟨s, t, cap, false⟩ i = some ⟨x.num, x.b⟩ by unfold Slots.ck; simp only [Disk.Dev.all]; rw [HF2.out]; simp only; rw [if_pos (by rw [HD.out]; exact hi)])
      clear hv
      go_wp2_with fail
      refine (slotOf_any x.num v hn0 HD.out _).mono ?_
      rintro e w4 ⟨rfl, rfl⟩
      go_wp2
      refine bodyPost_ret (v := .tuple #[.agg #[.int .i64 x.num, .slice x.A x.b.length x.c], .bool true]) (by simp [results, Try.results56, go_sem, zq0, zq1]) rfl ?_
      rw [HM.out]
      exact ⟨⟨x.num, x.b⟩, true, x.A, x.c, rfl, rfl, ((hE3.put (by first | (simp; done) | omega | (simp; omega)) _).put (by first | (simp; done) | omega | (simp; omega)) _).mono (by omega), hlx, fun _ => HV.out, (by repeat (first | with_reducible exact Ab.refl _ | with_reducible assumption | with_reducible refine Ab.drew ?_ | with_reducible refine Ab.drewN ?_ _ | with_reducible refine Ab.alloc ?_ _ | with_reducible refine Ab.trans ?_ (by assumption) | with_reducible refine Ab.set ?_ (by first | (simp; done) | omega | (simp; omega)) _))⟩
    · have hvi : (v != i) = true := by simpa using hi
      have HM := Lib.hid (show Slots.ck ⟨s, t, cap, false⟩ i = none by unfold Slots.ck; simp only [Disk.Dev.all]; rw [HF2.out]; simp only; rw [if_neg (by rw [HD.out]; exact hi)])
      clear hv
      go_wp2_with fail
      refine (slotOf_any x.num v hn0 HD.out _).mono ?_
      rintro e w4 ⟨rfl, rfl⟩
      go_wp2
      refine bodyPost_ret (v := .tuple #[.agg #[.int .i64 0, .slice none 0 0], .bool false]) (by simp [results, Try.results56, go_sem, zq0, zq1]) rfl ?_
      rw [HM.out]
      exact RetRecO.no (by repeat (first | with_reducible exact Ab.refl _ | with_reducible assumption | with_reducible refine Ab.drew ?_ | with_reducible refine Ab.drewN ?_ _ | with_reducible refine Ab.alloc ?_ _ | with_reducible refine Ab.trans ?_ (by assumption) | with_reducible refine Ab.set ?_ (by first | (simp; done) | omega | (simp; omega)) _))

/-- The checkpoint found so far (block k), and the result's record behind box k - 2. -/
def Fnd (w wr : World) (o : Option Frame.Rec) (so : Value) : Prop :=
  ∃ (ok : Bool) (num : Int) (A : Option Addr) (c : Nat) (b : List UInt8), so = .bool ok ∧ Hid (o = if ok then some ⟨num, b⟩ else none) ∧
    (wr.cell? ⟨w.heap.size + 1, 0, none⟩ = some (.int .i64 0) ∧ wr.cell? ⟨w.heap.size + 1, 1, none⟩ = some (.slice none 0 0) ∧
      wr.frozen? ⟨w.heap.size + 1, 0, none⟩ = false ∧ wr.frozen? ⟨w.heap.size + 1, 1, none⟩ = false) ∧
    (wr.cell? ⟨w.heap.size + 1 + 1, 0, none⟩ = some (.int .i64 num) ∧ wr.cell? ⟨w.heap.size + 1 + 1, 1, none⟩ = some (.slice A b.length c) ∧
      wr.frozen? ⟨w.heap.size + 1 + 1, 0, none⟩ = false ∧ wr.frozen? ⟨w.heap.size + 1 + 1, 1, none⟩ = false) ∧
    RB wr (w.heap.size + 1 + 1 + 1) A b ∧ b.length ≤ c ∧ (ok = true → Frame.Valid ⟨num, b⟩) ∧ Ab w wr ∧ w.heap.size + 1 + 1 + 1 ≤ wr.heap.size

set_option maxRecDepth 100000 in
theorem newest_any (m : AM) (r : Sl) (w : World) (h : SlM w 0 m r) (ha : Slots.Ok r.a) (hb : Slots.Ok r.b) :
    Calls Try.prog 37 #[.agg #[.slice m.A r.a.s.length m.ca, .slice m.B r.a.t.length m.cb, .int .i64 r.a.cap, .bool r.a.down, .slice m.C r.b.s.length m.cc, .slice m.D r.b.t.length m.cd, .int .i64 r.b.cap, .bool r.b.down, .int .i64 r.n]] w (RetRecO w (Slots.newest r)) := by
  obtain ⟨A, B, C, D, ca, cb, cc, cd⟩ := m
  obtain ⟨⟨s, t, cap, dn⟩, ⟨p, q, cep, dm⟩, n⟩ := r
  dsimp only
  obtain rfl : dn = false := ha.up
  obtain rfl : dm = false := hb.up
  have HA := Lib.hid ha.nb
  have HB := Lib.hid hb.nb
  clear ha hb
  go_enter Try.func37, Try.ntmps37
  go_wp2
  go_loopw [5, 12] (fun so i wr => ∃ o, Fnd w wr o so ∧ (i = .int .i64 0 ∧ Hid (o = none) ∨ i = .int .i64 1 ∧ Hid (o = Slots.ck ⟨s, t, cap, false⟩ 0) ∨ i = .int .i64 2 ∧ Hid (o = Slots.newest ⟨⟨s, t, cap, false⟩, ⟨p, q, cep, false⟩, n⟩))) (fun _ i _ => 2 - (intOf i).toNat)
  case atStart =>
    refine ⟨none, ⟨false, 0, none, 0, [], rfl, rfl, ⟨?_, ?_, ?_, ?_⟩, ⟨?_, ?_, ?_, ?_⟩, RB.nil, Nat.le_refl _, by simp, (by repeat (first | with_reducible exact Ab.refl _ | with_reducible assumption | with_reducible refine Ab.drew ?_ | with_reducible refine Ab.drewN ?_ _ | with_reducible refine Ab.alloc ?_ _ | with_reducible refine Ab.trans ?_ (by assumption) | with_reducible refine Ab.set ?_ (by first | (simp; done) | omega | (simp; omega)) _)), ?_⟩, .inl ⟨rfl, rfl⟩⟩ <;> simp [go_sem]
  case round =>
    obtain ⟨o, ⟨ok, num, X, cx, x, rfl, hO, ⟨z0, z1, z2, z3⟩, ⟨f0, f1, f2, f3⟩, hX, hcx, hval, hab, hsz⟩, hi⟩ := hrel
    rcases hi with ⟨rfl, ho⟩ | ⟨rfl, ho⟩ | ⟨rfl, ho⟩
    · obtain rfl : ok = false := by
        have := hO.out.symm.trans ho.out
        cases ok
        · rfl
        · cases this
      go_wp2_with fail
      refine (checkpoint_any A B ca cb s t cap _ (h.a.ab (by repeat (first | with_reducible exact Ab.refl _ | with_reducible assumption | with_reducible refine Ab.drew ?_ | with_reducible refine Ab.drewN ?_ _ | with_reducible refine Ab.alloc ?_ _ | with_reducible refine Ab.trans ?_ (by assumption) | with_reducible refine Ab.set ?_ (by first | (simp; done) | omega | (simp; omega)) _))) (h.b.ab (by repeat (first | with_reducible exact Ab.refl _ | with_reducible assumption | with_reducible refine Ab.drew ?_ | with_reducible refine Ab.drewN ?_ _ | with_reducible refine Ab.alloc ?_ _ | with_reducible refine Ab.trans ?_ (by assumption) | with_reducible refine Ab.set ?_ (by first | (simp; done) | omega | (simp; omega)) _))) h.la h.lb HA.out 0).mono ?_
      rintro e w1 ⟨r1, ok1, X1, c1, h1, rfl, hX1, hc1, hv1, hb1⟩
      have bW : Ab wr w1 := (by repeat (first | with_reducible exact Ab.refl _ | with_reducible assumption | with_reducible refine Ab.drew ?_ | with_reducible refine Ab.drewN ?_ _ | with_reducible refine Ab.alloc ?_ _ | with_reducible refine Ab.trans ?_ (by assumption) | with_reducible refine Ab.set ?_ (by first | (simp; done) | omega | (simp; omega)) _))
      have z0 := bW.at z0
      have z1 := bW.at z1
      have z2 := bW.fr (by simp only; omega) z2
      have z3 := bW.fr (by simp only; omega) z3
      have f0 := bW.at f0
      have f1 := bW.at f1
      have f2 := bW.fr (by simp only; omega) f2
      have f3 := bW.fr (by simp only; omega) f3
      have hX := hX.ab bW
      have hsz1 := Nat.le_trans hsz bW.size
      have hX1 : RB w1 (w.heap.size + 1 + 1 + 1) X1 r1.data := hX1.mono (by simp; omega)
      have hab1 := hab.trans bW
      have hold : w1.cell? ⟨w.heap.size, 8, none⟩ = w1.cell? ⟨w.heap.size, 8, none⟩ := rfl
      have nA := fun (o : Obj) (j : Nat) => World.cell?_alloc_lt w1 o ⟨w.heap.size + 1 + 1, j, none⟩ (by simp only; omega)
      have nB := fun (o : Obj) (j : Nat) => ((Ab.refl w1).alloc o).frozen (p := ⟨w.heap.size + 1 + 1, j, none⟩) (by simp only; omega)
      have nC := fun (o : Obj) (j : Nat) => World.cell?_alloc_lt w1 o ⟨w.heap.size + 1, j, none⟩ (by simp only; omega)
      have nD := fun (o : Obj) (j : Nat) => ((Ab.refl w1).alloc o).frozen (p := ⟨w.heap.size + 1, j, none⟩) (by simp only; omega)
      clear hold hb1
      have hne : w.heap.size + 1 + 1 ≠ w1.heap.size := by omega
      cases ok1 with
      | false =>
        go_wp2
        go_roundw
        case rel => exact ⟨none, ⟨false, num, X, cx, x, rfl, Lib.hid rfl, ⟨(by simp [go_sem, *]), (by simp [go_sem, *]), (by simp [go_sem, *]), (by simp [go_sem, *])⟩, ⟨(by simp [go_sem, *]), (by simp [go_sem, *]), (by simp [go_sem, *]), (by simp [go_sem, *])⟩, hX.ab ((Ab.refl w1).alloc _), hcx, (by simp), (by repeat (first | with_reducible exact Ab.refl _ | with_reducible assumption | with_reducible refine Ab.drew ?_ | with_reducible refine Ab.drewN ?_ _ | with_reducible refine Ab.alloc ?_ _ | with_reducible refine Ab.trans ?_ (by assumption) | with_reducible refine Ab.set ?_ (by first | (simp; done) | omega | (simp; omega)) _)), by simp; omega⟩, .inr (.inl ⟨rfl, Lib.hid h1.out⟩)⟩
        case measure => (show 2 - (intOf _).toNat < 2 - (intOf _).toNat); simp only [intOf]; omega
      | true =>
        go_wp2
        go_roundw
        case rel => exact ⟨some r1, ⟨true, r1.num, X1, c1, r1.data, rfl, Lib.hid rfl, ⟨(by simp [go_sem, *]), (by simp [go_sem, *]), (by simp [go_sem, *]), (by simp [go_sem, *])⟩, ⟨(by simp [go_sem, *]), (by simp [go_sem, *]), (by simp [go_sem, *]), (by simp [go_sem, *])⟩, (((hX1.ab ((Ab.refl w1).alloc _)).put (by first | (simp; done) | omega | (simp; omega)) _).put (by first | (simp; done) | omega | (simp; omega)) _), hc1, (fun _ => by simpa using hv1), (by repeat (first | with_reducible exact Ab.refl _ | with_reducible assumption | with_reducible refine Ab.drew ?_ | with_reducible refine Ab.drewN ?_ _ | with_reducible refine Ab.alloc ?_ _ | with_reducible refine Ab.trans ?_ (by assumption) | with_reducible refine Ab.set ?_ (by first | (simp; done) | omega | (simp; omega)) _)), by simp; omega⟩, .inr (.inl ⟨rfl, Lib.hid h1.out⟩)⟩
        case measure => (show 2 - (intOf _).toNat < 2 - (intOf _).toNat); simp only [intOf]; omega
    · go_wp2_with fail
      refine (checkpoint_any C D cc cd p q cep _ (h.c.ab (by repeat (first | with_reducible exact Ab.refl _ | with_reducible assumption | with_reducible refine Ab.drew ?_ | with_reducible refine Ab.drewN ?_ _ | with_reducible refine Ab.alloc ?_ _ | with_reducible refine Ab.trans ?_ (by assumption) | with_reducible refine Ab.set ?_ (by first | (simp; done) | omega | (simp; omega)) _))) (h.d.ab (by repeat (first | with_reducible exact Ab.refl _ | with_reducible assumption | with_reducible refine Ab.drew ?_ | with_reducible refine Ab.drewN ?_ _ | with_reducible refine Ab.alloc ?_ _ | with_reducible refine Ab.trans ?_ (by assumption) | with_reducible refine Ab.set ?_ (by first | (simp; done) | omega | (simp; omega)) _))) h.lc h.ld HB.out 1).mono ?_
      rintro e w1 ⟨r1, ok1, X1, c1, h1, rfl, hX1, hc1, hv1, hb1⟩
      have bW : Ab wr w1 := (by repeat (first | with_reducible exact Ab.refl _ | with_reducible assumption | with_reducible refine Ab.drew ?_ | with_reducible refine Ab.drewN ?_ _ | with_reducible refine Ab.alloc ?_ _ | with_reducible refine Ab.trans ?_ (by assumption) | with_reducible refine Ab.set ?_ (by first | (simp; done) | omega | (simp; omega)) _))
      have z0 := bW.at z0
      have z1 := bW.at z1
      have z2 := bW.fr (by simp only; omega) z2
      have z3 := bW.fr (by simp only; omega) z3
      have f0 := bW.at f0
      have f1 := bW.at f1
      have f2 := bW.fr (by simp only; omega) f2
      have f3 := bW.fr (by simp only; omega) f3
      have hX := hX.ab bW
      have hsz1 := Nat.le_trans hsz bW.size
      have hX1 : RB w1 (w.heap.size + 1 + 1 + 1) X1 r1.data := hX1.mono (by simp; omega)
      have hab1 := hab.trans bW
      have hold : w1.cell? ⟨w.heap.size, 8, none⟩ = w1.cell? ⟨w.heap.size, 8, none⟩ := rfl
      have nA := fun (o : Obj) (j : Nat) => World.cell?_alloc_lt w1 o ⟨w.heap.size + 1 + 1, j, none⟩ (by simp only; omega)
      have nB := fun (o : Obj) (j : Nat) => ((Ab.refl w1).alloc o).frozen (p := ⟨w.heap.size + 1 + 1, j, none⟩) (by simp only; omega)
      have nC := fun (o : Obj) (j : Nat) => World.cell?_alloc_lt w1 o ⟨w.heap.size + 1, j, none⟩ (by simp only; omega)
      have nD := fun (o : Obj) (j : Nat) => ((Ab.refl w1).alloc o).frozen (p := ⟨w.heap.size + 1, j, none⟩) (by simp only; omega)
      clear hold hb1
      have hne : w.heap.size + 1 + 1 ≠ w1.heap.size := by omega
      cases ok with
      | false =>
        cases ok1 with
        | false =>
          go_wp2
          go_roundw
          case rel => exact ⟨none, ⟨false, num, X, cx, x, rfl, Lib.hid rfl, ⟨(by simp [go_sem, *]), (by simp [go_sem, *]), (by simp [go_sem, *]), (by simp [go_sem, *])⟩, ⟨(by simp [go_sem, *]), (by simp [go_sem, *]), (by simp [go_sem, *]), (by simp [go_sem, *])⟩, hX.ab ((Ab.refl w1).alloc _), hcx, (by simp), (by repeat (first | with_reducible exact Ab.refl _ | with_reducible assumption | with_reducible refine Ab.drew ?_ | with_reducible refine Ab.drewN ?_ _ | with_reducible refine Ab.alloc ?_ _ | with_reducible refine Ab.trans ?_ (by assumption) | with_reducible refine Ab.set ?_ (by first | (simp; done) | omega | (simp; omega)) _)), by simp; omega⟩, .inr (.inr ⟨rfl, Lib.hid (by have e1 := ho.out; have e2 := h1.out; have e3 := hO.out; unfold Slots.newest; rw [← e1, ← e2, e3]; rfl)⟩)⟩
          case measure => (show 2 - (intOf _).toNat < 2 - (intOf _).toNat); simp only [intOf]; omega
        | true =>
          go_wp2
          go_roundw
          case rel => exact ⟨some r1, ⟨true, r1.num, X1, c1, r1.data, rfl, Lib.hid rfl, ⟨(by simp [go_sem, *]), (by simp [go_sem, *]), (by simp [go_sem, *]), (by simp [go_sem, *])⟩, ⟨(by simp [go_sem, *]), (by simp [go_sem, *]), (by simp [go_sem, *]), (by simp [go_sem, *])⟩, (((hX1.ab ((Ab.refl w1).alloc _)).put (by first | (simp; done) | omega | (simp; omega)) _).put (by first | (simp; done) | omega | (simp; omega)) _), hc1, (fun _ => by simpa using hv1), (by repeat (first | with_reducible exact Ab.refl _ | with_reducible assumption | with_reducible refine Ab.drew ?_ | with_reducible refine Ab.drewN ?_ _ | with_reducible refine Ab.alloc ?_ _ | with_reducible refine Ab.trans ?_ (by assumption) | with_reducible refine Ab.set ?_ (by first | (simp; done) | omega | (simp; omega)) _)), by simp; omega⟩, .inr (.inr ⟨rfl, Lib.hid (by have e1 := ho.out; have e2 := h1.out; have e3 := hO.out; unfold Slots.newest; rw [← e1, ← e2, e3]; rfl)⟩)⟩
          case measure => (show 2 - (intOf _).toNat < 2 - (intOf _).toNat); simp only [intOf]; omega
      | true =>
        cases ok1 with
        | false =>
          go_wp2
          go_roundw
          case rel => exact ⟨some ⟨num, x⟩, ⟨true, num, X, cx, x, rfl, Lib.hid rfl, ⟨(by simp [go_sem, *]), (by simp [go_sem, *]), (by simp [go_sem, *]), (by simp [go_sem, *])⟩, ⟨(by simp [go_sem, *]), (by simp [go_sem, *]), (by simp [go_sem, *]), (by simp [go_sem, *])⟩, hX.ab ((Ab.refl w1).alloc _), hcx, (by simpa using hval), (by repeat (first | with_reducible exact Ab.refl _ | with_reducible assumption | with_reducible refine Ab.drew ?_ | with_reducible refine Ab.drewN ?_ _ | with_reducible refine Ab.alloc ?_ _ | with_reducible refine Ab.trans ?_ (by assumption) | with_reducible refine Ab.set ?_ (by first | (simp; done) | omega | (simp; omega)) _)), by simp; omega⟩, .inr (.inr ⟨rfl, Lib.hid (by have e1 := ho.out; have e2 := h1.out; have e3 := hO.out; unfold Slots.newest; rw [← e1, ← e2, e3]; rfl)⟩)⟩
          case measure => (show 2 - (intOf _).toNat < 2 - (intOf _).toNat); simp only [intOf]; omega
        | true =>
          by_cases hlt : num < r1.num
          · have hlt' : decide (num < r1.num) = true := by simpa using hlt
            have HLT := Lib.hid hlt
            clear hlt
            go_wp2
            go_roundw
            case rel => exact ⟨some r1, ⟨true, r1.num, X1, c1, r1.data, rfl, Lib.hid rfl, ⟨(by simp [go_sem, *]), (by simp [go_sem, *]), (by simp [go_sem, *]), (by simp [go_sem, *])⟩, ⟨(by simp [go_sem, *]), (by simp [go_sem, *]), (by simp [go_sem, *]), (by simp [go_sem, *])⟩, (((hX1.ab ((Ab.refl w1).alloc _)).put (by first | (simp; done) | omega | (simp; omega)) _).put (by first | (simp; done) | omega | (simp; omega)) _), hc1, (fun _ => by simpa using hv1), (by repeat (first | with_reducible exact Ab.refl _ | with_reducible assumption | with_reducible refine Ab.drew ?_ | with_reducible refine Ab.drewN ?_ _ | with_reducible refine Ab.alloc ?_ _ | with_reducible refine Ab.trans ?_ (by assumption) | with_reducible refine Ab.set ?_ (by first | (simp; done) | omega | (simp; omega)) _)), by simp; omega⟩, .inr (.inr ⟨rfl, Lib.hid (by have e1 := ho.out; have e2 := h1.out; have e3 := hO.out; unfold Slots.newest; rw [← e1, ← e2, e3]; exact (if_pos HLT.out).symm)⟩)⟩
            case measure => (show 2 - (intOf _).toNat < 2 - (intOf _).toNat); simp only [intOf]; omega
          · have hlt' : decide (num < r1.num) = false := by simpa using hlt
            have HLT := Lib.hid hlt
            clear hlt
            go_wp2
            go_roundw
            case rel => exact ⟨some ⟨num, x⟩, ⟨true, num, X, cx, x, rfl, Lib.hid rfl, ⟨(by simp [go_sem, *]), (by simp [go_sem, *]), (by simp [go_sem, *]), (by simp [go_sem, *])⟩, ⟨(by simp [go_sem, *]), (by simp [go_sem, *]), (by simp [go_sem, *]), (by simp [go_sem, *])⟩, hX.ab ((Ab.refl w1).alloc _), hcx, (by simpa using hval), (by repeat (first | with_reducible exact Ab.refl _ | with_reducible assumption | with_reducible refine Ab.drew ?_ | with_reducible refine Ab.drewN ?_ _ | with_reducible refine Ab.alloc ?_ _ | with_reducible refine Ab.trans ?_ (by assumption) | with_reducible refine Ab.set ?_ (by first | (simp; done) | omega | (simp; omega)) _)), by simp; omega⟩, .inr (.inr ⟨rfl, Lib.hid (by have e1 := ho.out; have e2 := h1.out; have e3 := hO.out; unfold Slots.newest; rw [← e1, ← e2, e3]; exact (if_neg (show ¬ num < r1.num by have := HLT.out; omega)).symm)⟩)⟩
            case measure => (show 2 - (intOf _).toNat < 2 - (intOf _).toNat); simp only [intOf]; omega
    · go_wp2
      refine bodyPost_ret (v := .tuple #[.agg #[.int .i64 num, .slice X x.length cx], .bool ok]) (by simp [results, Try.results37, go_sem, *]) rfl ?_
      exact ⟨⟨num, x⟩, ok, X, cx, Lib.hid (hO.out.symm.trans ho.out), rfl, ((hX.put (by first | (simp; done) | omega | (simp; omega)) _).put (by first | (simp; done) | omega | (simp; omega)) _).mono (by omega), hcx, by simpa using hval, (by repeat (first | with_reducible exact Ab.refl _ | with_reducible assumption | with_reducible refine Ab.drew ?_ | with_reducible refine Ab.drewN ?_ _ | with_reducible refine Ab.alloc ?_ _ | with_reducible refine Ab.trans ?_ (by assumption) | with_reducible refine Ab.set ?_ (by first | (simp; done) | omega | (simp; omega)) _))⟩
end Go.Proofs.Ytakgglpfgpkboaa
