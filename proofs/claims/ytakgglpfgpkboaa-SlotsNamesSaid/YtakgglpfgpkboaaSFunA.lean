/- Check and encode of package slots, walked. Own work. -/
import Derived.Test.YtakgglpfgpkboaaSMem
import Derived.Test.YtakgglpfgpkboaaGD
import Derived.Test.YtakgglpfgpkboaaGE
set_option linter.unusedVariables false
set_option linter.unusedSimpArgs false
namespace Go.Proofs.Ytakgglpfgpkboaa
open Go.RowKit
open Slots (Sl)

set_option maxRecDepth 100000 in
theorem scheck_any (m : AM) (r : Sl) (w : World) (h : SlM w 0 m r) :
    Calls Try.prog 16 #[.agg #[.slice m.A r.a.s.length m.ca, .slice m.B r.a.t.length m.cb, .int .i64 r.a.cap, .bool r.a.down, .slice m.C r.b.s.length m.cc, .slice m.D r.b.t.length m.cd, .int .i64 r.b.cap, .bool r.b.down, .int .i64 r.n]] w (RetInt w (Slots.check r)) := by
  obtain ⟨A, B, C, D, ca, cb, cc, cd⟩ := m
  obtain ⟨⟨s, t, cap, dn⟩, ⟨p, q, cep, dm⟩, n⟩ := r
  dsimp only
  go_enter Try.func16, Try.ntmps16
  go_wp2
  go_loopw [7] (fun i wr => Ab (w.alloc (.cells #[.slice A s.length ca, .slice B t.length cb, .int .i64 cap, .bool dn, .slice C p.length cc, .slice D q.length cd, .int .i64 cep, .bool dm, .int .i64 n] 27)) wr ∧ (i = .int .i64 0 ∨ (i = .int .i64 1 ∧ Hid (¬ Slots.bad1 ⟨s, t, cap, dn⟩)) ∨ (i = .int .i64 2 ∧ Hid (¬ Slots.bad1 ⟨s, t, cap, dn⟩) ∧ Hid (¬ Slots.bad1 ⟨p, q, cep, dm⟩)))) (fun i _ => 2 - (intOf i).toNat)
  case atStart => exact ⟨(by repeat (first | with_reducible exact Ab.refl _ | with_reducible assumption | with_reducible refine Ab.drew ?_ | with_reducible refine Ab.drewN ?_ _ | with_reducible refine Ab.alloc ?_ _ | with_reducible refine Ab.trans ?_ (by assumption) | with_reducible refine Ab.set ?_ (by first | (simp; done) | omega | (simp; omega)) _)), .inl rfl⟩
  case round =>
    obtain ⟨hb, rfl | ⟨rfl, h1⟩ | ⟨rfl, h1, h2⟩⟩ := hrel
    · go_wp2_with fail
      refine (check_any A B ca cb s t cap dn _ h.sa h.sb).mono ?_
      rintro e w1 ⟨r, hr, rfl, hb1⟩
      have bq0 := hb1.at (p := ⟨wr.heap.size, 0, none⟩) (v := .slice A s.length ca) (by (repeat (first | with_reducible assumption | (simp [go_sem]; done) | with_reducible apply cell_alloc | with_reducible apply cell_drew | with_reducible apply cell_drewN | (with_reducible apply Ab.at; with_reducible assumption) | (with_reducible refine cell_set ?_ ?_; rotate_left; focus (first | (simp; done) | (simp; omega))) | (with_reducible refine cell_setb ?_ ?_; rotate_left; focus (first | omega | (simp only; omega) | (simp; omega)))))); have bq1 := hb1.at (p := ⟨wr.heap.size, 1, none⟩) (v := .slice B t.length cb) (by (repeat (first | with_reducible assumption | (simp [go_sem]; done) | with_reducible apply cell_alloc | with_reducible apply cell_drew | with_reducible apply cell_drewN | (with_reducible apply Ab.at; with_reducible assumption) | (with_reducible refine cell_set ?_ ?_; rotate_left; focus (first | (simp; done) | (simp; omega))) | (with_reducible refine cell_setb ?_ ?_; rotate_left; focus (first | omega | (simp only; omega) | (simp; omega)))))); have bq2 := hb1.at (p := ⟨wr.heap.size, 2, none⟩) (v := .int .i64 cap) (by (repeat (first | with_reducible assumption | (simp [go_sem]; done) | with_reducible apply cell_alloc | with_reducible apply cell_drew | with_reducible apply cell_drewN | (with_reducible apply Ab.at; with_reducible assumption) | (with_reducible refine cell_set ?_ ?_; rotate_left; focus (first | (simp; done) | (simp; omega))) | (with_reducible refine cell_setb ?_ ?_; rotate_left; focus (first | omega | (simp only; omega) | (simp; omega)))))); have bq3 := hb1.at (p := ⟨wr.heap.size, 3, none⟩) (v := .bool dn) (by (repeat (first | with_reducible assumption | (simp [go_sem]; done) | with_reducible apply cell_alloc | with_reducible apply cell_drew | with_reducible apply cell_drewN | (with_reducible apply Ab.at; with_reducible assumption) | (with_reducible refine cell_set ?_ ?_; rotate_left; focus (first | (simp; done) | (simp; omega))) | (with_reducible refine cell_setb ?_ ?_; rotate_left; focus (first | omega | (simp only; omega) | (simp; omega))))))
      by_cases hbd : Disk.bad ⟨s, t, cap, dn⟩
      · obtain rfl : r = 8 := hr.out.trans (Disk.check_bad hbd)
        have hB := Lib.hid (show Slots.bad1 ⟨s, t, cap, dn⟩ from .inl (by rw [Disk.up_bad hbd]; decide))
        clear hr hbd
        go_wp2
        go_ret
        exact RetInt.mk (by rw [Slots.check_bad (by exact .inl hB.out)]; rfl) (by repeat (first | with_reducible exact Ab.refl _ | with_reducible assumption | with_reducible refine Ab.drew ?_ | with_reducible refine Ab.drewN ?_ _ | with_reducible refine Ab.alloc ?_ _ | with_reducible refine Ab.trans ?_ (by assumption) | with_reducible refine Ab.set ?_ (by first | (simp; done) | omega | (simp; omega)) _))
      · obtain rfl : r = 0 := hr.out.trans (Disk.check_ok hbd)
        have hN := Lib.hid hbd
        clear hr hbd
        cases dn with
        | true =>
          have hB := Lib.hid (show Slots.bad1 ⟨s, t, cap, true⟩ from .inl (by rw [Disk.up_down hN.out rfl]; decide))
          go_wp2
          go_ret
          exact RetInt.mk (by rw [Slots.check_bad (by exact .inl hB.out)]; rfl) (by repeat (first | with_reducible exact Ab.refl _ | with_reducible assumption | with_reducible refine Ab.drew ?_ | with_reducible refine Ab.drewN ?_ _ | with_reducible refine Ab.alloc ?_ _ | with_reducible refine Ab.trans ?_ (by assumption) | with_reducible refine Ab.set ?_ (by first | (simp; done) | omega | (simp; omega)) _))
        | false =>
          by_cases hlen : 0 < t.length
          · have hB := Lib.hid (show Slots.bad1 ⟨s, t, cap, false⟩ from .inr hlen)
            have hlen' : decide ((0 : Int) < (t.length : Int)) = true := by simpa using hlen
            go_wp2
            go_ret
            exact RetInt.mk (by rw [Slots.check_bad (by exact .inl hB.out)]; rfl) (by repeat (first | with_reducible exact Ab.refl _ | with_reducible assumption | with_reducible refine Ab.drew ?_ | with_reducible refine Ab.drewN ?_ _ | with_reducible refine Ab.alloc ?_ _ | with_reducible refine Ab.trans ?_ (by assumption) | with_reducible refine Ab.set ?_ (by first | (simp; done) | omega | (simp; omega)) _))
          · have hB := Lib.hid (show ¬ Slots.bad1 ⟨s, t, cap, false⟩ from by rintro (k | k); exact k (Disk.up_ok hN.out rfl); exact hlen k)
            have hlen' : decide ((0 : Int) < (t.length : Int)) = false := by simpa using hlen
            go_wp2
            go_roundw
            case rel => exact ⟨(by repeat (first | with_reducible exact Ab.refl _ | with_reducible assumption | with_reducible refine Ab.drew ?_ | with_reducible refine Ab.drewN ?_ _ | with_reducible refine Ab.alloc ?_ _ | with_reducible refine Ab.trans ?_ (by assumption) | with_reducible refine Ab.set ?_ (by first | (simp; done) | omega | (simp; omega)) _)), .inr (.inl ⟨rfl, hB⟩)⟩
            case measure => (show 2 - (intOf _).toNat < 2 - (intOf _).toNat); simp only [intOf]; omega
    · go_wp2_with fail
      refine (check_any C D cc cd p q cep dm _ h.sc h.sd).mono ?_
      rintro e w1 ⟨r, hr, rfl, hb1⟩
      have bq0 := hb1.at (p := ⟨wr.heap.size, 0, none⟩) (v := .slice C p.length cc) (by (repeat (first | with_reducible assumption | (simp [go_sem]; done) | with_reducible apply cell_alloc | with_reducible apply cell_drew | with_reducible apply cell_drewN | (with_reducible apply Ab.at; with_reducible assumption) | (with_reducible refine cell_set ?_ ?_; rotate_left; focus (first | (simp; done) | (simp; omega))) | (with_reducible refine cell_setb ?_ ?_; rotate_left; focus (first | omega | (simp only; omega) | (simp; omega)))))); have bq1 := hb1.at (p := ⟨wr.heap.size, 1, none⟩) (v := .slice D q.length cd) (by (repeat (first | with_reducible assumption | (simp [go_sem]; done) | with_reducible apply cell_alloc | with_reducible apply cell_drew | with_reducible apply cell_drewN | (with_reducible apply Ab.at; with_reducible assumption) | (with_reducible refine cell_set ?_ ?_; rotate_left; focus (first | (simp; done) | (simp; omega))) | (with_reducible refine cell_setb ?_ ?_; rotate_left; focus (first | omega | (simp only; omega) | (simp; omega)))))); have bq2 := hb1.at (p := ⟨wr.heap.size, 2, none⟩) (v := .int .i64 cep) (by (repeat (first | with_reducible assumption | (simp [go_sem]; done) | with_reducible apply cell_alloc | with_reducible apply cell_drew | with_reducible apply cell_drewN | (with_reducible apply Ab.at; with_reducible assumption) | (with_reducible refine cell_set ?_ ?_; rotate_left; focus (first | (simp; done) | (simp; omega))) | (with_reducible refine cell_setb ?_ ?_; rotate_left; focus (first | omega | (simp only; omega) | (simp; omega)))))); have bq3 := hb1.at (p := ⟨wr.heap.size, 3, none⟩) (v := .bool dm) (by (repeat (first | with_reducible assumption | (simp [go_sem]; done) | with_reducible apply cell_alloc | with_reducible apply cell_drew | with_reducible apply cell_drewN | (with_reducible apply Ab.at; with_reducible assumption) | (with_reducible refine cell_set ?_ ?_; rotate_left; focus (first | (simp; done) | (simp; omega))) | (with_reducible refine cell_setb ?_ ?_; rotate_left; focus (first | omega | (simp only; omega) | (simp; omega))))))
      by_cases hbd : Disk.bad ⟨p, q, cep, dm⟩
      · obtain rfl : r = 8 := hr.out.trans (Disk.check_bad hbd)
        have hB := Lib.hid (show Slots.bad1 ⟨p, q, cep, dm⟩ from .inl (by rw [Disk.up_bad hbd]; decide))
        clear hr hbd
        go_wp2
        go_ret
        exact RetInt.mk (by rw [Slots.check_bad (by exact .inr (.inl hB.out))]; rfl) (by repeat (first | with_reducible exact Ab.refl _ | with_reducible assumption | with_reducible refine Ab.drew ?_ | with_reducible refine Ab.drewN ?_ _ | with_reducible refine Ab.alloc ?_ _ | with_reducible refine Ab.trans ?_ (by assumption) | with_reducible refine Ab.set ?_ (by first | (simp; done) | omega | (simp; omega)) _))
      · obtain rfl : r = 0 := hr.out.trans (Disk.check_ok hbd)
        have hN := Lib.hid hbd
        clear hr hbd
        cases dm with
        | true =>
          have hB := Lib.hid (show Slots.bad1 ⟨p, q, cep, true⟩ from .inl (by rw [Disk.up_down hN.out rfl]; decide))
          go_wp2
          go_ret
          exact RetInt.mk (by rw [Slots.check_bad (by exact .inr (.inl hB.out))]; rfl) (by repeat (first | with_reducible exact Ab.refl _ | with_reducible assumption | with_reducible refine Ab.drew ?_ | with_reducible refine Ab.drewN ?_ _ | with_reducible refine Ab.alloc ?_ _ | with_reducible refine Ab.trans ?_ (by assumption) | with_reducible refine Ab.set ?_ (by first | (simp; done) | omega | (simp; omega)) _))
        | false =>
          by_cases hlen : 0 < q.length
          · have hB := Lib.hid (show Slots.bad1 ⟨p, q, cep, false⟩ from .inr hlen)
            have hlen' : decide ((0 : Int) < (q.length : Int)) = true := by simpa using hlen
            go_wp2
            go_ret
            exact RetInt.mk (by rw [Slots.check_bad (by exact .inr (.inl hB.out))]; rfl) (by repeat (first | with_reducible exact Ab.refl _ | with_reducible assumption | with_reducible refine Ab.drew ?_ | with_reducible refine Ab.drewN ?_ _ | with_reducible refine Ab.alloc ?_ _ | with_reducible refine Ab.trans ?_ (by assumption) | with_reducible refine Ab.set ?_ (by first | (simp; done) | omega | (simp; omega)) _))
          · have hB := Lib.hid (show ¬ Slots.bad1 ⟨p, q, cep, false⟩ from by rintro (k | k); exact k (Disk.up_ok hN.out rfl); exact hlen k)
            have hlen' : decide ((0 : Int) < (q.length : Int)) = false := by simpa using hlen
            go_wp2
            go_roundw
            case rel => exact ⟨(by repeat (first | with_reducible exact Ab.refl _ | with_reducible assumption | with_reducible refine Ab.drew ?_ | with_reducible refine Ab.drewN ?_ _ | with_reducible refine Ab.alloc ?_ _ | with_reducible refine Ab.trans ?_ (by assumption) | with_reducible refine Ab.set ?_ (by first | (simp; done) | omega | (simp; omega)) _)), .inr (.inr ⟨rfl, h1, hB⟩)⟩
            case measure => (show 2 - (intOf _).toNat < 2 - (intOf _).toNat); simp only [intOf]; omega
    · have hq := hb.at (p := ⟨w.heap.size, 8, none⟩) (v := .int .i64 n) (by simp [go_sem])
      by_cases hn : n < 1
      · have hn' : decide (n < 1) = true := by simpa using hn
        have hN := Lib.hid hn
        clear hn
        go_wp2
        go_ret
        exact RetInt.mk (by rw [Slots.check_bad (.inr (.inr (.inl hN.out)))]; rfl) (by repeat (first | with_reducible exact Ab.refl _ | with_reducible assumption | with_reducible refine Ab.drew ?_ | with_reducible refine Ab.drewN ?_ _ | with_reducible refine Ab.alloc ?_ _ | with_reducible refine Ab.trans ?_ (by assumption) | with_reducible refine Ab.set ?_ (by first | (simp; done) | omega | (simp; omega)) _))
      · have hn' : decide (n < 1) = false := by simpa using hn
        by_cases hm : 1000000001 < n
        · have hm' : decide (1000000001 < n) = true := by simpa using hm
          have hN := Lib.hid hm
          clear hn hm
          go_wp2
          go_ret
          exact RetInt.mk (by rw [Slots.check_bad (.inr (.inr (.inr hN.out)))]; rfl) (by repeat (first | with_reducible exact Ab.refl _ | with_reducible assumption | with_reducible refine Ab.drew ?_ | with_reducible refine Ab.drewN ?_ _ | with_reducible refine Ab.alloc ?_ _ | with_reducible refine Ab.trans ?_ (by assumption) | with_reducible refine Ab.set ?_ (by first | (simp; done) | omega | (simp; omega)) _))
        · have hm' : decide (1000000001 < n) = false := by simpa using hm
          have hB := Lib.hid (show ¬ Slots.bad ⟨⟨s, t, cap, dn⟩, ⟨p, q, cep, dm⟩, n⟩ from by rintro (k | k | k | k); exact h1.out k; exact h2.out k; exact hn k; exact hm k)
          clear hn hm
          go_wp2
          go_ret
          exact RetInt.mk (by rw [Slots.check_ok hB.out]; rfl) (by repeat (first | with_reducible exact Ab.refl _ | with_reducible assumption | with_reducible refine Ab.drew ?_ | with_reducible refine Ab.drewN ?_ _ | with_reducible refine Ab.alloc ?_ _ | with_reducible refine Ab.trans ?_ (by assumption) | with_reducible refine Ab.set ?_ (by first | (simp; done) | omega | (simp; omega)) _))

theorem slotOf_any (n v : Int) (h0 : 0 ≤ n) (hv : n % 2 = v) (w : World) :
    Calls Try.prog 31 #[.int .i64 n] w fun e w' => e = .returned (.int .i64 v) ∧ w' = w := by
  go_enter Try.func31, Try.ntmps31
  go_wp2
  go_ret
  refine ⟨?_, rfl⟩
  simp [go_sem]
  exact hv

/-- It returns the bytes of the checkpoint, or the error of saving it. -/
def EncP (r : Sl) (b : List UInt8) (w : World) (e : Ending) (w' : World) : Prop :=
  ∃ (er : Int) (L : List UInt8) (A : Option Addr) (c : Nat), Hid (er = Slots.asked r b) ∧ Hid (er = 0 → L = Frame.enc ⟨r.n, b⟩) ∧ e = .returned (.tuple #[.slice A L.length c, .int .i64 er]) ∧ RB w' w.heap.size A L ∧ L.length ≤ c ∧ L.length ≤ 1012 ∧ Ab w w'
theorem EncP.err {r : Sl} {b : List UInt8} {w w' : World} {er : Int} (h : er = Slots.asked r b) (h0 : er ≠ 0) (hb : Ab w w') : EncP r b w (.returned (.tuple #[.slice none 0 0, .int .i64 er])) w' :=
  ⟨er, [], none, 0, h, fun k => absurd k h0, rfl, RB.nil, Nat.le_refl _, by simp, hb⟩

set_option maxRecDepth 100000 in
theorem sencode_any (m : AM) (r : Sl) (w : World) (h : SlM w 0 m r) (X : Option Addr) (b : List UInt8) (cx : Nat) (hx : RB w 0 X b) (hcx : b.length ≤ cx) :
    Calls Try.prog 30 #[.agg #[.slice m.A r.a.s.length m.ca, .slice m.B r.a.t.length m.cb, .int .i64 r.a.cap, .bool r.a.down, .slice m.C r.b.s.length m.cc, .slice m.D r.b.t.length m.cd, .int .i64 r.b.cap, .bool r.b.down, .int .i64 r.n], .slice X b.length cx] w (EncP r b w) := by
  obtain ⟨A, B, C, D, ca, cb, cc, cd⟩ := m
  obtain ⟨⟨s, t, cap, dn⟩, ⟨p, q, cep, dm⟩, n⟩ := r
  dsimp only
  go_enter Try.func30, Try.ntmps30
  go_wp2_with fail
  refine (scheck_any ⟨A, B, C, D, ca, cb, cc, cd⟩ ⟨⟨s, t, cap, dn⟩, ⟨p, q, cep, dm⟩, n⟩ _ (h.ab (by repeat (first | with_reducible exact Ab.refl _ | with_reducible assumption | with_reducible refine Ab.drew ?_ | with_reducible refine Ab.drewN ?_ _ | with_reducible refine Ab.alloc ?_ _ | with_reducible refine Ab.trans ?_ (by assumption) | with_reducible refine Ab.set ?_ (by first | (simp; done) | omega | (simp; omega)) _)))).mono ?_
  rintro e w1 ⟨er, hr, rfl, hb1⟩
  by_cases hbad : Slots.bad ⟨⟨s, t, cap, dn⟩, ⟨p, q, cep, dm⟩, n⟩
  · obtain rfl : er = 8 := hr.out.trans (Slots.check_bad hbad)
    have HM := Lib.hid (Slots.asked_bad (b := b) hbad).symm
    go_wp2
    go_ret2
    exact EncP.err HM.out (by decide) (by repeat (first | with_reducible exact Ab.refl _ | with_reducible assumption | with_reducible refine Ab.drew ?_ | with_reducible refine Ab.drewN ?_ _ | with_reducible refine Ab.alloc ?_ _ | with_reducible refine Ab.trans ?_ (by assumption) | with_reducible refine Ab.set ?_ (by first | (simp; done) | omega | (simp; omega)) _))
  obtain rfl : er = 0 := hr.out.trans (Slots.check_ok hbad)
  have HG := Lib.hid (Slots.good_of hbad)
  have HB := Lib.hid hbad
  have hn0 : 0 ≤ n := by have := HG.out.lo; simp only at this; omega
  clear hr
  have bq0 := hb1.at (p := ⟨w.heap.size, 0, none⟩) (v := .slice A s.length ca) (by (repeat (first | with_reducible assumption | (simp [go_sem]; done) | with_reducible apply cell_alloc | with_reducible apply cell_drew | with_reducible apply cell_drewN | (with_reducible apply Ab.at; with_reducible assumption) | (with_reducible refine cell_set ?_ ?_; rotate_left; focus (first | (simp; done) | (simp; omega))) | (with_reducible refine cell_setb ?_ ?_; rotate_left; focus (first | omega | (simp only; omega) | (simp; omega)))))); have bq1 := hb1.at (p := ⟨w.heap.size, 1, none⟩) (v := .slice B t.length cb) (by (repeat (first | with_reducible assumption | (simp [go_sem]; done) | with_reducible apply cell_alloc | with_reducible apply cell_drew | with_reducible apply cell_drewN | (with_reducible apply Ab.at; with_reducible assumption) | (with_reducible refine cell_set ?_ ?_; rotate_left; focus (first | (simp; done) | (simp; omega))) | (with_reducible refine cell_setb ?_ ?_; rotate_left; focus (first | omega | (simp only; omega) | (simp; omega)))))); have bq2 := hb1.at (p := ⟨w.heap.size, 2, none⟩) (v := .int .i64 cap) (by (repeat (first | with_reducible assumption | (simp [go_sem]; done) | with_reducible apply cell_alloc | with_reducible apply cell_drew | with_reducible apply cell_drewN | (with_reducible apply Ab.at; with_reducible assumption) | (with_reducible refine cell_set ?_ ?_; rotate_left; focus (first | (simp; done) | (simp; omega))) | (with_reducible refine cell_setb ?_ ?_; rotate_left; focus (first | omega | (simp only; omega) | (simp; omega)))))); have bq3 := hb1.at (p := ⟨w.heap.size, 3, none⟩) (v := .bool dn) (by (repeat (first | with_reducible assumption | (simp [go_sem]; done) | with_reducible apply cell_alloc | with_reducible apply cell_drew | with_reducible apply cell_drewN | (with_reducible apply Ab.at; with_reducible assumption) | (with_reducible refine cell_set ?_ ?_; rotate_left; focus (first | (simp; done) | (simp; omega))) | (with_reducible refine cell_setb ?_ ?_; rotate_left; focus (first | omega | (simp only; omega) | (simp; omega)))))); have bq4 := hb1.at (p := ⟨w.heap.size, 4, none⟩) (v := .slice C p.length cc) (by (repeat (first | with_reducible assumption | (simp [go_sem]; done) | with_reducible apply cell_alloc | with_reducible apply cell_drew | with_reducible apply cell_drewN | (with_reducible apply Ab.at; with_reducible assumption) | (with_reducible refine cell_set ?_ ?_; rotate_left; focus (first | (simp; done) | (simp; omega))) | (with_reducible refine cell_setb ?_ ?_; rotate_left; focus (first | omega | (simp only; omega) | (simp; omega)))))); have bq5 := hb1.at (p := ⟨w.heap.size, 5, none⟩) (v := .slice D q.length cd) (by (repeat (first | with_reducible assumption | (simp [go_sem]; done) | with_reducible apply cell_alloc | with_reducible apply cell_drew | with_reducible apply cell_drewN | (with_reducible apply Ab.at; with_reducible assumption) | (with_reducible refine cell_set ?_ ?_; rotate_left; focus (first | (simp; done) | (simp; omega))) | (with_reducible refine cell_setb ?_ ?_; rotate_left; focus (first | omega | (simp only; omega) | (simp; omega)))))); have bq6 := hb1.at (p := ⟨w.heap.size, 6, none⟩) (v := .int .i64 cep) (by (repeat (first | with_reducible assumption | (simp [go_sem]; done) | with_reducible apply cell_alloc | with_reducible apply cell_drew | with_reducible apply cell_drewN | (with_reducible apply Ab.at; with_reducible assumption) | (with_reducible refine cell_set ?_ ?_; rotate_left; focus (first | (simp; done) | (simp; omega))) | (with_reducible refine cell_setb ?_ ?_; rotate_left; focus (first | omega | (simp only; omega) | (simp; omega)))))); have bq7 := hb1.at (p := ⟨w.heap.size, 7, none⟩) (v := .bool dm) (by (repeat (first | with_reducible assumption | (simp [go_sem]; done) | with_reducible apply cell_alloc | with_reducible apply cell_drew | with_reducible apply cell_drewN | (with_reducible apply Ab.at; with_reducible assumption) | (with_reducible refine cell_set ?_ ?_; rotate_left; focus (first | (simp; done) | (simp; omega))) | (with_reducible refine cell_setb ?_ ?_; rotate_left; focus (first | omega | (simp only; omega) | (simp; omega)))))); have bq8 := hb1.at (p := ⟨w.heap.size, 8, none⟩) (v := .int .i64 n) (by (repeat (first | with_reducible assumption | (simp [go_sem]; done) | with_reducible apply cell_alloc | with_reducible apply cell_drew | with_reducible apply cell_drewN | (with_reducible apply Ab.at; with_reducible assumption) | (with_reducible refine cell_set ?_ ?_; rotate_left; focus (first | (simp; done) | (simp; omega))) | (with_reducible refine cell_setb ?_ ?_; rotate_left; focus (first | omega | (simp only; omega) | (simp; omega))))))
  by_cases hmany : 1000 < b.length
  · have HM := Lib.hid (Slots.asked_many HB.out hmany).symm
    have hmany' : decide ((1000 : Int) < (b.length : Int)) = true := by simp; omega
    clear hbad hmany
    go_wp2
    go_ret2
    exact EncP.err HM.out (by decide) (by repeat (first | with_reducible exact Ab.refl _ | with_reducible assumption | with_reducible refine Ab.drew ?_ | with_reducible refine Ab.drewN ?_ _ | with_reducible refine Ab.alloc ?_ _ | with_reducible refine Ab.trans ?_ (by assumption) | with_reducible refine Ab.set ?_ (by first | (simp; done) | omega | (simp; omega)) _))
  have hmany' : decide ((1000 : Int) < (b.length : Int)) = false := by simp; omega
  have HM1 := Lib.hid hmany
  by_cases harg : 1000000000 < n
  · have HM := Lib.hid (Slots.asked_arg (s := ⟨⟨s, t, cap, dn⟩, ⟨p, q, cep, dm⟩, n⟩) HB.out hmany harg).symm
    have harg' : decide (1000000000 < n) = true := by simpa using harg
    clear hbad hmany harg
    go_wp2
    go_ret2
    exact EncP.err HM.out (by decide) (by repeat (first | with_reducible exact Ab.refl _ | with_reducible assumption | with_reducible refine Ab.drew ?_ | with_reducible refine Ab.drewN ?_ _ | with_reducible refine Ab.alloc ?_ _ | with_reducible refine Ab.trans ?_ (by assumption) | with_reducible refine Ab.set ?_ (by first | (simp; done) | omega | (simp; omega)) _))
  have harg' : decide (1000000000 < n) = false := by simpa using harg
  have HM2 := Lib.hid harg
  have hval := Lib.hid (show Frame.Valid ⟨n, b⟩ from ⟨hn0, by simp only; omega, by simp only; omega⟩)
  clear hbad hmany harg
  go_wp2_with fail
  refine (encode_any n X b cx _ (hx.ab (by repeat (first | with_reducible exact Ab.refl _ | with_reducible assumption | with_reducible refine Ab.drew ?_ | with_reducible refine Ab.drewN ?_ _ | with_reducible refine Ab.alloc ?_ _ | with_reducible refine Ab.trans ?_ (by assumption) | with_reducible refine Ab.set ?_ (by first | (simp; done) | omega | (simp; omega)) _))) hcx).mono ?_
  rintro e w2 ⟨E, c, L, er, hE, rfl, oE, hb2⟩
  obtain ⟨hL, rfl⟩ := hE.out.unique (.inl ⟨hval.out, rfl, rfl⟩)
  have HL := Lib.hid hL
  have hlen : L.length = 12 + b.length := by rw [hL, Frame.enc_length]
  have hlen2 := Lib.hid hlen
  have hz : Ab (w.alloc (.cells #[.slice A s.length ca, .slice B t.length cb, .int .i64 cap, .bool dn, .slice C p.length cc, .slice D q.length cd, .int .i64 cep, .bool dm, .int .i64 n] 27)) w2 := (by repeat (first | with_reducible exact Ab.refl _ | with_reducible assumption | with_reducible refine Ab.drew ?_ | with_reducible refine Ab.drewN ?_ _ | with_reducible refine Ab.alloc ?_ _ | with_reducible refine Ab.trans ?_ (by assumption) | with_reducible refine Ab.set ?_ (by first | (simp; done) | omega | (simp; omega)) _))
  clear hE hL hlen bq0 bq1 bq2 bq3 bq4 bq5 bq6 bq7 bq8
  have bq0 := hz.at (p := ⟨w.heap.size, 0, none⟩) (v := .slice A s.length ca) (by (repeat (first | with_reducible assumption | (simp [go_sem]; done) | with_reducible apply cell_alloc | with_reducible apply cell_drew | with_reducible apply cell_drewN | (with_reducible apply Ab.at; with_reducible assumption) | (with_reducible refine cell_set ?_ ?_; rotate_left; focus (first | (simp; done) | (simp; omega))) | (with_reducible refine cell_setb ?_ ?_; rotate_left; focus (first | omega | (simp only; omega) | (simp; omega)))))); have bq1 := hz.at (p := ⟨w.heap.size, 1, none⟩) (v := .slice B t.length cb) (by (repeat (first | with_reducible assumption | (simp [go_sem]; done) | with_reducible apply cell_alloc | with_reducible apply cell_drew | with_reducible apply cell_drewN | (with_reducible apply Ab.at; with_reducible assumption) | (with_reducible refine cell_set ?_ ?_; rotate_left; focus (first | (simp; done) | (simp; omega))) | (with_reducible refine cell_setb ?_ ?_; rotate_left; focus (first | omega | (simp only; omega) | (simp; omega)))))); have bq2 := hz.at (p := ⟨w.heap.size, 2, none⟩) (v := .int .i64 cap) (by (repeat (first | with_reducible assumption | (simp [go_sem]; done) | with_reducible apply cell_alloc | with_reducible apply cell_drew | with_reducible apply cell_drewN | (with_reducible apply Ab.at; with_reducible assumption) | (with_reducible refine cell_set ?_ ?_; rotate_left; focus (first | (simp; done) | (simp; omega))) | (with_reducible refine cell_setb ?_ ?_; rotate_left; focus (first | omega | (simp only; omega) | (simp; omega)))))); have bq3 := hz.at (p := ⟨w.heap.size, 3, none⟩) (v := .bool dn) (by (repeat (first | with_reducible assumption | (simp [go_sem]; done) | with_reducible apply cell_alloc | with_reducible apply cell_drew | with_reducible apply cell_drewN | (with_reducible apply Ab.at; with_reducible assumption) | (with_reducible refine cell_set ?_ ?_; rotate_left; focus (first | (simp; done) | (simp; omega))) | (with_reducible refine cell_setb ?_ ?_; rotate_left; focus (first | omega | (simp only; omega) | (simp; omega)))))); have bq4 := hz.at (p := ⟨w.heap.size, 4, none⟩) (v := .slice C p.length cc) (by (repeat (first | with_reducible assumption | (simp [go_sem]; done) | with_reducible apply cell_alloc | with_reducible apply cell_drew | with_reducible apply cell_drewN | (with_reducible apply Ab.at; with_reducible assumption) | (with_reducible refine cell_set ?_ ?_; rotate_left; focus (first | (simp; done) | (simp; omega))) | (with_reducible refine cell_setb ?_ ?_; rotate_left; focus (first | omega | (simp only; omega) | (simp; omega)))))); have bq5 := hz.at (p := ⟨w.heap.size, 5, none⟩) (v := .slice D q.length cd) (by (repeat (first | with_reducible assumption | (simp [go_sem]; done) | with_reducible apply cell_alloc | with_reducible apply cell_drew | with_reducible apply cell_drewN | (with_reducible apply Ab.at; with_reducible assumption) | (with_reducible refine cell_set ?_ ?_; rotate_left; focus (first | (simp; done) | (simp; omega))) | (with_reducible refine cell_setb ?_ ?_; rotate_left; focus (first | omega | (simp only; omega) | (simp; omega)))))); have bq6 := hz.at (p := ⟨w.heap.size, 6, none⟩) (v := .int .i64 cep) (by (repeat (first | with_reducible assumption | (simp [go_sem]; done) | with_reducible apply cell_alloc | with_reducible apply cell_drew | with_reducible apply cell_drewN | (with_reducible apply Ab.at; with_reducible assumption) | (with_reducible refine cell_set ?_ ?_; rotate_left; focus (first | (simp; done) | (simp; omega))) | (with_reducible refine cell_setb ?_ ?_; rotate_left; focus (first | omega | (simp only; omega) | (simp; omega)))))); have bq7 := hz.at (p := ⟨w.heap.size, 7, none⟩) (v := .bool dm) (by (repeat (first | with_reducible assumption | (simp [go_sem]; done) | with_reducible apply cell_alloc | with_reducible apply cell_drew | with_reducible apply cell_drewN | (with_reducible apply Ab.at; with_reducible assumption) | (with_reducible refine cell_set ?_ ?_; rotate_left; focus (first | (simp; done) | (simp; omega))) | (with_reducible refine cell_setb ?_ ?_; rotate_left; focus (first | omega | (simp only; omega) | (simp; omega)))))); have bq8 := hz.at (p := ⟨w.heap.size, 8, none⟩) (v := .int .i64 n) (by (repeat (first | with_reducible assumption | (simp [go_sem]; done) | with_reducible apply cell_alloc | with_reducible apply cell_drew | with_reducible apply cell_drewN | (with_reducible apply Ab.at; with_reducible assumption) | (with_reducible refine cell_set ?_ ?_; rotate_left; focus (first | (simp; done) | (simp; omega))) | (with_reducible refine cell_setb ?_ ?_; rotate_left; focus (first | omega | (simp only; omega) | (simp; omega))))))
  have b2 : Ab w w2 := (by repeat (first | with_reducible exact Ab.refl _ | with_reducible assumption | with_reducible refine Ab.drew ?_ | with_reducible refine Ab.drewN ?_ _ | with_reducible refine Ab.alloc ?_ _ | with_reducible refine Ab.trans ?_ (by assumption) | with_reducible refine Ab.set ?_ (by first | (simp; done) | omega | (simp; omega)) _))
  have oR := oE.rb.mono (show w.heap.size ≤ w1.heap.size from (show Ab w w1 from (by repeat (first | with_reducible exact Ab.refl _ | with_reducible assumption | with_reducible refine Ab.drew ?_ | with_reducible refine Ab.drewN ?_ _ | with_reducible refine Ab.alloc ?_ _ | with_reducible refine Ab.trans ?_ (by assumption) | with_reducible refine Ab.set ?_ (by first | (simp; done) | omega | (simp; omega)) _))).size)
  have HG2 : n ≤ 1000000000 := by have := HM2.out; omega
  rcases Int.emod_two_eq n with hp0 | hp0
  · have hcur := Lib.hid (show (Slots.Sl.cur ⟨⟨s, t, cap, dn⟩, ⟨p, q, cep, dm⟩, n⟩).cap = cap by simp [Slots.Sl.cur, hp0])
    have hp := Lib.hid hp0
    clear hp0
    go_wp2_with fail
    refine (slotOf_any n 0 hn0 hp.out _).mono ?_
    rintro e w3 ⟨rfl, rfl⟩
    by_cases hfull : cap < 12 + (b.length : Int)
    · have HM := Lib.hid (Slots.asked_full (s := ⟨⟨s, t, cap, dn⟩, ⟨p, q, cep, dm⟩, n⟩) HB.out HM1.out (by simp only; omega) (by rw [hcur.out]; exact hfull)).symm
      have hfull' : decide (cap < (L.length : Int)) = true := by simp; have := hlen2.out; omega
      clear hfull
      go_wp2
      go_ret2
      exact EncP.err HM.out (by decide) (by repeat (first | with_reducible exact Ab.refl _ | with_reducible assumption | with_reducible refine Ab.drew ?_ | with_reducible refine Ab.drewN ?_ _ | with_reducible refine Ab.alloc ?_ _ | with_reducible refine Ab.trans ?_ (by assumption) | with_reducible refine Ab.set ?_ (by first | (simp; done) | omega | (simp; omega)) _))
    · have HM := Lib.hid (Slots.asked_ok (s := ⟨⟨s, t, cap, dn⟩, ⟨p, q, cep, dm⟩, n⟩) HB.out HM1.out (by simp only; omega) (by rw [hcur.out]; exact hfull)).symm
      have hfull' : decide (cap < (L.length : Int)) = false := by simp; have := hlen2.out; omega
      clear hfull
      go_wp2
      go_ret2
      exact ⟨0, L, E, c, HM, Lib.hid (fun _ => HL.out), rfl, oR, oE.le, by have := hlen2.out; have := HM1.out; omega, b2⟩
  · have hcur := Lib.hid (show (Slots.Sl.cur ⟨⟨s, t, cap, dn⟩, ⟨p, q, cep, dm⟩, n⟩).cap = cep by simp [Slots.Sl.cur, hp0])
    have hp := Lib.hid hp0
    clear hp0
    go_wp2_with fail
    refine (slotOf_any n 1 hn0 hp.out _).mono ?_
    rintro e w3 ⟨rfl, rfl⟩
    by_cases hfull : cep < 12 + (b.length : Int)
    · have HM := Lib.hid (Slots.asked_full (s := ⟨⟨s, t, cap, dn⟩, ⟨p, q, cep, dm⟩, n⟩) HB.out HM1.out (by simp only; omega) (by rw [hcur.out]; exact hfull)).symm
      have hfull' : decide (cep < (L.length : Int)) = true := by simp; have := hlen2.out; omega
      clear hfull
      go_wp2
      go_ret2
      exact EncP.err HM.out (by decide) (by repeat (first | with_reducible exact Ab.refl _ | with_reducible assumption | with_reducible refine Ab.drew ?_ | with_reducible refine Ab.drewN ?_ _ | with_reducible refine Ab.alloc ?_ _ | with_reducible refine Ab.trans ?_ (by assumption) | with_reducible refine Ab.set ?_ (by first | (simp; done) | omega | (simp; omega)) _))
    · have HM := Lib.hid (Slots.asked_ok (s := ⟨⟨s, t, cap, dn⟩, ⟨p, q, cep, dm⟩, n⟩) HB.out HM1.out (by simp only; omega) (by rw [hcur.out]; exact hfull)).symm
      have hfull' : decide (cep < (L.length : Int)) = false := by simp; have := hlen2.out; omega
      clear hfull
      go_wp2
      go_ret2
      exact ⟨0, L, E, c, HM, Lib.hid (fun _ => HL.out), rfl, oR, oE.le, by have := hlen2.out; have := HM1.out; omega, b2⟩
end Go.Proofs.Ytakgglpfgpkboaa
