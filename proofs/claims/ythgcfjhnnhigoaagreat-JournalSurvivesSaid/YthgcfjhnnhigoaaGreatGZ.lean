/- The texts SFunA, SFunC, SFunD, SFunG, SFunB, SFunE, SFunN, one behind the other. Own work. -/
import Derived.Test.YthgcfjhnnhigoaaGreatGT
import Derived.Test.YthgcfjhnnhigoaaGreatGD
import Derived.Test.YthgcfjhnnhigoaaGreatGI
import Derived.Test.YthgcfjhnnhigoaaGreatGJ
import Derived.Test.YthgcfjhnnhigoaaGreatGE
import Derived.IntWalk
set_option linter.unusedVariables false
set_option linter.unusedSimpArgs false
/- Check and encode of package slots, walked. Own work. -/
namespace Go.Proofs.YthgcfjhnnhigoaaGreat
open Go.RowKit
open Slots (Sl)

set_option maxRecDepth 100000 in
theorem scheck_any (m : AM) (r : Sl) (w : World) (h : SlM w 0 m r) :
    Calls Tryz.prog 120 #[.agg #[.slice m.A r.a.s.length m.ca, .slice m.B r.a.t.length m.cb, .int .i64 r.a.cap, .bool r.a.down, .slice m.C r.b.s.length m.cc, .slice m.D r.b.t.length m.cd, .int .i64 r.b.cap, .bool r.b.down, .int .i64 r.n]] w (RetInt w (Slots.check r)) := by
  obtain ⟨A, B, C, D, ca, cb, cc, cd⟩ := m
  obtain ⟨⟨s, t, cap, dn⟩, ⟨p, q, cep, dm⟩, n⟩ := r
  dsimp only
  go_enter Tryz.func120, Tryz.ntmps120
  go_wp2
  go_loopw [7] (fun i wr => Ab (w.alloc (.cells #[.slice A s.length ca, .slice B t.length cb, .int .i64 cap, .bool dn, .slice C p.length cc, .slice D q.length cd, .int .i64 cep, .bool dm, .int .i64 n] 27)) wr ∧ (i = .int .i64 0 ∨ (i = .int .i64 1 ∧ Hid (¬ Slots.bad1 ⟨s, t, cap, dn⟩)) ∨ (i = .int .i64 2 ∧ Hid (¬ Slots.bad1 ⟨s, t, cap, dn⟩) ∧ Hid (¬ Slots.bad1 ⟨p, q, cep, dm⟩)))) (fun i _ => 2 - (intOf i).toNat)
  case atStart => exact ⟨abA, .inl rfl⟩
  case round =>
    obtain ⟨hb, rfl | ⟨rfl, h1⟩ | ⟨rfl, h1, h2⟩⟩ := hrel
    · go_wp2_with fail
      refine (check_any A B ca cb s t cap dn _ h.sa h.sb).mono ?_
      rintro e w1 ⟨r, hr, rfl, hb1⟩
      have bq0 := hb1.at (p := ⟨wr.heap.size, 0, none⟩) (v := .slice A s.length ca) ckA; have bq1 := hb1.at (p := ⟨wr.heap.size, 1, none⟩) (v := .slice B t.length cb) ckA; have bq2 := hb1.at (p := ⟨wr.heap.size, 2, none⟩) (v := .int .i64 cap) ckA; have bq3 := hb1.at (p := ⟨wr.heap.size, 3, none⟩) (v := .bool dn) ckA
      by_cases hbd : Disk.bad ⟨s, t, cap, dn⟩
      · obtain rfl : r = 8 := hr.out.trans (Disk.check_bad hbd)
        have hB := Lib.hid (show Slots.bad1 ⟨s, t, cap, dn⟩ from .inl (by rw [Disk.up_bad hbd]; decide))
        clear hr hbd
        go_wp2
        go_ret
        exact RetInt.mk (by rw [Slots.check_bad (by exact .inl hB.out)]; rfl) abA
      · obtain rfl : r = 0 := hr.out.trans (Disk.check_ok hbd)
        have hN := Lib.hid hbd
        clear hr hbd
        cases dn with
        | true =>
          have hB := Lib.hid (show Slots.bad1 ⟨s, t, cap, true⟩ from .inl (by rw [Disk.up_down hN.out rfl]; decide))
          go_wp2
          go_ret
          exact RetInt.mk (by rw [Slots.check_bad (by exact .inl hB.out)]; rfl) abA
        | false =>
          by_cases hlen : 0 < t.length
          · have hB := Lib.hid (show Slots.bad1 ⟨s, t, cap, false⟩ from .inr hlen)
            have hlen' : decide ((0 : Int) < (t.length : Int)) = true := by simpa using hlen
            go_wp2
            go_ret
            exact RetInt.mk (by rw [Slots.check_bad (by exact .inl hB.out)]; rfl) abA
          · have hB := Lib.hid (show ¬ Slots.bad1 ⟨s, t, cap, false⟩ from by rintro (k | k); exact k (Disk.up_ok hN.out rfl); exact hlen k)
            have hlen' : decide ((0 : Int) < (t.length : Int)) = false := by simpa using hlen
            go_wp2
            go_roundw
            case rel => exact ⟨abA, .inr (.inl ⟨rfl, hB⟩)⟩
            case measure => (show 2 - (intOf _).toNat < 2 - (intOf _).toNat); simp only [intOf]; omega
    · go_wp2_with fail
      refine (check_any C D cc cd p q cep dm _ h.sc h.sd).mono ?_
      rintro e w1 ⟨r, hr, rfl, hb1⟩
      have bq0 := hb1.at (p := ⟨wr.heap.size, 0, none⟩) (v := .slice C p.length cc) ckA; have bq1 := hb1.at (p := ⟨wr.heap.size, 1, none⟩) (v := .slice D q.length cd) ckA; have bq2 := hb1.at (p := ⟨wr.heap.size, 2, none⟩) (v := .int .i64 cep) ckA; have bq3 := hb1.at (p := ⟨wr.heap.size, 3, none⟩) (v := .bool dm) ckA
      by_cases hbd : Disk.bad ⟨p, q, cep, dm⟩
      · obtain rfl : r = 8 := hr.out.trans (Disk.check_bad hbd)
        have hB := Lib.hid (show Slots.bad1 ⟨p, q, cep, dm⟩ from .inl (by rw [Disk.up_bad hbd]; decide))
        clear hr hbd
        go_wp2
        go_ret
        exact RetInt.mk (by rw [Slots.check_bad (by exact .inr (.inl hB.out))]; rfl) abA
      · obtain rfl : r = 0 := hr.out.trans (Disk.check_ok hbd)
        have hN := Lib.hid hbd
        clear hr hbd
        cases dm with
        | true =>
          have hB := Lib.hid (show Slots.bad1 ⟨p, q, cep, true⟩ from .inl (by rw [Disk.up_down hN.out rfl]; decide))
          go_wp2
          go_ret
          exact RetInt.mk (by rw [Slots.check_bad (by exact .inr (.inl hB.out))]; rfl) abA
        | false =>
          by_cases hlen : 0 < q.length
          · have hB := Lib.hid (show Slots.bad1 ⟨p, q, cep, false⟩ from .inr hlen)
            have hlen' : decide ((0 : Int) < (q.length : Int)) = true := by simpa using hlen
            go_wp2
            go_ret
            exact RetInt.mk (by rw [Slots.check_bad (by exact .inr (.inl hB.out))]; rfl) abA
          · have hB := Lib.hid (show ¬ Slots.bad1 ⟨p, q, cep, false⟩ from by rintro (k | k); exact k (Disk.up_ok hN.out rfl); exact hlen k)
            have hlen' : decide ((0 : Int) < (q.length : Int)) = false := by simpa using hlen
            go_wp2
            go_roundw
            case rel => exact ⟨abA, .inr (.inr ⟨rfl, h1, hB⟩)⟩
            case measure => (show 2 - (intOf _).toNat < 2 - (intOf _).toNat); simp only [intOf]; omega
    · have hq := hb.at (p := ⟨w.heap.size, 8, none⟩) (v := .int .i64 n) (by simp [go_sem])
      by_cases hn : n < 1
      · have hn' : decide (n < 1) = true := by simpa using hn
        have hN := Lib.hid hn
        clear hn
        go_wp2
        go_ret
        exact RetInt.mk (by rw [Slots.check_bad (.inr (.inr (.inl hN.out)))]; rfl) abA
      · have hn' : decide (n < 1) = false := by simpa using hn
        by_cases hm : 1000000001 < n
        · have hm' : decide (1000000001 < n) = true := by simpa using hm
          have hN := Lib.hid hm
          clear hn hm
          go_wp2
          go_ret
          exact RetInt.mk (by rw [Slots.check_bad (.inr (.inr (.inr hN.out)))]; rfl) abA
        · have hm' : decide (1000000001 < n) = false := by simpa using hm
          have hB := Lib.hid (show ¬ Slots.bad ⟨⟨s, t, cap, dn⟩, ⟨p, q, cep, dm⟩, n⟩ from by rintro (k | k | k | k); exact h1.out k; exact h2.out k; exact hn k; exact hm k)
          clear hn hm
          go_wp2
          go_ret
          exact RetInt.mk (by rw [Slots.check_ok hB.out]; rfl) abA

theorem slotOf_any (n v : Int) (h0 : 0 ≤ n) (hv : n % 2 = v) (w : World) :
    Calls Tryz.prog 86 #[.int .i64 n] w fun e w' => e = .returned (.int .i64 v) ∧ w' = w := by
  go_enter Tryz.func86, Tryz.ntmps86
  go_wp2
  go_ret
  refine ⟨?_, rfl⟩
  simp [go_sem]
  exact hv

/-- It returns the bytes of the checkpoint, or the error of saving it. -/
def EncP (r : Sl) (b : List UInt8) (w : World) (e : Ending) (w' : World) : Prop :=
  ∃ (er : Int) (L : List UInt8) (A : Option Addr) (c : Nat), Hid (er = Slots.asked r b) ∧ Hid (er = 0 → L = Frame.enc ⟨r.n, b⟩) ∧ e = .returned (.tuple #[.slice A L.length c, .int .i64 er]) ∧ RB w' w.heap.size A L ∧ L.length ≤ c ∧ L.length ≤ 1012 ∧ Ab w w'
theorem EncP.err {r : Sl} {b : List UInt8} {w w' : World} {er : Int} (h : er = Slots.asked r b) (h0 : er ≠ 0) (hb : Ab w w') : EncP r b w (.returned (.tuple #[.slice none 0 0, .int .i64 er])) w' :=
  ⟨er, [], none, 0, h, fun k => absurd k h0, rfl, RB.nil, Nat.le_refl _, by simp, hb⟩

set_option maxRecDepth 100000 in
theorem sencode_any (m : AM) (r : Sl) (w : World) (h : SlM w 0 m r) (X : Option Addr) (b : List UInt8) (cx : Nat) (hx : RB w 0 X b) (hcx : b.length ≤ cx) :
    Calls Tryz.prog 85 #[.agg #[.slice m.A r.a.s.length m.ca, .slice m.B r.a.t.length m.cb, .int .i64 r.a.cap, .bool r.a.down, .slice m.C r.b.s.length m.cc, .slice m.D r.b.t.length m.cd, .int .i64 r.b.cap, .bool r.b.down, .int .i64 r.n], .slice X b.length cx] w (EncP r b w) := by
  obtain ⟨A, B, C, D, ca, cb, cc, cd⟩ := m
  obtain ⟨⟨s, t, cap, dn⟩, ⟨p, q, cep, dm⟩, n⟩ := r
  dsimp only
  go_enter Tryz.func85, Tryz.ntmps85
  go_wp2_with fail
  refine (scheck_any ⟨A, B, C, D, ca, cb, cc, cd⟩ ⟨⟨s, t, cap, dn⟩, ⟨p, q, cep, dm⟩, n⟩ _ (h.ab abA)).mono ?_
  rintro e w1 ⟨er, hr, rfl, hb1⟩
  by_cases hbad : Slots.bad ⟨⟨s, t, cap, dn⟩, ⟨p, q, cep, dm⟩, n⟩
  · obtain rfl : er = 8 := hr.out.trans (Slots.check_bad hbad)
    have HM := Lib.hid (Slots.asked_bad (b := b) hbad).symm
    go_wp2
    go_ret2
    exact EncP.err HM.out (by decide) abA
  obtain rfl : er = 0 := hr.out.trans (Slots.check_ok hbad)
  have HG := Lib.hid (Slots.good_of hbad)
  have HB := Lib.hid hbad
  have hn0 : 0 ≤ n := by have := HG.out.lo; simp only at this; omega
  clear hr
  have bq0 := hb1.at (p := ⟨w.heap.size, 0, none⟩) (v := .slice A s.length ca) ckA; have bq1 := hb1.at (p := ⟨w.heap.size, 1, none⟩) (v := .slice B t.length cb) ckA; have bq2 := hb1.at (p := ⟨w.heap.size, 2, none⟩) (v := .int .i64 cap) ckA; have bq3 := hb1.at (p := ⟨w.heap.size, 3, none⟩) (v := .bool dn) ckA; have bq4 := hb1.at (p := ⟨w.heap.size, 4, none⟩) (v := .slice C p.length cc) ckA; have bq5 := hb1.at (p := ⟨w.heap.size, 5, none⟩) (v := .slice D q.length cd) ckA; have bq6 := hb1.at (p := ⟨w.heap.size, 6, none⟩) (v := .int .i64 cep) ckA; have bq7 := hb1.at (p := ⟨w.heap.size, 7, none⟩) (v := .bool dm) ckA; have bq8 := hb1.at (p := ⟨w.heap.size, 8, none⟩) (v := .int .i64 n) ckA
  by_cases hmany : 1000 < b.length
  · have HM := Lib.hid (Slots.asked_many HB.out hmany).symm
    have hmany' : decide ((1000 : Int) < (b.length : Int)) = true := by simp; omega
    clear hbad hmany
    go_wp2
    go_ret2
    exact EncP.err HM.out (by decide) abA
  have hmany' : decide ((1000 : Int) < (b.length : Int)) = false := by simp; omega
  have HM1 := Lib.hid hmany
  by_cases harg : 1000000000 < n
  · have HM := Lib.hid (Slots.asked_arg (s := ⟨⟨s, t, cap, dn⟩, ⟨p, q, cep, dm⟩, n⟩) HB.out hmany harg).symm
    have harg' : decide (1000000000 < n) = true := by simpa using harg
    clear hbad hmany harg
    go_wp2
    go_ret2
    exact EncP.err HM.out (by decide) abA
  have harg' : decide (1000000000 < n) = false := by simpa using harg
  have HM2 := Lib.hid harg
  have hval := Lib.hid (show Frame.Valid ⟨n, b⟩ from ⟨hn0, by simp only; omega, by simp only; omega⟩)
  clear hbad hmany harg
  go_wp2_with fail
  refine (encode_any n X b cx _ (hx.ab abA) hcx).mono ?_
  rintro e w2 ⟨E, c, L, er, hE, rfl, oE, hb2⟩
  obtain ⟨hL, rfl⟩ := hE.out.unique (.inl ⟨hval.out, rfl, rfl⟩)
  have HL := Lib.hid hL
  have hlen : L.length = 12 + b.length := by rw [hL, Frame.enc_length]
  have hlen2 := Lib.hid hlen
  have hz : Ab (w.alloc (.cells #[.slice A s.length ca, .slice B t.length cb, .int .i64 cap, .bool dn, .slice C p.length cc, .slice D q.length cd, .int .i64 cep, .bool dm, .int .i64 n] 27)) w2 := abA
  clear hE hL hlen bq0 bq1 bq2 bq3 bq4 bq5 bq6 bq7 bq8
  have bq0 := hz.at (p := ⟨w.heap.size, 0, none⟩) (v := .slice A s.length ca) ckA; have bq1 := hz.at (p := ⟨w.heap.size, 1, none⟩) (v := .slice B t.length cb) ckA; have bq2 := hz.at (p := ⟨w.heap.size, 2, none⟩) (v := .int .i64 cap) ckA; have bq3 := hz.at (p := ⟨w.heap.size, 3, none⟩) (v := .bool dn) ckA; have bq4 := hz.at (p := ⟨w.heap.size, 4, none⟩) (v := .slice C p.length cc) ckA; have bq5 := hz.at (p := ⟨w.heap.size, 5, none⟩) (v := .slice D q.length cd) ckA; have bq6 := hz.at (p := ⟨w.heap.size, 6, none⟩) (v := .int .i64 cep) ckA; have bq7 := hz.at (p := ⟨w.heap.size, 7, none⟩) (v := .bool dm) ckA; have bq8 := hz.at (p := ⟨w.heap.size, 8, none⟩) (v := .int .i64 n) ckA
  have b2 : Ab w w2 := abA
  have oR := oE.rb.mono (show w.heap.size ≤ w1.heap.size from (show Ab w w1 from abA).size)
  have HG2 : n ≤ 1000000000 := by have := HM2.out; omega
  rcases Int.emod_two_eq n with hp0 | hp0
  · have hcur := Lib.hid (show (Slots.Sl.cur ⟨⟨s, t, cap, dn⟩, ⟨p, q, cep, dm⟩, n⟩).cap = cap by simp [Slots.Sl.cur, hp0])
    have hp := Lib.hid hp0
    clear hp0
    go_wp2_with fail
    refine (slotOf_any n 0 hn0 hp.out _).mono ?_
    rintro e w3 ⟨rfl, rfl⟩
    by_cases hfull : cap < 12 + (b.length : Int)
    · have HM := Lib.hid (Slots.asked_full (s := ⟨⟨s, t, cap, dn⟩, ⟨p, q, cep, dm⟩, n⟩) HB.out HM1.out (by simp only; omega) (by rw [hcur.out]; exact hfull)).symm
      have hfull' : decide (cap < (L.length : Int)) = true := by simp; have := hlen2.out; omega
      clear hfull
      go_wp2
      go_ret2
      exact EncP.err HM.out (by decide) abA
    · have HM := Lib.hid (Slots.asked_ok (s := ⟨⟨s, t, cap, dn⟩, ⟨p, q, cep, dm⟩, n⟩) HB.out HM1.out (by simp only; omega) (by rw [hcur.out]; exact hfull)).symm
      have hfull' : decide (cap < (L.length : Int)) = false := by simp; have := hlen2.out; omega
      clear hfull
      go_wp2
      go_ret2
      exact ⟨0, L, E, c, HM, Lib.hid (fun _ => HL.out), rfl, oR, oE.le, by have := hlen2.out; have := HM1.out; omega, b2⟩
  · have hcur := Lib.hid (show (Slots.Sl.cur ⟨⟨s, t, cap, dn⟩, ⟨p, q, cep, dm⟩, n⟩).cap = cep by simp [Slots.Sl.cur, hp0])
    have hp := Lib.hid hp0
    clear hp0
    go_wp2_with fail
    refine (slotOf_any n 1 hn0 hp.out _).mono ?_
    rintro e w3 ⟨rfl, rfl⟩
    by_cases hfull : cep < 12 + (b.length : Int)
    · have HM := Lib.hid (Slots.asked_full (s := ⟨⟨s, t, cap, dn⟩, ⟨p, q, cep, dm⟩, n⟩) HB.out HM1.out (by simp only; omega) (by rw [hcur.out]; exact hfull)).symm
      have hfull' : decide (cep < (L.length : Int)) = true := by simp; have := hlen2.out; omega
      clear hfull
      go_wp2
      go_ret2
      exact EncP.err HM.out (by decide) abA
    · have HM := Lib.hid (Slots.asked_ok (s := ⟨⟨s, t, cap, dn⟩, ⟨p, q, cep, dm⟩, n⟩) HB.out HM1.out (by simp only; omega) (by rw [hcur.out]; exact hfull)).symm
      have hfull' : decide (cep < (L.length : Int)) = false := by simp; have := hlen2.out; omega
      clear hfull
      go_wp2
      go_ret2
      exact ⟨0, L, E, c, HM, Lib.hid (fun _ => HL.out), rfl, oR, oE.le, by have := hlen2.out; have := HM1.out; omega, b2⟩
end Go.Proofs.YthgcfjhnnhigoaaGreat

/- checkpoint and newest of package slots, walked. Own work. -/
namespace Go.Proofs.YthgcfjhnnhigoaaGreat
open Go.RowKit
open Slots (Sl)

theorem ck_scan {d : Disk.Dev} {i u : Int} {xs : List RecM} {er : Int} (h : ScanE d.all (recs xs) u er) (hl : d.all.length ≤ 20000) :
    er = 0 ∧ Slots.first d.all = (recs xs).head? := by
  rcases h with ⟨h, _⟩ | ⟨_, h0, n, _, hs⟩
  · omega
  · exact ⟨h0, Slots.first_scan hs⟩

theorem RetRecO.no {w w' : World} (hb : Ab w w') : RetRecO w none (.returned (.tuple #[.agg #[.int .i64 0, .slice none 0 0], .bool false])) w' :=
  ⟨⟨0, []⟩, false, none, 0, rfl, rfl, RB.nil, Nat.le_refl _, by simp, hb⟩

set_option maxRecDepth 100000 in
theorem checkpoint_any (A B : Option Addr) (ca cb : Nat) (s t : List UInt8) (cap : Int) (w : World) (hs : RB w 0 A s) (ht : RB w 0 B t) (hca : s.length ≤ ca) (hcb : t.length ≤ cb) (hnb : ¬ Disk.bad ⟨s, t, cap, false⟩) (i : Int) :
    Calls Tryz.prog 125 #[.agg #[.slice A s.length ca, .slice B t.length cb, .int .i64 cap, .bool false], .int .i64 i] w (RetRecO w (Slots.ck ⟨s, t, cap, false⟩ i)) := by
  have hsz := Disk.size_le hnb
  simp only [Disk.Dev.size] at hsz
  have ls : s.length ≤ 1000000 := by omega
  have lt : t.length ≤ 1000000 := by omega
  have HS := Lib.hid (show Disk.size ⟨s, t, cap, false⟩ = ((s.length : Int) + t.length, 0) by unfold Disk.size; rw [if_neg hnb]; simp [Disk.Dev.size])
  have HR := Lib.hid (show Disk.read ⟨s, t, cap, false⟩ 0 ((s.length : Int) + t.length) = (s ++ t, 0) by
    unfold Disk.read
    rw [if_neg (by rw [Disk.up_ok hnb rfl]; simp), if_neg (by simp only [Disk.Dev.size]; omega)]
    simp only [Disk.Dev.all, Int.toNat_zero, List.drop_zero]
    rw [List.take_of_length_le (by simp; omega)])
  have HL := Lib.hid (show s.length + t.length ≤ 20000 by omega)
  clear hsz hnb
  go_enter Tryz.func125, Tryz.ntmps125
  go_wp2_with fail
  refine (size_any A B ca cb s t cap false _ ls lt).mono ?_
  rintro e w1 ⟨z, er, hr, rfl, hb1⟩
  obtain ⟨rfl, rfl⟩ := Prod.mk.inj (hr.out.trans HS.out)
  clear hr
  have bq0 := hb1.at (p := ⟨w.heap.size, 0, none⟩) (v := .slice A s.length ca) ckA; have bq1 := hb1.at (p := ⟨w.heap.size, 1, none⟩) (v := .slice B t.length cb) ckA; have bq2 := hb1.at (p := ⟨w.heap.size, 2, none⟩) (v := .int .i64 cap) ckA; have bq3 := hb1.at (p := ⟨w.heap.size, 3, none⟩) (v := .bool false) ckA
  go_wp2_with fail
  refine (read_any A B ca cb s t cap false _ (hs.ab abA) (ht.ab abA) hca hcb ls lt 0 _ (by decide) (by decide)).mono ?_
  rintro e w2 ⟨L, er, E, c, hr, rfl, hE, hc, hb2⟩
  have HL2 := Lib.hid (Prod.mk.inj (hr.out.trans HR.out)).1
  have her := (Prod.mk.inj (hr.out.trans HR.out)).2
  clear hr
  obtain rfl := her
  have hLl : L.length ≤ 20000 := by rw [HL2.out, List.length_append]; exact HL.out
  go_wp2_with fail
  refine (scan_any E L c _ (hE.zero.ab abA) hc (by omega)).mono ?_
  rintro e w3 ⟨X, d, xs, u, er, hS, rfl, oX, hb3⟩
  obtain ⟨rfl, hF⟩ := ck_scan (d := ⟨L, [], 0, false⟩) (i := 0) (by simpa [Disk.Dev.all] using hS.out) (by simpa [Disk.Dev.all] using hLl)
  simp only [Disk.Dev.all, List.append_nil] at hF
  rw [HL2.out] at hF
  have HF := Lib.hid hF
  clear hF hS
  have hzz : Ab ((w.alloc (.cells #[.slice A s.length ca, .slice B t.length cb, .int .i64 cap, .bool false] 24)).alloc (.cells #[.int .i64 0, .slice none 0 0] 108)) w3 := abA
  have zq0 := hzz.at (p := ⟨w.heap.size + 1, 0, none⟩) (v := .int .i64 0) (by simp [go_sem])
  have zq1 := hzz.at (p := ⟨w.heap.size + 1, 1, none⟩) (v := .slice none 0 0) (by simp [go_sem])
  have zr0 : w3.frozen? ⟨w.heap.size + 1, 0, none⟩ = false := (hzz.frozen (p := ⟨w.heap.size + 1, 0, none⟩) wnA).trans (by simp [go_sem])
  have zr1 : w3.frozen? ⟨w.heap.size + 1, 1, none⟩ = false := (hzz.frozen (p := ⟨w.heap.size + 1, 1, none⟩) wnA).trans (by simp [go_sem])
  have b3 : Ab w w3 := abA
  rcases xs with _ | ⟨x, xs⟩
  · have HM := Lib.hid (show Slots.ck ⟨s, t, cap, false⟩ i = none by unfold Slots.ck; simp only [Disk.Dev.all]; rw [HF.out]; rfl)
    go_wp2
    refine bodyPost_ret (v := .tuple #[.agg #[.int .i64 0, .slice none 0 0], .bool false]) (by simp [results, Tryz.results125, go_sem, zq0, zq1]) rfl ?_
    rw [HM.out]
    exact RetRecO.no abA
  · have HF2 := Lib.hid (show Slots.first (s ++ t) = some ⟨x.num, x.b⟩ from HF.out)
    have hv := Slots.first_valid HF2.out
    have hn0 : 0 ≤ x.num := hv.1
    have HV := Lib.hid hv
    obtain ⟨a, rfl, ha, c0, c1, hlaid⟩ := oX.recs.at_ (k := 0) (by simp)
    simp only [List.getElem_cons_zero] at c0 c1 hlaid
    have d0 : w3.cell? a = some (.int .i64 x.num) := c0
    have d1 : w3.cell? ⟨a.block, a.off + 1, none⟩ = some (.slice x.A x.b.length x.c) := c1
    have hE3 : RB w3 (w.heap.size + 1 + 1) x.A x.b := hlaid.1.mono (by have := (show Ab ((w.alloc (.cells #[.slice A s.length ca, .slice B t.length cb, .int .i64 cap, .bool false] 24)).alloc (.cells #[.int .i64 0, .slice none 0 0] 108)) w2 from abA).size; simpa using this)
    have hlx := hlaid.2.1
    clear c0 c1 hlaid hv HF
    generalize hv : x.num % 2 = v
    have HD := Lib.hid hv
    have hpos : (0 : Int) < ((x :: xs).length : Int) := by simp
    have hl0 : ((xs.length : Int) + 1 == 0) = false := by simp; omega
    by_cases hi : v = i
    · have HM := Lib.hid (show Slots.ck ⟨s, t, cap, false⟩ i = some ⟨x.num, x.b⟩ by unfold Slots.ck; simp only [Disk.Dev.all]; rw [HF2.out]; simp only; rw [if_pos (by rw [HD.out]; exact hi)])
      clear hv
      go_wp2_with fail
      refine (slotOf_any x.num v hn0 HD.out _).mono ?_
      rintro e w4 ⟨rfl, rfl⟩
      go_wp2
      refine bodyPost_ret (v := .tuple #[.agg #[.int .i64 x.num, .slice x.A x.b.length x.c], .bool true]) (by simp [results, Tryz.results125, go_sem, zq0, zq1]) rfl ?_
      rw [HM.out]
      exact ⟨⟨x.num, x.b⟩, true, x.A, x.c, rfl, rfl, ((hE3.put wnA _).put wnA _).mono (by omega), hlx, fun _ => HV.out, abA⟩
    · have hvi : (v != i) = true := by simpa using hi
      have HM := Lib.hid (show Slots.ck ⟨s, t, cap, false⟩ i = none by unfold Slots.ck; simp only [Disk.Dev.all]; rw [HF2.out]; simp only; rw [if_neg (by rw [HD.out]; exact hi)])
      clear hv
      go_wp2_with fail
      refine (slotOf_any x.num v hn0 HD.out _).mono ?_
      rintro e w4 ⟨rfl, rfl⟩
      go_wp2
      refine bodyPost_ret (v := .tuple #[.agg #[.int .i64 0, .slice none 0 0], .bool false]) (by simp [results, Tryz.results125, go_sem, zq0, zq1]) rfl ?_
      rw [HM.out]
      exact RetRecO.no abA

/-- The checkpoint found so far (block k), and the result's record behind box k - 2. -/
def Fnd (w wr : World) (o : Option Frame.Rec) (so : Value) : Prop :=
  ∃ (ok : Bool) (num : Int) (A : Option Addr) (c : Nat) (b : List UInt8), so = .bool ok ∧ Hid (o = if ok then some ⟨num, b⟩ else none) ∧
    (wr.cell? ⟨w.heap.size + 1, 0, none⟩ = some (.int .i64 0) ∧ wr.cell? ⟨w.heap.size + 1, 1, none⟩ = some (.slice none 0 0) ∧
      wr.frozen? ⟨w.heap.size + 1, 0, none⟩ = false ∧ wr.frozen? ⟨w.heap.size + 1, 1, none⟩ = false) ∧
    (wr.cell? ⟨w.heap.size + 1 + 1, 0, none⟩ = some (.int .i64 num) ∧ wr.cell? ⟨w.heap.size + 1 + 1, 1, none⟩ = some (.slice A b.length c) ∧
      wr.frozen? ⟨w.heap.size + 1 + 1, 0, none⟩ = false ∧ wr.frozen? ⟨w.heap.size + 1 + 1, 1, none⟩ = false) ∧
    RB wr (w.heap.size + 1 + 1 + 1) A b ∧ b.length ≤ c ∧ (ok = true → Frame.Valid ⟨num, b⟩) ∧ Ab w wr ∧ w.heap.size + 1 + 1 + 1 ≤ wr.heap.size

set_option maxRecDepth 100000 in
theorem newest_any (m : AM) (r : Sl) (w : World) (h : SlM w 0 m r) (ha : Slots.Ok r.a) (hb : Slots.Ok r.b) :
    Calls Tryz.prog 104 #[.agg #[.slice m.A r.a.s.length m.ca, .slice m.B r.a.t.length m.cb, .int .i64 r.a.cap, .bool r.a.down, .slice m.C r.b.s.length m.cc, .slice m.D r.b.t.length m.cd, .int .i64 r.b.cap, .bool r.b.down, .int .i64 r.n]] w (RetRecO w (Slots.newest r)) := by
  obtain ⟨A, B, C, D, ca, cb, cc, cd⟩ := m
  obtain ⟨⟨s, t, cap, dn⟩, ⟨p, q, cep, dm⟩, n⟩ := r
  dsimp only
  obtain rfl : dn = false := ha.up
  obtain rfl : dm = false := hb.up
  have HA := Lib.hid ha.nb
  have HB := Lib.hid hb.nb
  clear ha hb
  go_enter Tryz.func104, Tryz.ntmps104
  go_wp2
  go_loopw [5, 12] (fun so i wr => ∃ o, Fnd w wr o so ∧ (i = .int .i64 0 ∧ Hid (o = none) ∨ i = .int .i64 1 ∧ Hid (o = Slots.ck ⟨s, t, cap, false⟩ 0) ∨ i = .int .i64 2 ∧ Hid (o = Slots.newest ⟨⟨s, t, cap, false⟩, ⟨p, q, cep, false⟩, n⟩))) (fun _ i _ => 2 - (intOf i).toNat)
  case atStart =>
    refine ⟨none, ⟨false, 0, none, 0, [], rfl, rfl, ⟨?_, ?_, ?_, ?_⟩, ⟨?_, ?_, ?_, ?_⟩, RB.nil, Nat.le_refl _, by simp, abA, ?_⟩, .inl ⟨rfl, rfl⟩⟩ <;> simp [go_sem]
  case round =>
    obtain ⟨o, ⟨ok, num, X, cx, x, rfl, hO, ⟨z0, z1, z2, z3⟩, ⟨f0, f1, f2, f3⟩, hX, hcx, hval, hab, hsz⟩, hi⟩ := hrel
    rcases hi with ⟨rfl, ho⟩ | ⟨rfl, ho⟩ | ⟨rfl, ho⟩
    · obtain rfl : ok = false := by
        have := hO.out.symm.trans ho.out
        cases ok
        · rfl
        · cases this
      go_wp2_with fail
      refine (checkpoint_any A B ca cb s t cap _ (h.a.ab abA) (h.b.ab abA) h.la h.lb HA.out 0).mono ?_
      rintro e w1 ⟨r1, ok1, X1, c1, h1, rfl, hX1, hc1, hv1, hb1⟩
      have bW : Ab wr w1 := abA
      have z0 := bW.at z0
      have z1 := bW.at z1
      have z2 := bW.fr (by simp only; omega) z2
      have z3 := bW.fr (by simp only; omega) z3
      have f0 := bW.at f0
      have f1 := bW.at f1
      have f2 := bW.fr (by simp only; omega) f2
      have f3 := bW.fr (by simp only; omega) f3
      have hX := hX.ab bW
      have hsz1 := Nat.le_trans hsz bW.size
      have hX1 : RB w1 (w.heap.size + 1 + 1 + 1) X1 r1.data := hX1.mono (by simp; omega)
      have hab1 := hab.trans bW
      have hold : w1.cell? ⟨w.heap.size, 8, none⟩ = w1.cell? ⟨w.heap.size, 8, none⟩ := rfl
      have nA := fun (o : Obj) (j : Nat) => World.cell?_alloc_lt w1 o ⟨w.heap.size + 1 + 1, j, none⟩ (by simp only; omega)
      have nB := fun (o : Obj) (j : Nat) => ((Ab.refl w1).alloc o).frozen (p := ⟨w.heap.size + 1 + 1, j, none⟩) (by simp only; omega)
      have nC := fun (o : Obj) (j : Nat) => World.cell?_alloc_lt w1 o ⟨w.heap.size + 1, j, none⟩ (by simp only; omega)
      have nD := fun (o : Obj) (j : Nat) => ((Ab.refl w1).alloc o).frozen (p := ⟨w.heap.size + 1, j, none⟩) (by simp only; omega)
      clear hold hb1
      have hne : w.heap.size + 1 + 1 ≠ w1.heap.size := by omega
      cases ok1 with
      | false =>
        go_wp2
        go_roundw
        case rel => exact ⟨none, ⟨false, num, X, cx, x, rfl, Lib.hid rfl, ⟨(by simp [go_sem, *]), (by simp [go_sem, *]), (by simp [go_sem, *]), (by simp [go_sem, *])⟩, ⟨(by simp [go_sem, *]), (by simp [go_sem, *]), (by simp [go_sem, *]), (by simp [go_sem, *])⟩, hX.ab ((Ab.refl w1).alloc _), hcx, (by simp), abA, by simp; omega⟩, .inr (.inl ⟨rfl, Lib.hid h1.out⟩)⟩
        case measure => (show 2 - (intOf _).toNat < 2 - (intOf _).toNat); simp only [intOf]; omega
      | true =>
        go_wp2
        go_roundw
        case rel => exact ⟨some r1, ⟨true, r1.num, X1, c1, r1.data, rfl, Lib.hid rfl, ⟨(by simp [go_sem, *]), (by simp [go_sem, *]), (by simp [go_sem, *]), (by simp [go_sem, *])⟩, ⟨(by simp [go_sem, *]), (by simp [go_sem, *]), (by simp [go_sem, *]), (by simp [go_sem, *])⟩, (((hX1.ab ((Ab.refl w1).alloc _)).put wnA _).put wnA _), hc1, (fun _ => by simpa using hv1), abA, by simp; omega⟩, .inr (.inl ⟨rfl, Lib.hid h1.out⟩)⟩
        case measure => (show 2 - (intOf _).toNat < 2 - (intOf _).toNat); simp only [intOf]; omega
    · go_wp2_with fail
      refine (checkpoint_any C D cc cd p q cep _ (h.c.ab abA) (h.d.ab abA) h.lc h.ld HB.out 1).mono ?_
      rintro e w1 ⟨r1, ok1, X1, c1, h1, rfl, hX1, hc1, hv1, hb1⟩
      have bW : Ab wr w1 := abA
      have z0 := bW.at z0
      have z1 := bW.at z1
      have z2 := bW.fr (by simp only; omega) z2
      have z3 := bW.fr (by simp only; omega) z3
      have f0 := bW.at f0
      have f1 := bW.at f1
      have f2 := bW.fr (by simp only; omega) f2
      have f3 := bW.fr (by simp only; omega) f3
      have hX := hX.ab bW
      have hsz1 := Nat.le_trans hsz bW.size
      have hX1 : RB w1 (w.heap.size + 1 + 1 + 1) X1 r1.data := hX1.mono (by simp; omega)
      have hab1 := hab.trans bW
      have hold : w1.cell? ⟨w.heap.size, 8, none⟩ = w1.cell? ⟨w.heap.size, 8, none⟩ := rfl
      have nA := fun (o : Obj) (j : Nat) => World.cell?_alloc_lt w1 o ⟨w.heap.size + 1 + 1, j, none⟩ (by simp only; omega)
      have nB := fun (o : Obj) (j : Nat) => ((Ab.refl w1).alloc o).frozen (p := ⟨w.heap.size + 1 + 1, j, none⟩) (by simp only; omega)
      have nC := fun (o : Obj) (j : Nat) => World.cell?_alloc_lt w1 o ⟨w.heap.size + 1, j, none⟩ (by simp only; omega)
      have nD := fun (o : Obj) (j : Nat) => ((Ab.refl w1).alloc o).frozen (p := ⟨w.heap.size + 1, j, none⟩) (by simp only; omega)
      clear hold hb1
      have hne : w.heap.size + 1 + 1 ≠ w1.heap.size := by omega
      cases ok with
      | false =>
        cases ok1 with
        | false =>
          go_wp2
          go_roundw
          case rel => exact ⟨none, ⟨false, num, X, cx, x, rfl, Lib.hid rfl, ⟨(by simp [go_sem, *]), (by simp [go_sem, *]), (by simp [go_sem, *]), (by simp [go_sem, *])⟩, ⟨(by simp [go_sem, *]), (by simp [go_sem, *]), (by simp [go_sem, *]), (by simp [go_sem, *])⟩, hX.ab ((Ab.refl w1).alloc _), hcx, (by simp), abA, by simp; omega⟩, .inr (.inr ⟨rfl, Lib.hid (by have e1 := ho.out; have e2 := h1.out; have e3 := hO.out; unfold Slots.newest; rw [← e1, ← e2, e3]; rfl)⟩)⟩
          case measure => (show 2 - (intOf _).toNat < 2 - (intOf _).toNat); simp only [intOf]; omega
        | true =>
          go_wp2
          go_roundw
          case rel => exact ⟨some r1, ⟨true, r1.num, X1, c1, r1.data, rfl, Lib.hid rfl, ⟨(by simp [go_sem, *]), (by simp [go_sem, *]), (by simp [go_sem, *]), (by simp [go_sem, *])⟩, ⟨(by simp [go_sem, *]), (by simp [go_sem, *]), (by simp [go_sem, *]), (by simp [go_sem, *])⟩, (((hX1.ab ((Ab.refl w1).alloc _)).put wnA _).put wnA _), hc1, (fun _ => by simpa using hv1), abA, by simp; omega⟩, .inr (.inr ⟨rfl, Lib.hid (by have e1 := ho.out; have e2 := h1.out; have e3 := hO.out; unfold Slots.newest; rw [← e1, ← e2, e3]; rfl)⟩)⟩
          case measure => (show 2 - (intOf _).toNat < 2 - (intOf _).toNat); simp only [intOf]; omega
      | true =>
        cases ok1 with
        | false =>
          go_wp2
          go_roundw
          case rel => exact ⟨some ⟨num, x⟩, ⟨true, num, X, cx, x, rfl, Lib.hid rfl, ⟨(by simp [go_sem, *]), (by simp [go_sem, *]), (by simp [go_sem, *]), (by simp [go_sem, *])⟩, ⟨(by simp [go_sem, *]), (by simp [go_sem, *]), (by simp [go_sem, *]), (by simp [go_sem, *])⟩, hX.ab ((Ab.refl w1).alloc _), hcx, (by simpa using hval), abA, by simp; omega⟩, .inr (.inr ⟨rfl, Lib.hid (by have e1 := ho.out; have e2 := h1.out; have e3 := hO.out; unfold Slots.newest; rw [← e1, ← e2, e3]; rfl)⟩)⟩
          case measure => (show 2 - (intOf _).toNat < 2 - (intOf _).toNat); simp only [intOf]; omega
        | true =>
          by_cases hlt : num < r1.num
          · have hlt' : decide (num < r1.num) = true := by simpa using hlt
            have HLT := Lib.hid hlt
            clear hlt
            go_wp2
            go_roundw
            case rel => exact ⟨some r1, ⟨true, r1.num, X1, c1, r1.data, rfl, Lib.hid rfl, ⟨(by simp [go_sem, *]), (by simp [go_sem, *]), (by simp [go_sem, *]), (by simp [go_sem, *])⟩, ⟨(by simp [go_sem, *]), (by simp [go_sem, *]), (by simp [go_sem, *]), (by simp [go_sem, *])⟩, (((hX1.ab ((Ab.refl w1).alloc _)).put wnA _).put wnA _), hc1, (fun _ => by simpa using hv1), abA, by simp; omega⟩, .inr (.inr ⟨rfl, Lib.hid (by have e1 := ho.out; have e2 := h1.out; have e3 := hO.out; unfold Slots.newest; rw [← e1, ← e2, e3]; exact (if_pos HLT.out).symm)⟩)⟩
            case measure => (show 2 - (intOf _).toNat < 2 - (intOf _).toNat); simp only [intOf]; omega
          · have hlt' : decide (num < r1.num) = false := by simpa using hlt
            have HLT := Lib.hid hlt
            clear hlt
            go_wp2
            go_roundw
            case rel => exact ⟨some ⟨num, x⟩, ⟨true, num, X, cx, x, rfl, Lib.hid rfl, ⟨(by simp [go_sem, *]), (by simp [go_sem, *]), (by simp [go_sem, *]), (by simp [go_sem, *])⟩, ⟨(by simp [go_sem, *]), (by simp [go_sem, *]), (by simp [go_sem, *]), (by simp [go_sem, *])⟩, hX.ab ((Ab.refl w1).alloc _), hcx, (by simpa using hval), abA, by simp; omega⟩, .inr (.inr ⟨rfl, Lib.hid (by have e1 := ho.out; have e2 := h1.out; have e3 := hO.out; unfold Slots.newest; rw [← e1, ← e2, e3]; exact (if_neg (show ¬ num < r1.num by have := HLT.out; omega)).symm)⟩)⟩
            case measure => (show 2 - (intOf _).toNat < 2 - (intOf _).toNat); simp only [intOf]; omega
    · go_wp2
      refine bodyPost_ret (v := .tuple #[.agg #[.int .i64 num, .slice X x.length cx], .bool ok]) (by simp [results, Tryz.results104, go_sem, *]) rfl ?_
      exact ⟨⟨num, x⟩, ok, X, cx, Lib.hid (hO.out.symm.trans ho.out), rfl, ((hX.put wnA _).put wnA _).mono (by omega), hcx, by simpa using hval, abA⟩
end Go.Proofs.YthgcfjhnnhigoaaGreat

/- Load and New of package slots, walked. Own work. -/
namespace Go.Proofs.YthgcfjhnnhigoaaGreat
open Go.RowKit
open Slots (Sl)

theorem RetNum3.err {w w' : World} {m : Int × List UInt8 × Int} {er : Int} (h : (0, [], er) = m) (hb : Ab w w') : RetNum3 w m (.returned (.tuple #[.int .i64 0, .slice none 0 0, .int .i64 er])) w' :=
  ⟨0, er, [], none, 0, h, rfl, RB.nil, Nat.le_refl _, by simp, hb⟩

set_option maxRecDepth 100000 in
theorem load_any (m : AM) (r : Sl) (w : World) (h : SlM w 0 m r) :
    Calls Tryz.prog 94 #[.agg #[.slice m.A r.a.s.length m.ca, .slice m.B r.a.t.length m.cb, .int .i64 r.a.cap, .bool r.a.down, .slice m.C r.b.s.length m.cc, .slice m.D r.b.t.length m.cd, .int .i64 r.b.cap, .bool r.b.down, .int .i64 r.n]] w (RetNum3 w (Slots.load r)) := by
  obtain ⟨A, B, C, D, ca, cb, cc, cd⟩ := m
  obtain ⟨⟨s, t, cap, dn⟩, ⟨p, q, cep, dm⟩, n⟩ := r
  dsimp only
  go_enter Tryz.func94, Tryz.ntmps94
  go_wp2_with fail
  refine (scheck_any ⟨A, B, C, D, ca, cb, cc, cd⟩ ⟨⟨s, t, cap, dn⟩, ⟨p, q, cep, dm⟩, n⟩ _ (h.ab abA)).mono ?_
  rintro e w1 ⟨er, hr, rfl, hb1⟩
  by_cases hbad : Slots.bad ⟨⟨s, t, cap, dn⟩, ⟨p, q, cep, dm⟩, n⟩
  · obtain rfl : er = 8 := hr.out.trans (Slots.check_bad hbad)
    have HM := Lib.hid (show (0, [], 8) = Slots.load ⟨⟨s, t, cap, dn⟩, ⟨p, q, cep, dm⟩, n⟩ from (if_pos hbad).symm)
    go_wp2
    go_ret3
    exact RetNum3.err HM.out abA
  obtain rfl : er = 0 := hr.out.trans (Slots.check_ok hbad)
  have HG := Lib.hid (Slots.good_of hbad)
  have HB := Lib.hid (show Slots.load ⟨⟨s, t, cap, dn⟩, ⟨p, q, cep, dm⟩, n⟩ = Slots.found (Slots.newest ⟨⟨s, t, cap, dn⟩, ⟨p, q, cep, dm⟩, n⟩) from if_neg hbad)
  clear hr hbad
  have bq0 := hb1.at (p := ⟨w.heap.size, 0, none⟩) (v := .slice A s.length ca) ckA; have bq1 := hb1.at (p := ⟨w.heap.size, 1, none⟩) (v := .slice B t.length cb) ckA; have bq2 := hb1.at (p := ⟨w.heap.size, 2, none⟩) (v := .int .i64 cap) ckA; have bq3 := hb1.at (p := ⟨w.heap.size, 3, none⟩) (v := .bool dn) ckA; have bq4 := hb1.at (p := ⟨w.heap.size, 4, none⟩) (v := .slice C p.length cc) ckA; have bq5 := hb1.at (p := ⟨w.heap.size, 5, none⟩) (v := .slice D q.length cd) ckA; have bq6 := hb1.at (p := ⟨w.heap.size, 6, none⟩) (v := .int .i64 cep) ckA; have bq7 := hb1.at (p := ⟨w.heap.size, 7, none⟩) (v := .bool dm) ckA; have bq8 := hb1.at (p := ⟨w.heap.size, 8, none⟩) (v := .int .i64 n) ckA
  go_wp2_with fail
  refine (newest_any ⟨A, B, C, D, ca, cb, cc, cd⟩ ⟨⟨s, t, cap, dn⟩, ⟨p, q, cep, dm⟩, n⟩ _ (h.ab abA) HG.out.a HG.out.b).mono ?_
  rintro e w2 ⟨r1, ok1, X1, c1, h1, rfl, hX1, hc1, hv1, hb2⟩
  have hX : RB w2 w.heap.size X1 r1.data := hX1.mono (show Ab w w1 from abA).size
  have b2 : Ab w w2 := abA
  cases ok1 with
  | false =>
    have HM := Lib.hid (show (0, [], 6) = Slots.load ⟨⟨s, t, cap, dn⟩, ⟨p, q, cep, dm⟩, n⟩ by rw [HB.out, ← h1.out]; rfl)
    go_wp2
    go_ret3
    exact RetNum3.err HM.out abA
  | true =>
    have HM := Lib.hid (show (r1.num, r1.data, 0) = Slots.load ⟨⟨s, t, cap, dn⟩, ⟨p, q, cep, dm⟩, n⟩ by rw [HB.out, ← h1.out]; rfl)
    have hl := (hv1 rfl).2.2
    have HV := Lib.hid (hv1 rfl)
    clear hv1
    go_upto_region 7 with fail
    go_quiet (fail)
    go_wp2
    go_ret3
    exact ⟨r1.num, 0, r1.data, X1, c1, HM, rfl, hX.ab abA, hc1, hl, abA⟩
end Go.Proofs.YthgcfjhnnhigoaaGreat

/- Open of package slots, walked. Own work. -/
namespace Go.Proofs.YthgcfjhnnhigoaaGreat
open Go.RowKit
open Slots (Sl)
open Disk (Dev)

theorem SlM.num {w : World} {lo : Nat} {m : AM} {r : Sl} (h : SlM w lo m r) (n : Int) : SlM w lo m ⟨r.a, r.b, n⟩ := ⟨h.a, h.b, h.c, h.d, h.la, h.lb, h.lc, h.ld, h.sa, h.sb, h.sc, h.sd⟩
/-- The variable and the result of Open. -/
def OpSt (w wr : World) (m : AM) (r : Sl) : Prop :=
  SlB wr (w.heap.size + 1) AM.nil Slots.zero ∧ SlB wr w.heap.size m r ∧ Ab w wr ∧ w.heap.size + 1 + 1 ≤ wr.heap.size
/-- Both devices are open. -/
def OpRow (w wr : World) (m m' : AM) (r r' : Sl) (i : Value) : Prop :=
  (i = .int .i64 0 ∧ Hid (m' = m) ∧ Hid (r' = r)) ∨
  (i = .int .i64 1 ∧ Hid (¬ Disk.bad r.a) ∧ Hid (r' = ⟨Slots.op r.a, r.b, r.n⟩) ∧ m'.C = m.C ∧ m'.D = m.D ∧ m'.cc = m.cc ∧ m'.cd = m.cd ∧ RB wr (w.heap.size + 1 + 1) m'.A r'.a.s ∧ RB wr (w.heap.size + 1 + 1) m'.B r'.a.t ∧ r'.a.s.length ≤ m'.ca ∧ r'.a.t.length ≤ m'.cb) ∨
  (i = .int .i64 2 ∧ Hid (¬ Disk.bad r.a) ∧ Hid (¬ Disk.bad r.b) ∧ Hid (r' = ⟨Slots.op r.a, Slots.op r.b, r.n⟩) ∧ SlM wr (w.heap.size + 1 + 1) m' r')

set_option maxHeartbeats 1600000 in
set_option maxRecDepth 100000 in
theorem sopen_any (m : AM) (r : Sl) (w : World) (h : SlM w 0 m r) :
    Calls Tryz.prog 68 #[.agg #[.slice m.A r.a.s.length m.ca, .slice m.B r.a.t.length m.cb, .int .i64 r.a.cap, .bool r.a.down, .slice m.C r.b.s.length m.cc, .slice m.D r.b.t.length m.cd, .int .i64 r.b.cap, .bool r.b.down, .int .i64 r.n]] w (RetSlE w (Slots.open_ r)) := by
  obtain ⟨A, B, C, D, ca, cb, cc, cd⟩ := m
  obtain ⟨⟨s, t, cap, dn⟩, ⟨p, q, cep, dm⟩, n⟩ := r
  dsimp only
  go_enter Tryz.func68, Tryz.ntmps68
  go_wp2
  go_loopw [11] (fun i wr => ∃ m' r', OpSt w wr m' r' ∧ OpRow w wr (⟨A, B, C, D, ca, cb, cc, cd⟩ : AM) m' (⟨⟨s, t, cap, dn⟩, ⟨p, q, cep, dm⟩, n⟩ : Sl) r' i) (fun i _ => 2 - (intOf i).toNat)
  case atStart =>
    refine ⟨(⟨A, B, C, D, ca, cb, cc, cd⟩ : AM), (⟨⟨s, t, cap, dn⟩, ⟨p, q, cep, dm⟩, n⟩ : Sl), ⟨SlB.box (new_plain (by simp)), SlB.box (old_alloc (new_plain rfl)), abA, by simp⟩, .inl ⟨rfl, rfl, rfl⟩⟩
  case round =>
    obtain ⟨m', r', ⟨hz, hv, hab, hsz⟩, hi⟩ := hrel
    rcases hi with ⟨rfl, hm0, hr0⟩ | ⟨rfl, hna, hr', e1, e2, e3, e4, ra, rb, la, lb⟩ | ⟨rfl, hna, hnb, hr', hM⟩
    · go_wp2_with fail
      refine (check_any A B ca cb s t cap dn _ h.sa h.sb).mono ?_
      rintro e w1 ⟨er, hr, rfl, hb1⟩
      have bW : Ab wr w1 := abA
      have hsz1 := Nat.le_trans hsz bW.size
      have dq0 := hb1.at (p := ⟨wr.heap.size, 0, none⟩) (v := .slice A s.length ca) ckA; have dq1 := hb1.at (p := ⟨wr.heap.size, 1, none⟩) (v := .slice B t.length cb) ckA; have dq2 := hb1.at (p := ⟨wr.heap.size, 2, none⟩) (v := .int .i64 cap) ckA; have dq3 := hb1.at (p := ⟨wr.heap.size, 3, none⟩) (v := .bool dn) ckA
      have dg0 : w1.frozen? ⟨wr.heap.size, 0, none⟩ = false := (hb1.frozen (p := ⟨wr.heap.size, 0, none⟩) wnA).trans (by simp [go_sem]); have dg1 : w1.frozen? ⟨wr.heap.size, 1, none⟩ = false := (hb1.frozen (p := ⟨wr.heap.size, 1, none⟩) wnA).trans (by simp [go_sem]); have dg2 : w1.frozen? ⟨wr.heap.size, 2, none⟩ = false := (hb1.frozen (p := ⟨wr.heap.size, 2, none⟩) wnA).trans (by simp [go_sem]); have dg3 : w1.frozen? ⟨wr.heap.size, 3, none⟩ = false := (hb1.frozen (p := ⟨wr.heap.size, 3, none⟩) wnA).trans (by simp [go_sem])
      have zd : wr.heap.size < w1.heap.size := cell_lt dq0
      have ne1 : w.heap.size ≠ wr.heap.size := by omega
      have ne2 : w.heap.size + 1 ≠ wr.heap.size := by omega
      have ne3 : wr.heap.size ≠ w.heap.size := by omega
      have ne4 : wr.heap.size ≠ w.heap.size + 1 := by omega
      have HV := hv.ab bW
      have HZ := hz.ab bW
      clear hb1
      by_cases hbd : Disk.bad ⟨s, t, cap, dn⟩
      · obtain rfl : er = 8 := hr.out.trans (Disk.check_bad hbd)
        have HM := Lib.hid (show Slots.open_ (⟨⟨s, t, cap, dn⟩, ⟨p, q, cep, dm⟩, n⟩ : Sl) = (Slots.zero, 8) from if_pos (Or.inl hbd))
        obtain ⟨zq0, zq1, zq2, zq3, zq4, zq5, zq6, zq7, zq8, zg0, zg1, zg2, zg3, zg4, zg5, zg6, zg7, zg8⟩ := HZ
        (try simp only [AM.nil, Slots.zero, Disk.zero, List.length_nil] at zq0 zq1 zq2 zq3 zq4 zq5 zq6 zq7 zq8)
        clear hr hbd
        go_wp2
        refine bodyPost_ret (v := .tuple #[(.agg #[.slice none 0 0, .slice none 0 0, .int .i64 0, .bool false, .slice none 0 0, .slice none 0 0, .int .i64 0, .bool false, .int .i64 0]), .int .i64 8]) (by simp [results, Tryz.results68, go_sem, *]) rfl ?_
        exact RetSlE.zero HM.out.symm abA
      obtain rfl : er = 0 := hr.out.trans (Disk.check_ok hbd)
      have HN := Lib.hid hbd
      clear hr
      cases dn with
      | true =>
        have HST := Lib.hid (Slots.op_start hbd)
        have HSY := Lib.hid (Slots.op_down hbd)
        have HSM := Lib.hid (Slots.small_op hbd)
        clear hbd
        go_wp2_with fail
        refine (start_any A B ca cb s t cap true _ (RB.ab h.a abA) (RB.ab h.b abA) h.la h.lb h.sa h.sb).mono ?_
        rintro e w2 ⟨r1, er1, D1, E1, cd1, ce1, hr1, rfl, o11, o21, hb2⟩
        have hr1' := Lib.hid (show r1 = ⟨s, [], cap, false⟩ from (Prod.mk.inj (hr1.out.trans HST.out)).1)
        have l1 : r1.s.length ≤ 1000000 ∧ r1.t.length ≤ 1000000 := by rw [hr1'.out]; exact ⟨h.sa, Nat.zero_le _⟩
        have HL := Lib.hid l1
        clear hr1 l1
        have dq0 := hb2.at dq0
        have dq1 := hb2.at dq1
        have dq2 := hb2.at dq2
        have dq3 := hb2.at dq3
        have dg0 := hb2.fr zd dg0
        have dg1 := hb2.fr zd dg1
        have dg2 := hb2.fr zd dg2
        have dg3 := hb2.fr zd dg3
        have HV := HV.ab hb2
        have HZ := HZ.ab hb2
        have zz2 := Nat.le_trans hsz1 hb2.size
        have zd2 := Nat.lt_of_lt_of_le zd hb2.size
        have p1 : RB w2 (wr.heap.size + 1) D1 r1.s := o11.rb.mono zd
        have p2 : RB w2 (wr.heap.size + 1) E1 r1.t := o21.rb.mono zd
        have k1 := o11.le
        have k2 := o21.le
        clear o11 o21
        go_wp2_with fail
        refine (sync_any D1 E1 cd1 ce1 r1.s r1.t r1.cap r1.down _ (RB.zero (lo := wr.heap.size + 1) (by repeat (first | with_reducible assumption | with_reducible refine RB.put ?_ wnA _ | (with_reducible refine RB.ab ?_ (by assumption))))) (RB.zero (lo := wr.heap.size + 1) (by repeat (first | with_reducible assumption | with_reducible refine RB.put ?_ wnA _ | (with_reducible refine RB.ab ?_ (by assumption))))) k1 k2 HL.out.1 HL.out.2).mono ?_
        rintro e w3 ⟨r3, er3, D3, E3, cd3, ce3, hr3, rfl, o1, o2, hb3⟩
        have HO := Lib.hid (show r3 = Slots.op ⟨s, t, cap, true⟩ from (Prod.mk.inj (hr3.out.trans ((congrArg Disk.sync (show (⟨r1.s, r1.t, r1.cap, r1.down⟩ : Dev) = _ from hr1'.out)).trans HSY.out))).1)
        obtain ⟨vq0, vq1, vq2, vq3, vq4, vq5, vq6, vq7, vq8, vg0, vg1, vg2, vg3, vg4, vg5, vg6, vg7, vg8⟩ := HV
        (try simp only [AM.nil, Slots.zero, Disk.zero, List.length_nil] at vq0 vq1 vq2 vq3 vq4 vq5 vq6 vq7 vq8)
        obtain ⟨zq0, zq1, zq2, zq3, zq4, zq5, zq6, zq7, zq8, zg0, zg1, zg2, zg3, zg4, zg5, zg6, zg7, zg8⟩ := HZ
        (try simp only [AM.nil, Slots.zero, Disk.zero, List.length_nil] at zq0 zq1 zq2 zq3 zq4 zq5 zq6 zq7 zq8)
        skip
        have hv3 : SlB w3 w.heap.size m' r' := ⟨hb3.at (by simp [go_sem, *]), hb3.at (by simp [go_sem, *]), hb3.at (by simp [go_sem, *]), hb3.at (by simp [go_sem, *]), hb3.at (by simp [go_sem, *]), hb3.at (by simp [go_sem, *]), hb3.at (by simp [go_sem, *]), hb3.at (by simp [go_sem, *]), hb3.at (by simp [go_sem, *]), (hb3.frozen wnA).trans (by simp [go_sem, *]), (hb3.frozen wnA).trans (by simp [go_sem, *]), (hb3.frozen wnA).trans (by simp [go_sem, *]), (hb3.frozen wnA).trans (by simp [go_sem, *]), (hb3.frozen wnA).trans (by simp [go_sem, *]), (hb3.frozen wnA).trans (by simp [go_sem, *]), (hb3.frozen wnA).trans (by simp [go_sem, *]), (hb3.frozen wnA).trans (by simp [go_sem, *]), (hb3.frozen wnA).trans (by simp [go_sem, *])⟩
        have hz3 : SlB w3 (w.heap.size + 1) AM.nil Slots.zero := ⟨hb3.at (by simp [go_sem, AM.nil, Slots.zero, Disk.zero, *]), hb3.at (by simp [go_sem, AM.nil, Slots.zero, Disk.zero, *]), hb3.at (by simp [go_sem, AM.nil, Slots.zero, Disk.zero, *]), hb3.at (by simp [go_sem, AM.nil, Slots.zero, Disk.zero, *]), hb3.at (by simp [go_sem, AM.nil, Slots.zero, Disk.zero, *]), hb3.at (by simp [go_sem, AM.nil, Slots.zero, Disk.zero, *]), hb3.at (by simp [go_sem, AM.nil, Slots.zero, Disk.zero, *]), hb3.at (by simp [go_sem, AM.nil, Slots.zero, Disk.zero, *]), hb3.at (by simp [go_sem, AM.nil, Slots.zero, Disk.zero, *]), (hb3.frozen wnA).trans (by simp [go_sem, *]), (hb3.frozen wnA).trans (by simp [go_sem, *]), (hb3.frozen wnA).trans (by simp [go_sem, *]), (hb3.frozen wnA).trans (by simp [go_sem, *]), (hb3.frozen wnA).trans (by simp [go_sem, *]), (hb3.frozen wnA).trans (by simp [go_sem, *]), (hb3.frozen wnA).trans (by simp [go_sem, *]), (hb3.frozen wnA).trans (by simp [go_sem, *]), (hb3.frozen wnA).trans (by simp [go_sem, *])⟩
        have zz3 : w.heap.size + 1 + 1 ≤ w3.heap.size := Nat.le_trans zz2 (by have := hb3.size; first | omega | (simp at this; omega))
        have hD3 : RB w3 (w.heap.size + 1 + 1) D3 r3.s := o1.rb.mono wnA
        have hE3 : RB w3 (w.heap.size + 1 + 1) E3 r3.t := o2.rb.mono wnA
        have b3 : Ab w w3 := abA
        have k3 := o1.le
        have j3 := o2.le
        have s3 := Lib.hid (show Slots.Small r3 by rw [HO.out]; exact HSM.out)
        (try clear HV)
        (try clear HZ)
        clear hr3 o1 o2 vq0 vq1 vq2 vq3 vq4 vq5 vq6 vq7 vq8 vg0 vg1 vg2 vg3 vg4 vg5 vg6 vg7 vg8 zq0 zq1 zq2 zq3 zq4 zq5 zq6 zq7 zq8 zg0 zg1 zg2 zg3 zg4 zg5 zg6 zg7 zg8
        obtain ⟨vq0, vq1, vq2, vq3, vq4, vq5, vq6, vq7, vq8, vg0, vg1, vg2, vg3, vg4, vg5, vg6, vg7, vg8⟩ := hv3
        (try simp only [AM.nil, Slots.zero, Disk.zero, List.length_nil] at vq0 vq1 vq2 vq3 vq4 vq5 vq6 vq7 vq8)
        obtain ⟨zq0, zq1, zq2, zq3, zq4, zq5, zq6, zq7, zq8, zg0, zg1, zg2, zg3, zg4, zg5, zg6, zg7, zg8⟩ := hz3
        (try simp only [AM.nil, Slots.zero, Disk.zero, List.length_nil] at zq0 zq1 zq2 zq3 zq4 zq5 zq6 zq7 zq8)
        go_wp2
        go_roundw
        case rel => exact ⟨⟨D3, E3, m'.C, m'.D, cd3, ce3, m'.cc, m'.cd⟩, ⟨r3, r'.b, r'.n⟩, ⟨⟨(by simp [go_sem, AM.nil, Slots.zero, Disk.zero, *]), (by simp [go_sem, AM.nil, Slots.zero, Disk.zero, *]), (by simp [go_sem, AM.nil, Slots.zero, Disk.zero, *]), (by simp [go_sem, AM.nil, Slots.zero, Disk.zero, *]), (by simp [go_sem, AM.nil, Slots.zero, Disk.zero, *]), (by simp [go_sem, AM.nil, Slots.zero, Disk.zero, *]), (by simp [go_sem, AM.nil, Slots.zero, Disk.zero, *]), (by simp [go_sem, AM.nil, Slots.zero, Disk.zero, *]), (by simp [go_sem, AM.nil, Slots.zero, Disk.zero, *]), (by simp [go_sem, AM.nil, Slots.zero, Disk.zero, *]), (by simp [go_sem, AM.nil, Slots.zero, Disk.zero, *]), (by simp [go_sem, AM.nil, Slots.zero, Disk.zero, *]), (by simp [go_sem, AM.nil, Slots.zero, Disk.zero, *]), (by simp [go_sem, AM.nil, Slots.zero, Disk.zero, *]), (by simp [go_sem, AM.nil, Slots.zero, Disk.zero, *]), (by simp [go_sem, AM.nil, Slots.zero, Disk.zero, *]), (by simp [go_sem, AM.nil, Slots.zero, Disk.zero, *]), (by simp [go_sem, AM.nil, Slots.zero, Disk.zero, *])⟩, ⟨(by simp [go_sem, *]), (by simp [go_sem, *]), (by simp [go_sem, *]), (by simp [go_sem, *]), (by simp [go_sem, *]), (by simp [go_sem, *]), (by simp [go_sem, *]), (by simp [go_sem, *]), (by simp [go_sem, *]), (by simp [go_sem, *]), (by simp [go_sem, *]), (by simp [go_sem, *]), (by simp [go_sem, *]), (by simp [go_sem, *]), (by simp [go_sem, *]), (by simp [go_sem, *]), (by simp [go_sem, *]), (by simp [go_sem, *])⟩, abA, by simp; omega⟩, .inr (.inl ⟨rfl, HN, Lib.hid (by rw [hr0.out, HO.out]), (show m'.C = C from congrArg AM.C hm0.out), (show m'.D = D from congrArg AM.D hm0.out), (show m'.cc = cc from congrArg AM.cc hm0.out), (show m'.cd = cd from congrArg AM.cd hm0.out), (by repeat (first | with_reducible assumption | with_reducible refine RB.put ?_ wnA _ | (with_reducible refine RB.ab ?_ (by assumption)))), (by repeat (first | with_reducible assumption | with_reducible refine RB.put ?_ wnA _ | (with_reducible refine RB.ab ?_ (by assumption)))), k3, j3⟩)⟩
        case measure => (show 2 - (intOf _).toNat < 2 - (intOf _).toNat); simp only [intOf]; omega
      | false =>
        have HSY := Lib.hid (Slots.op_up hbd)
        have HSM := Lib.hid (Slots.small_op hbd)
        clear hbd
        go_wp2_with fail
        refine (sync_any A B ca cb s t cap false _ (RB.ab h.a abA) (RB.ab h.b abA) h.la h.lb h.sa h.sb).mono ?_
        rintro e w3 ⟨r3, er3, D3, E3, cd3, ce3, hr3, rfl, o1, o2, hb3⟩
        have HO := Lib.hid (show r3 = Slots.op ⟨s, t, cap, false⟩ from (Prod.mk.inj (hr3.out.trans HSY.out)).1)
        obtain ⟨vq0, vq1, vq2, vq3, vq4, vq5, vq6, vq7, vq8, vg0, vg1, vg2, vg3, vg4, vg5, vg6, vg7, vg8⟩ := HV
        (try simp only [AM.nil, Slots.zero, Disk.zero, List.length_nil] at vq0 vq1 vq2 vq3 vq4 vq5 vq6 vq7 vq8)
        obtain ⟨zq0, zq1, zq2, zq3, zq4, zq5, zq6, zq7, zq8, zg0, zg1, zg2, zg3, zg4, zg5, zg6, zg7, zg8⟩ := HZ
        (try simp only [AM.nil, Slots.zero, Disk.zero, List.length_nil] at zq0 zq1 zq2 zq3 zq4 zq5 zq6 zq7 zq8)
        skip
        have hv3 : SlB w3 w.heap.size m' r' := ⟨hb3.at (by simp [go_sem, *]), hb3.at (by simp [go_sem, *]), hb3.at (by simp [go_sem, *]), hb3.at (by simp [go_sem, *]), hb3.at (by simp [go_sem, *]), hb3.at (by simp [go_sem, *]), hb3.at (by simp [go_sem, *]), hb3.at (by simp [go_sem, *]), hb3.at (by simp [go_sem, *]), (hb3.frozen wnA).trans (by simp [go_sem, *]), (hb3.frozen wnA).trans (by simp [go_sem, *]), (hb3.frozen wnA).trans (by simp [go_sem, *]), (hb3.frozen wnA).trans (by simp [go_sem, *]), (hb3.frozen wnA).trans (by simp [go_sem, *]), (hb3.frozen wnA).trans (by simp [go_sem, *]), (hb3.frozen wnA).trans (by simp [go_sem, *]), (hb3.frozen wnA).trans (by simp [go_sem, *]), (hb3.frozen wnA).trans (by simp [go_sem, *])⟩
        have hz3 : SlB w3 (w.heap.size + 1) AM.nil Slots.zero := ⟨hb3.at (by simp [go_sem, AM.nil, Slots.zero, Disk.zero, *]), hb3.at (by simp [go_sem, AM.nil, Slots.zero, Disk.zero, *]), hb3.at (by simp [go_sem, AM.nil, Slots.zero, Disk.zero, *]), hb3.at (by simp [go_sem, AM.nil, Slots.zero, Disk.zero, *]), hb3.at (by simp [go_sem, AM.nil, Slots.zero, Disk.zero, *]), hb3.at (by simp [go_sem, AM.nil, Slots.zero, Disk.zero, *]), hb3.at (by simp [go_sem, AM.nil, Slots.zero, Disk.zero, *]), hb3.at (by simp [go_sem, AM.nil, Slots.zero, Disk.zero, *]), hb3.at (by simp [go_sem, AM.nil, Slots.zero, Disk.zero, *]), (hb3.frozen wnA).trans (by simp [go_sem, *]), (hb3.frozen wnA).trans (by simp [go_sem, *]), (hb3.frozen wnA).trans (by simp [go_sem, *]), (hb3.frozen wnA).trans (by simp [go_sem, *]), (hb3.frozen wnA).trans (by simp [go_sem, *]), (hb3.frozen wnA).trans (by simp [go_sem, *]), (hb3.frozen wnA).trans (by simp [go_sem, *]), (hb3.frozen wnA).trans (by simp [go_sem, *]), (hb3.frozen wnA).trans (by simp [go_sem, *])⟩
        have zz3 : w.heap.size + 1 + 1 ≤ w3.heap.size := Nat.le_trans hsz1 (by have := hb3.size; first | omega | (simp at this; omega))
        have hD3 : RB w3 (w.heap.size + 1 + 1) D3 r3.s := o1.rb.mono wnA
        have hE3 : RB w3 (w.heap.size + 1 + 1) E3 r3.t := o2.rb.mono wnA
        have b3 : Ab w w3 := abA
        have k3 := o1.le
        have j3 := o2.le
        have s3 := Lib.hid (show Slots.Small r3 by rw [HO.out]; exact HSM.out)
        (try clear HV)
        (try clear HZ)
        clear hr3 o1 o2 vq0 vq1 vq2 vq3 vq4 vq5 vq6 vq7 vq8 vg0 vg1 vg2 vg3 vg4 vg5 vg6 vg7 vg8 zq0 zq1 zq2 zq3 zq4 zq5 zq6 zq7 zq8 zg0 zg1 zg2 zg3 zg4 zg5 zg6 zg7 zg8
        obtain ⟨vq0, vq1, vq2, vq3, vq4, vq5, vq6, vq7, vq8, vg0, vg1, vg2, vg3, vg4, vg5, vg6, vg7, vg8⟩ := hv3
        (try simp only [AM.nil, Slots.zero, Disk.zero, List.length_nil] at vq0 vq1 vq2 vq3 vq4 vq5 vq6 vq7 vq8)
        obtain ⟨zq0, zq1, zq2, zq3, zq4, zq5, zq6, zq7, zq8, zg0, zg1, zg2, zg3, zg4, zg5, zg6, zg7, zg8⟩ := hz3
        (try simp only [AM.nil, Slots.zero, Disk.zero, List.length_nil] at zq0 zq1 zq2 zq3 zq4 zq5 zq6 zq7 zq8)
        go_wp2
        go_roundw
        case rel => exact ⟨⟨D3, E3, m'.C, m'.D, cd3, ce3, m'.cc, m'.cd⟩, ⟨r3, r'.b, r'.n⟩, ⟨⟨(by simp [go_sem, AM.nil, Slots.zero, Disk.zero, *]), (by simp [go_sem, AM.nil, Slots.zero, Disk.zero, *]), (by simp [go_sem, AM.nil, Slots.zero, Disk.zero, *]), (by simp [go_sem, AM.nil, Slots.zero, Disk.zero, *]), (by simp [go_sem, AM.nil, Slots.zero, Disk.zero, *]), (by simp [go_sem, AM.nil, Slots.zero, Disk.zero, *]), (by simp [go_sem, AM.nil, Slots.zero, Disk.zero, *]), (by simp [go_sem, AM.nil, Slots.zero, Disk.zero, *]), (by simp [go_sem, AM.nil, Slots.zero, Disk.zero, *]), (by simp [go_sem, AM.nil, Slots.zero, Disk.zero, *]), (by simp [go_sem, AM.nil, Slots.zero, Disk.zero, *]), (by simp [go_sem, AM.nil, Slots.zero, Disk.zero, *]), (by simp [go_sem, AM.nil, Slots.zero, Disk.zero, *]), (by simp [go_sem, AM.nil, Slots.zero, Disk.zero, *]), (by simp [go_sem, AM.nil, Slots.zero, Disk.zero, *]), (by simp [go_sem, AM.nil, Slots.zero, Disk.zero, *]), (by simp [go_sem, AM.nil, Slots.zero, Disk.zero, *]), (by simp [go_sem, AM.nil, Slots.zero, Disk.zero, *])⟩, ⟨(by simp [go_sem, *]), (by simp [go_sem, *]), (by simp [go_sem, *]), (by simp [go_sem, *]), (by simp [go_sem, *]), (by simp [go_sem, *]), (by simp [go_sem, *]), (by simp [go_sem, *]), (by simp [go_sem, *]), (by simp [go_sem, *]), (by simp [go_sem, *]), (by simp [go_sem, *]), (by simp [go_sem, *]), (by simp [go_sem, *]), (by simp [go_sem, *]), (by simp [go_sem, *]), (by simp [go_sem, *]), (by simp [go_sem, *])⟩, abA, by simp; omega⟩, .inr (.inl ⟨rfl, HN, Lib.hid (by rw [hr0.out, HO.out]), (show m'.C = C from congrArg AM.C hm0.out), (show m'.D = D from congrArg AM.D hm0.out), (show m'.cc = cc from congrArg AM.cc hm0.out), (show m'.cd = cd from congrArg AM.cd hm0.out), (by repeat (first | with_reducible assumption | with_reducible refine RB.put ?_ wnA _ | (with_reducible refine RB.ab ?_ (by assumption)))), (by repeat (first | with_reducible assumption | with_reducible refine RB.put ?_ wnA _ | (with_reducible refine RB.ab ?_ (by assumption)))), k3, j3⟩)⟩
        case measure => (show 2 - (intOf _).toNat < 2 - (intOf _).toNat); simp only [intOf]; omega
    · have HSA := Lib.hid (show Slots.Small r'.a by rw [hr'.out]; exact Slots.small_op hna.out)
      go_wp2_with fail
      refine (check_any C D cc cd p q cep dm _ h.sc h.sd).mono ?_
      rintro e w1 ⟨er, hr, rfl, hb1⟩
      have bW : Ab wr w1 := abA
      have hsz1 := Nat.le_trans hsz bW.size
      have dq0 := hb1.at (p := ⟨wr.heap.size, 0, none⟩) (v := .slice C p.length cc) ckA; have dq1 := hb1.at (p := ⟨wr.heap.size, 1, none⟩) (v := .slice D q.length cd) ckA; have dq2 := hb1.at (p := ⟨wr.heap.size, 2, none⟩) (v := .int .i64 cep) ckA; have dq3 := hb1.at (p := ⟨wr.heap.size, 3, none⟩) (v := .bool dm) ckA
      have dg0 : w1.frozen? ⟨wr.heap.size, 0, none⟩ = false := (hb1.frozen (p := ⟨wr.heap.size, 0, none⟩) wnA).trans (by simp [go_sem]); have dg1 : w1.frozen? ⟨wr.heap.size, 1, none⟩ = false := (hb1.frozen (p := ⟨wr.heap.size, 1, none⟩) wnA).trans (by simp [go_sem]); have dg2 : w1.frozen? ⟨wr.heap.size, 2, none⟩ = false := (hb1.frozen (p := ⟨wr.heap.size, 2, none⟩) wnA).trans (by simp [go_sem]); have dg3 : w1.frozen? ⟨wr.heap.size, 3, none⟩ = false := (hb1.frozen (p := ⟨wr.heap.size, 3, none⟩) wnA).trans (by simp [go_sem])
      have zd : wr.heap.size < w1.heap.size := cell_lt dq0
      have ne1 : w.heap.size ≠ wr.heap.size := by omega
      have ne2 : w.heap.size + 1 ≠ wr.heap.size := by omega
      have ne3 : wr.heap.size ≠ w.heap.size := by omega
      have ne4 : wr.heap.size ≠ w.heap.size + 1 := by omega
      have HV := hv.ab bW
      have HZ := hz.ab bW
      clear hb1
      by_cases hbd : Disk.bad ⟨p, q, cep, dm⟩
      · obtain rfl : er = 8 := hr.out.trans (Disk.check_bad hbd)
        have HM := Lib.hid (show Slots.open_ (⟨⟨s, t, cap, dn⟩, ⟨p, q, cep, dm⟩, n⟩ : Sl) = (Slots.zero, 8) from if_pos (Or.inr hbd))
        obtain ⟨zq0, zq1, zq2, zq3, zq4, zq5, zq6, zq7, zq8, zg0, zg1, zg2, zg3, zg4, zg5, zg6, zg7, zg8⟩ := HZ
        (try simp only [AM.nil, Slots.zero, Disk.zero, List.length_nil] at zq0 zq1 zq2 zq3 zq4 zq5 zq6 zq7 zq8)
        clear hr hbd
        go_wp2
        refine bodyPost_ret (v := .tuple #[(.agg #[.slice none 0 0, .slice none 0 0, .int .i64 0, .bool false, .slice none 0 0, .slice none 0 0, .int .i64 0, .bool false, .int .i64 0]), .int .i64 8]) (by simp [results, Tryz.results68, go_sem, *]) rfl ?_
        exact RetSlE.zero HM.out.symm abA
      obtain rfl : er = 0 := hr.out.trans (Disk.check_ok hbd)
      have HN := Lib.hid hbd
      clear hr
      cases dm with
      | true =>
        have HST := Lib.hid (Slots.op_start hbd)
        have HSY := Lib.hid (Slots.op_down hbd)
        have HSM := Lib.hid (Slots.small_op hbd)
        clear hbd
        go_wp2_with fail
        refine (start_any C D cc cd p q cep true _ (RB.ab h.c abA) (RB.ab h.d abA) h.lc h.ld h.sc h.sd).mono ?_
        rintro e w2 ⟨r1, er1, D1, E1, cd1, ce1, hr1, rfl, o11, o21, hb2⟩
        have hr1' := Lib.hid (show r1 = ⟨p, [], cep, false⟩ from (Prod.mk.inj (hr1.out.trans HST.out)).1)
        have l1 : r1.s.length ≤ 1000000 ∧ r1.t.length ≤ 1000000 := by rw [hr1'.out]; exact ⟨h.sc, Nat.zero_le _⟩
        have HL := Lib.hid l1
        clear hr1 l1
        have dq0 := hb2.at dq0
        have dq1 := hb2.at dq1
        have dq2 := hb2.at dq2
        have dq3 := hb2.at dq3
        have dg0 := hb2.fr zd dg0
        have dg1 := hb2.fr zd dg1
        have dg2 := hb2.fr zd dg2
        have dg3 := hb2.fr zd dg3
        have HV := HV.ab hb2
        have HZ := HZ.ab hb2
        have zz2 := Nat.le_trans hsz1 hb2.size
        have zd2 := Nat.lt_of_lt_of_le zd hb2.size
        have p1 : RB w2 (wr.heap.size + 1) D1 r1.s := o11.rb.mono zd
        have p2 : RB w2 (wr.heap.size + 1) E1 r1.t := o21.rb.mono zd
        have k1 := o11.le
        have k2 := o21.le
        clear o11 o21
        go_wp2_with fail
        refine (sync_any D1 E1 cd1 ce1 r1.s r1.t r1.cap r1.down _ (RB.zero (lo := wr.heap.size + 1) (by repeat (first | with_reducible assumption | with_reducible refine RB.put ?_ wnA _ | (with_reducible refine RB.ab ?_ (by assumption))))) (RB.zero (lo := wr.heap.size + 1) (by repeat (first | with_reducible assumption | with_reducible refine RB.put ?_ wnA _ | (with_reducible refine RB.ab ?_ (by assumption))))) k1 k2 HL.out.1 HL.out.2).mono ?_
        rintro e w3 ⟨r3, er3, D3, E3, cd3, ce3, hr3, rfl, o1, o2, hb3⟩
        have HO := Lib.hid (show r3 = Slots.op ⟨p, q, cep, true⟩ from (Prod.mk.inj (hr3.out.trans ((congrArg Disk.sync (show (⟨r1.s, r1.t, r1.cap, r1.down⟩ : Dev) = _ from hr1'.out)).trans HSY.out))).1)
        obtain ⟨vq0, vq1, vq2, vq3, vq4, vq5, vq6, vq7, vq8, vg0, vg1, vg2, vg3, vg4, vg5, vg6, vg7, vg8⟩ := HV
        (try simp only [AM.nil, Slots.zero, Disk.zero, List.length_nil] at vq0 vq1 vq2 vq3 vq4 vq5 vq6 vq7 vq8)
        obtain ⟨zq0, zq1, zq2, zq3, zq4, zq5, zq6, zq7, zq8, zg0, zg1, zg2, zg3, zg4, zg5, zg6, zg7, zg8⟩ := HZ
        (try simp only [AM.nil, Slots.zero, Disk.zero, List.length_nil] at zq0 zq1 zq2 zq3 zq4 zq5 zq6 zq7 zq8)
        have ra3 := ra.ab (show Ab wr w3 from abA); have rb3 := rb.ab (show Ab wr w3 from abA)
        have hv3 : SlB w3 w.heap.size m' r' := ⟨hb3.at (by simp [go_sem, *]), hb3.at (by simp [go_sem, *]), hb3.at (by simp [go_sem, *]), hb3.at (by simp [go_sem, *]), hb3.at (by simp [go_sem, *]), hb3.at (by simp [go_sem, *]), hb3.at (by simp [go_sem, *]), hb3.at (by simp [go_sem, *]), hb3.at (by simp [go_sem, *]), (hb3.frozen wnA).trans (by simp [go_sem, *]), (hb3.frozen wnA).trans (by simp [go_sem, *]), (hb3.frozen wnA).trans (by simp [go_sem, *]), (hb3.frozen wnA).trans (by simp [go_sem, *]), (hb3.frozen wnA).trans (by simp [go_sem, *]), (hb3.frozen wnA).trans (by simp [go_sem, *]), (hb3.frozen wnA).trans (by simp [go_sem, *]), (hb3.frozen wnA).trans (by simp [go_sem, *]), (hb3.frozen wnA).trans (by simp [go_sem, *])⟩
        have hz3 : SlB w3 (w.heap.size + 1) AM.nil Slots.zero := ⟨hb3.at (by simp [go_sem, AM.nil, Slots.zero, Disk.zero, *]), hb3.at (by simp [go_sem, AM.nil, Slots.zero, Disk.zero, *]), hb3.at (by simp [go_sem, AM.nil, Slots.zero, Disk.zero, *]), hb3.at (by simp [go_sem, AM.nil, Slots.zero, Disk.zero, *]), hb3.at (by simp [go_sem, AM.nil, Slots.zero, Disk.zero, *]), hb3.at (by simp [go_sem, AM.nil, Slots.zero, Disk.zero, *]), hb3.at (by simp [go_sem, AM.nil, Slots.zero, Disk.zero, *]), hb3.at (by simp [go_sem, AM.nil, Slots.zero, Disk.zero, *]), hb3.at (by simp [go_sem, AM.nil, Slots.zero, Disk.zero, *]), (hb3.frozen wnA).trans (by simp [go_sem, *]), (hb3.frozen wnA).trans (by simp [go_sem, *]), (hb3.frozen wnA).trans (by simp [go_sem, *]), (hb3.frozen wnA).trans (by simp [go_sem, *]), (hb3.frozen wnA).trans (by simp [go_sem, *]), (hb3.frozen wnA).trans (by simp [go_sem, *]), (hb3.frozen wnA).trans (by simp [go_sem, *]), (hb3.frozen wnA).trans (by simp [go_sem, *]), (hb3.frozen wnA).trans (by simp [go_sem, *])⟩
        have zz3 : w.heap.size + 1 + 1 ≤ w3.heap.size := Nat.le_trans zz2 (by have := hb3.size; first | omega | (simp at this; omega))
        have hD3 : RB w3 (w.heap.size + 1 + 1) D3 r3.s := o1.rb.mono wnA
        have hE3 : RB w3 (w.heap.size + 1 + 1) E3 r3.t := o2.rb.mono wnA
        have b3 : Ab w w3 := abA
        have k3 := o1.le
        have j3 := o2.le
        have s3 := Lib.hid (show Slots.Small r3 by rw [HO.out]; exact HSM.out)
        (try clear HV)
        (try clear HZ)
        clear hr3 o1 o2 vq0 vq1 vq2 vq3 vq4 vq5 vq6 vq7 vq8 vg0 vg1 vg2 vg3 vg4 vg5 vg6 vg7 vg8 zq0 zq1 zq2 zq3 zq4 zq5 zq6 zq7 zq8 zg0 zg1 zg2 zg3 zg4 zg5 zg6 zg7 zg8
        obtain ⟨vq0, vq1, vq2, vq3, vq4, vq5, vq6, vq7, vq8, vg0, vg1, vg2, vg3, vg4, vg5, vg6, vg7, vg8⟩ := hv3
        (try simp only [AM.nil, Slots.zero, Disk.zero, List.length_nil] at vq0 vq1 vq2 vq3 vq4 vq5 vq6 vq7 vq8)
        obtain ⟨zq0, zq1, zq2, zq3, zq4, zq5, zq6, zq7, zq8, zg0, zg1, zg2, zg3, zg4, zg5, zg6, zg7, zg8⟩ := hz3
        (try simp only [AM.nil, Slots.zero, Disk.zero, List.length_nil] at zq0 zq1 zq2 zq3 zq4 zq5 zq6 zq7 zq8)
        go_wp2
        go_roundw
        case rel => exact ⟨⟨m'.A, m'.B, D3, E3, m'.ca, m'.cb, cd3, ce3⟩, ⟨r'.a, r3, r'.n⟩, ⟨⟨(by simp [go_sem, AM.nil, Slots.zero, Disk.zero, *]), (by simp [go_sem, AM.nil, Slots.zero, Disk.zero, *]), (by simp [go_sem, AM.nil, Slots.zero, Disk.zero, *]), (by simp [go_sem, AM.nil, Slots.zero, Disk.zero, *]), (by simp [go_sem, AM.nil, Slots.zero, Disk.zero, *]), (by simp [go_sem, AM.nil, Slots.zero, Disk.zero, *]), (by simp [go_sem, AM.nil, Slots.zero, Disk.zero, *]), (by simp [go_sem, AM.nil, Slots.zero, Disk.zero, *]), (by simp [go_sem, AM.nil, Slots.zero, Disk.zero, *]), (by simp [go_sem, AM.nil, Slots.zero, Disk.zero, *]), (by simp [go_sem, AM.nil, Slots.zero, Disk.zero, *]), (by simp [go_sem, AM.nil, Slots.zero, Disk.zero, *]), (by simp [go_sem, AM.nil, Slots.zero, Disk.zero, *]), (by simp [go_sem, AM.nil, Slots.zero, Disk.zero, *]), (by simp [go_sem, AM.nil, Slots.zero, Disk.zero, *]), (by simp [go_sem, AM.nil, Slots.zero, Disk.zero, *]), (by simp [go_sem, AM.nil, Slots.zero, Disk.zero, *]), (by simp [go_sem, AM.nil, Slots.zero, Disk.zero, *])⟩, ⟨(by simp [go_sem, *]), (by simp [go_sem, *]), (by simp [go_sem, *]), (by simp [go_sem, *]), (by simp [go_sem, *]), (by simp [go_sem, *]), (by simp [go_sem, *]), (by simp [go_sem, *]), (by simp [go_sem, *]), (by simp [go_sem, *]), (by simp [go_sem, *]), (by simp [go_sem, *]), (by simp [go_sem, *]), (by simp [go_sem, *]), (by simp [go_sem, *]), (by simp [go_sem, *]), (by simp [go_sem, *]), (by simp [go_sem, *])⟩, abA, by simp; omega⟩, .inr (.inr ⟨rfl, hna, HN, Lib.hid (by rw [hr'.out, HO.out]), ⟨(by repeat (first | with_reducible assumption | with_reducible refine RB.put ?_ wnA _ | (with_reducible refine RB.ab ?_ (by assumption)))), (by repeat (first | with_reducible assumption | with_reducible refine RB.put ?_ wnA _ | (with_reducible refine RB.ab ?_ (by assumption)))), (by repeat (first | with_reducible assumption | with_reducible refine RB.put ?_ wnA _ | (with_reducible refine RB.ab ?_ (by assumption)))), (by repeat (first | with_reducible assumption | with_reducible refine RB.put ?_ wnA _ | (with_reducible refine RB.ab ?_ (by assumption)))), la, lb, k3, j3, HSA.out.1, HSA.out.2, s3.out.1, s3.out.2⟩⟩)⟩
        case measure => (show 2 - (intOf _).toNat < 2 - (intOf _).toNat); simp only [intOf]; omega
      | false =>
        have HSY := Lib.hid (Slots.op_up hbd)
        have HSM := Lib.hid (Slots.small_op hbd)
        clear hbd
        go_wp2_with fail
        refine (sync_any C D cc cd p q cep false _ (RB.ab h.c abA) (RB.ab h.d abA) h.lc h.ld h.sc h.sd).mono ?_
        rintro e w3 ⟨r3, er3, D3, E3, cd3, ce3, hr3, rfl, o1, o2, hb3⟩
        have HO := Lib.hid (show r3 = Slots.op ⟨p, q, cep, false⟩ from (Prod.mk.inj (hr3.out.trans HSY.out)).1)
        obtain ⟨vq0, vq1, vq2, vq3, vq4, vq5, vq6, vq7, vq8, vg0, vg1, vg2, vg3, vg4, vg5, vg6, vg7, vg8⟩ := HV
        (try simp only [AM.nil, Slots.zero, Disk.zero, List.length_nil] at vq0 vq1 vq2 vq3 vq4 vq5 vq6 vq7 vq8)
        obtain ⟨zq0, zq1, zq2, zq3, zq4, zq5, zq6, zq7, zq8, zg0, zg1, zg2, zg3, zg4, zg5, zg6, zg7, zg8⟩ := HZ
        (try simp only [AM.nil, Slots.zero, Disk.zero, List.length_nil] at zq0 zq1 zq2 zq3 zq4 zq5 zq6 zq7 zq8)
        have ra3 := ra.ab (show Ab wr w3 from abA); have rb3 := rb.ab (show Ab wr w3 from abA)
        have hv3 : SlB w3 w.heap.size m' r' := ⟨hb3.at (by simp [go_sem, *]), hb3.at (by simp [go_sem, *]), hb3.at (by simp [go_sem, *]), hb3.at (by simp [go_sem, *]), hb3.at (by simp [go_sem, *]), hb3.at (by simp [go_sem, *]), hb3.at (by simp [go_sem, *]), hb3.at (by simp [go_sem, *]), hb3.at (by simp [go_sem, *]), (hb3.frozen wnA).trans (by simp [go_sem, *]), (hb3.frozen wnA).trans (by simp [go_sem, *]), (hb3.frozen wnA).trans (by simp [go_sem, *]), (hb3.frozen wnA).trans (by simp [go_sem, *]), (hb3.frozen wnA).trans (by simp [go_sem, *]), (hb3.frozen wnA).trans (by simp [go_sem, *]), (hb3.frozen wnA).trans (by simp [go_sem, *]), (hb3.frozen wnA).trans (by simp [go_sem, *]), (hb3.frozen wnA).trans (by simp [go_sem, *])⟩
        have hz3 : SlB w3 (w.heap.size + 1) AM.nil Slots.zero := ⟨hb3.at (by simp [go_sem, AM.nil, Slots.zero, Disk.zero, *]), hb3.at (by simp [go_sem, AM.nil, Slots.zero, Disk.zero, *]), hb3.at (by simp [go_sem, AM.nil, Slots.zero, Disk.zero, *]), hb3.at (by simp [go_sem, AM.nil, Slots.zero, Disk.zero, *]), hb3.at (by simp [go_sem, AM.nil, Slots.zero, Disk.zero, *]), hb3.at (by simp [go_sem, AM.nil, Slots.zero, Disk.zero, *]), hb3.at (by simp [go_sem, AM.nil, Slots.zero, Disk.zero, *]), hb3.at (by simp [go_sem, AM.nil, Slots.zero, Disk.zero, *]), hb3.at (by simp [go_sem, AM.nil, Slots.zero, Disk.zero, *]), (hb3.frozen wnA).trans (by simp [go_sem, *]), (hb3.frozen wnA).trans (by simp [go_sem, *]), (hb3.frozen wnA).trans (by simp [go_sem, *]), (hb3.frozen wnA).trans (by simp [go_sem, *]), (hb3.frozen wnA).trans (by simp [go_sem, *]), (hb3.frozen wnA).trans (by simp [go_sem, *]), (hb3.frozen wnA).trans (by simp [go_sem, *]), (hb3.frozen wnA).trans (by simp [go_sem, *]), (hb3.frozen wnA).trans (by simp [go_sem, *])⟩
        have zz3 : w.heap.size + 1 + 1 ≤ w3.heap.size := Nat.le_trans hsz1 (by have := hb3.size; first | omega | (simp at this; omega))
        have hD3 : RB w3 (w.heap.size + 1 + 1) D3 r3.s := o1.rb.mono wnA
        have hE3 : RB w3 (w.heap.size + 1 + 1) E3 r3.t := o2.rb.mono wnA
        have b3 : Ab w w3 := abA
        have k3 := o1.le
        have j3 := o2.le
        have s3 := Lib.hid (show Slots.Small r3 by rw [HO.out]; exact HSM.out)
        (try clear HV)
        (try clear HZ)
        clear hr3 o1 o2 vq0 vq1 vq2 vq3 vq4 vq5 vq6 vq7 vq8 vg0 vg1 vg2 vg3 vg4 vg5 vg6 vg7 vg8 zq0 zq1 zq2 zq3 zq4 zq5 zq6 zq7 zq8 zg0 zg1 zg2 zg3 zg4 zg5 zg6 zg7 zg8
        obtain ⟨vq0, vq1, vq2, vq3, vq4, vq5, vq6, vq7, vq8, vg0, vg1, vg2, vg3, vg4, vg5, vg6, vg7, vg8⟩ := hv3
        (try simp only [AM.nil, Slots.zero, Disk.zero, List.length_nil] at vq0 vq1 vq2 vq3 vq4 vq5 vq6 vq7 vq8)
        obtain ⟨zq0, zq1, zq2, zq3, zq4, zq5, zq6, zq7, zq8, zg0, zg1, zg2, zg3, zg4, zg5, zg6, zg7, zg8⟩ := hz3
        (try simp only [AM.nil, Slots.zero, Disk.zero, List.length_nil] at zq0 zq1 zq2 zq3 zq4 zq5 zq6 zq7 zq8)
        go_wp2
        go_roundw
        case rel => exact ⟨⟨m'.A, m'.B, D3, E3, m'.ca, m'.cb, cd3, ce3⟩, ⟨r'.a, r3, r'.n⟩, ⟨⟨(by simp [go_sem, AM.nil, Slots.zero, Disk.zero, *]), (by simp [go_sem, AM.nil, Slots.zero, Disk.zero, *]), (by simp [go_sem, AM.nil, Slots.zero, Disk.zero, *]), (by simp [go_sem, AM.nil, Slots.zero, Disk.zero, *]), (by simp [go_sem, AM.nil, Slots.zero, Disk.zero, *]), (by simp [go_sem, AM.nil, Slots.zero, Disk.zero, *]), (by simp [go_sem, AM.nil, Slots.zero, Disk.zero, *]), (by simp [go_sem, AM.nil, Slots.zero, Disk.zero, *]), (by simp [go_sem, AM.nil, Slots.zero, Disk.zero, *]), (by simp [go_sem, AM.nil, Slots.zero, Disk.zero, *]), (by simp [go_sem, AM.nil, Slots.zero, Disk.zero, *]), (by simp [go_sem, AM.nil, Slots.zero, Disk.zero, *]), (by simp [go_sem, AM.nil, Slots.zero, Disk.zero, *]), (by simp [go_sem, AM.nil, Slots.zero, Disk.zero, *]), (by simp [go_sem, AM.nil, Slots.zero, Disk.zero, *]), (by simp [go_sem, AM.nil, Slots.zero, Disk.zero, *]), (by simp [go_sem, AM.nil, Slots.zero, Disk.zero, *]), (by simp [go_sem, AM.nil, Slots.zero, Disk.zero, *])⟩, ⟨(by simp [go_sem, *]), (by simp [go_sem, *]), (by simp [go_sem, *]), (by simp [go_sem, *]), (by simp [go_sem, *]), (by simp [go_sem, *]), (by simp [go_sem, *]), (by simp [go_sem, *]), (by simp [go_sem, *]), (by simp [go_sem, *]), (by simp [go_sem, *]), (by simp [go_sem, *]), (by simp [go_sem, *]), (by simp [go_sem, *]), (by simp [go_sem, *]), (by simp [go_sem, *]), (by simp [go_sem, *]), (by simp [go_sem, *])⟩, abA, by simp; omega⟩, .inr (.inr ⟨rfl, hna, HN, Lib.hid (by rw [hr'.out, HO.out]), ⟨(by repeat (first | with_reducible assumption | with_reducible refine RB.put ?_ wnA _ | (with_reducible refine RB.ab ?_ (by assumption)))), (by repeat (first | with_reducible assumption | with_reducible refine RB.put ?_ wnA _ | (with_reducible refine RB.ab ?_ (by assumption)))), (by repeat (first | with_reducible assumption | with_reducible refine RB.put ?_ wnA _ | (with_reducible refine RB.ab ?_ (by assumption)))), (by repeat (first | with_reducible assumption | with_reducible refine RB.put ?_ wnA _ | (with_reducible refine RB.ab ?_ (by assumption)))), la, lb, k3, j3, HSA.out.1, HSA.out.2, s3.out.1, s3.out.2⟩⟩)⟩
        case measure => (show 2 - (intOf _).toNat < 2 - (intOf _).toNat); simp only [intOf]; omega
    · obtain ⟨zq0, zq1, zq2, zq3, zq4, zq5, zq6, zq7, zq8, zg0, zg1, zg2, zg3, zg4, zg5, zg6, zg7, zg8⟩ := hz
      (try simp only [AM.nil, Slots.zero, Disk.zero, List.length_nil] at zq0 zq1 zq2 zq3 zq4 zq5 zq6 zq7 zq8)
      obtain ⟨vq0, vq1, vq2, vq3, vq4, vq5, vq6, vq7, vq8, vg0, vg1, vg2, vg3, vg4, vg5, vg6, vg7, vg8⟩ := hv
      (try simp only [AM.nil, Slots.zero, Disk.zero, List.length_nil] at vq0 vq1 vq2 vq3 vq4 vq5 vq6 vq7 vq8)
      have HA := Lib.hid (show Slots.Ok r'.a by rw [hr'.out]; exact Slots.op_ok hna.out)
      have HB := Lib.hid (show Slots.Ok r'.b by rw [hr'.out]; exact Slots.op_ok hnb.out)
      have HM := Lib.hid (show Slots.open_ (⟨⟨s, t, cap, dn⟩, ⟨p, q, cep, dm⟩, n⟩ : Sl) = (⟨r'.a, r'.b, Slots.nextOf (Slots.newest ⟨r'.a, r'.b, 1⟩)⟩, 0) by
        rw [hr'.out]; exact if_neg (by rintro (k | k); exact hna.out k; exact hnb.out k))
      go_wp2_with fail
      refine (newest_any m' ⟨r'.a, r'.b, 1⟩ _ ((hM.put wnA _).num 1).zero HA.out HB.out).mono ?_
      rintro e w2 ⟨r1, ok1, X1, c1, h1, rfl, hX1, hc1, hv1, hb2⟩
      have hv2 : SlB w2 w.heap.size m' ⟨r'.a, r'.b, 1⟩ := ⟨hb2.at (by simp [go_sem, *]), hb2.at (by simp [go_sem, *]), hb2.at (by simp [go_sem, *]), hb2.at (by simp [go_sem, *]), hb2.at (by simp [go_sem, *]), hb2.at (by simp [go_sem, *]), hb2.at (by simp [go_sem, *]), hb2.at (by simp [go_sem, *]), hb2.at (by simp [go_sem, *]), (hb2.frozen wnA).trans (by simp [go_sem, *]), (hb2.frozen wnA).trans (by simp [go_sem, *]), (hb2.frozen wnA).trans (by simp [go_sem, *]), (hb2.frozen wnA).trans (by simp [go_sem, *]), (hb2.frozen wnA).trans (by simp [go_sem, *]), (hb2.frozen wnA).trans (by simp [go_sem, *]), (hb2.frozen wnA).trans (by simp [go_sem, *]), (hb2.frozen wnA).trans (by simp [go_sem, *]), (hb2.frozen wnA).trans (by simp [go_sem, *])⟩
      have hz2 : SlB w2 (w.heap.size + 1) AM.nil Slots.zero := ⟨hb2.at (by simp [go_sem, AM.nil, Slots.zero, Disk.zero, *]), hb2.at (by simp [go_sem, AM.nil, Slots.zero, Disk.zero, *]), hb2.at (by simp [go_sem, AM.nil, Slots.zero, Disk.zero, *]), hb2.at (by simp [go_sem, AM.nil, Slots.zero, Disk.zero, *]), hb2.at (by simp [go_sem, AM.nil, Slots.zero, Disk.zero, *]), hb2.at (by simp [go_sem, AM.nil, Slots.zero, Disk.zero, *]), hb2.at (by simp [go_sem, AM.nil, Slots.zero, Disk.zero, *]), hb2.at (by simp [go_sem, AM.nil, Slots.zero, Disk.zero, *]), hb2.at (by simp [go_sem, AM.nil, Slots.zero, Disk.zero, *]), (hb2.frozen wnA).trans (by simp [go_sem, *]), (hb2.frozen wnA).trans (by simp [go_sem, *]), (hb2.frozen wnA).trans (by simp [go_sem, *]), (hb2.frozen wnA).trans (by simp [go_sem, *]), (hb2.frozen wnA).trans (by simp [go_sem, *]), (hb2.frozen wnA).trans (by simp [go_sem, *]), (hb2.frozen wnA).trans (by simp [go_sem, *]), (hb2.frozen wnA).trans (by simp [go_sem, *]), (hb2.frozen wnA).trans (by simp [go_sem, *])⟩
      have hM2 : SlM w2 (w.heap.size + 1 + 1) m' r' := (hM.put wnA _).ab hb2
      have b2 : Ab w w2 := abA
      have zz2 : w.heap.size + 1 + 1 ≤ w2.heap.size := Nat.le_trans hsz (by have := hb2.size; simpa using this)
      clear hX1 hb2 vq0 vq1 vq2 vq3 vq4 vq5 vq6 vq7 vq8 vg0 vg1 vg2 vg3 vg4 vg5 vg6 vg7 vg8 zq0 zq1 zq2 zq3 zq4 zq5 zq6 zq7 zq8 zg0 zg1 zg2 zg3 zg4 zg5 zg6 zg7 zg8
      obtain ⟨vq0, vq1, vq2, vq3, vq4, vq5, vq6, vq7, vq8, vg0, vg1, vg2, vg3, vg4, vg5, vg6, vg7, vg8⟩ := hv2
      (try simp only [AM.nil, Slots.zero, Disk.zero, List.length_nil] at vq0 vq1 vq2 vq3 vq4 vq5 vq6 vq7 vq8)
      obtain ⟨zq0, zq1, zq2, zq3, zq4, zq5, zq6, zq7, zq8, zg0, zg1, zg2, zg3, zg4, zg5, zg6, zg7, zg8⟩ := hz2
      (try simp only [AM.nil, Slots.zero, Disk.zero, List.length_nil] at zq0 zq1 zq2 zq3 zq4 zq5 zq6 zq7 zq8)
      have nva := fun (o : Obj) (j : Nat) => World.cell?_alloc_lt w2 o ⟨w.heap.size, j, none⟩ (by simp only; omega)
      have nvb := fun (o : Obj) (j : Nat) => ((Ab.refl w2).alloc o).frozen (p := ⟨w.heap.size, j, none⟩) (by simp only; omega)
      have nza := fun (o : Obj) (j : Nat) => World.cell?_alloc_lt w2 o ⟨w.heap.size + 1, j, none⟩ (by simp only; omega)
      have nzb := fun (o : Obj) (j : Nat) => ((Ab.refl w2).alloc o).frozen (p := ⟨w.heap.size + 1, j, none⟩) (by simp only; omega)
      have ne1 : w.heap.size ≠ w2.heap.size := by omega
      have ne2 : w.heap.size + 1 ≠ w2.heap.size := by omega
      have ne3 : w2.heap.size ≠ w.heap.size := by omega
      have ne4 : w2.heap.size ≠ w.heap.size + 1 := by omega
      cases ok1 with
      | false =>
        go_wp2
        refine bodyPost_ret (v := .tuple #[.agg #[.slice m'.A (⟨r'.a, r'.b, 1⟩ : Sl).a.s.length m'.ca, .slice m'.B (⟨r'.a, r'.b, 1⟩ : Sl).a.t.length m'.cb, .int .i64 (⟨r'.a, r'.b, 1⟩ : Sl).a.cap, .bool (⟨r'.a, r'.b, 1⟩ : Sl).a.down, .slice m'.C (⟨r'.a, r'.b, 1⟩ : Sl).b.s.length m'.cc, .slice m'.D (⟨r'.a, r'.b, 1⟩ : Sl).b.t.length m'.cd, .int .i64 (⟨r'.a, r'.b, 1⟩ : Sl).b.cap, .bool (⟨r'.a, r'.b, 1⟩ : Sl).b.down, .int .i64 (⟨r'.a, r'.b, 1⟩ : Sl).n], .int .i64 0]) (by simp [results, Tryz.results68, go_sem, *]) rfl ?_
        exact ⟨⟨r'.a, r'.b, 1⟩, 0, m', Lib.hid (by rw [HM.out, ← h1.out]; rfl), rfl, by refine SlM.mono (lo := w.heap.size + 1 + 1) (SlM.num (r := r') ?_ _) (by omega); repeat (first | with_reducible exact hM2 | with_reducible exact hM2.ab ((Ab.refl w2).alloc _) | with_reducible refine SlM.put ?_ wnA _), abA⟩
      | true =>
        have hv := hv1 rfl
        have hnw : IntKind.i64.wrap (r1.num + 1) = r1.num + 1 := IntWalk.i64_in _ (by have := hv.1; have := hv.2.1; omega)
        clear hv hv1
        go_wp2
        refine bodyPost_ret (v := .tuple #[.agg #[.slice m'.A (⟨r'.a, r'.b, r1.num + 1⟩ : Sl).a.s.length m'.ca, .slice m'.B (⟨r'.a, r'.b, r1.num + 1⟩ : Sl).a.t.length m'.cb, .int .i64 (⟨r'.a, r'.b, r1.num + 1⟩ : Sl).a.cap, .bool (⟨r'.a, r'.b, r1.num + 1⟩ : Sl).a.down, .slice m'.C (⟨r'.a, r'.b, r1.num + 1⟩ : Sl).b.s.length m'.cc, .slice m'.D (⟨r'.a, r'.b, r1.num + 1⟩ : Sl).b.t.length m'.cd, .int .i64 (⟨r'.a, r'.b, r1.num + 1⟩ : Sl).b.cap, .bool (⟨r'.a, r'.b, r1.num + 1⟩ : Sl).b.down, .int .i64 (⟨r'.a, r'.b, r1.num + 1⟩ : Sl).n], .int .i64 0]) (by simp [results, Tryz.results68, go_sem, *]) rfl ?_
        exact ⟨⟨r'.a, r'.b, r1.num + 1⟩, 0, m', Lib.hid (by rw [HM.out, ← h1.out]; rfl), rfl, by refine SlM.mono (lo := w.heap.size + 1 + 1) (SlM.num (r := r') ?_ _) (by omega); repeat (first | with_reducible exact hM2 | with_reducible exact hM2.ab ((Ab.refl w2).alloc _) | with_reducible refine SlM.put ?_ wnA _), abA⟩
end Go.Proofs.YthgcfjhnnhigoaaGreat

/- write of package slots, walked. Own work. -/
namespace Go.Proofs.YthgcfjhnnhigoaaGreat
open Go.RowKit
open Disk (Dev)

/-- It returns the device m; its bytes may be those of an argument. -/
def RetDevW (k : Int) (w : World) (m : Dev) (e : Ending) (w' : World) : Prop :=
  ∃ (r : Dev) (D E : Option Addr) (cd ce : Nat), Hid (r = m) ∧ e = .returned (.agg #[.slice D r.s.length cd, .slice E r.t.length ce, .int .i64 r.cap, .bool r.down]) ∧ RB w' 0 D r.s ∧ RB w' 0 E r.t ∧ r.s.length ≤ cd ∧ r.t.length ≤ ce ∧ (1 ≤ k → RB w' w.heap.size D r.s ∧ RB w' w.heap.size E r.t) ∧ Ab w w'

set_option maxHeartbeats 1600000 in
theorem write_any (A B : Option Addr) (ca cb : Nat) (s t : List UInt8) (cap : Int) (dn : Bool) (w : World) (hs : RB w 0 A s) (ht : RB w 0 B t) (hca : s.length ≤ ca) (hcb : t.length ≤ cb) (ls : s.length ≤ 1000000) (lt : t.length ≤ 1000000) (C : Option Addr) (cc : Nat) (b : List UInt8) (hb : RB w 0 C b) (hcc : b.length ≤ cc) (lb : b.length ≤ 1000000) (k : Int) :
    Calls Tryz.prog 87 #[.agg #[.slice A s.length ca, .slice B t.length cb, .int .i64 cap, .bool dn], .slice C b.length cc, .int .i64 k] w (RetDevW k w (Slots.wr ⟨s, t, cap, dn⟩ b k)) := by
  by_cases h1 : 1 ≤ k
  · have c1 : decide (1 ≤ k) = true := by simpa using h1
    go_enter Tryz.func87, Tryz.ntmps87
    go_wp2_with fail
    refine (truncate_any A B ca cb s t cap dn _ (hs.ab abA) (ht.ab abA) hca hcb ls lt 0).mono ?_
    rintro e w1 ⟨r1, er1, D1, E1, cd1, ce1, hr1, rfl, o11, o21, hb1⟩
    have hr1' := Lib.hid (congrArg Prod.fst hr1.out)
    have l1 := Lib.hid (show Slots.Small r1 by rw [show r1 = _ from hr1'.out]; exact Slots.small_trunc 0 ⟨ls, lt⟩)
    have hz1 : Ab ((w.alloc (.cells #[.slice A s.length ca, .slice B t.length cb, .int .i64 cap, .bool dn] 24)).alloc (.cells #[.slice none 0 0, .slice none 0 0, .int .i64 0, .bool false] 24)) w1 := abA
    have b1 : Ab w w1 := abA
    clear hr1
    (try simp only [World.size_setCell] at o11 o21)
    (try simp at o11 o21)
    have zz1 := hz1.size
    simp at zz1
    have b1g0 : w1.frozen? ⟨w.heap.size, 0, none⟩ = false := (hz1.frozen (p := ⟨w.heap.size, 0, none⟩) wnA).trans (by simp [go_sem]); have b1g1 : w1.frozen? ⟨w.heap.size, 1, none⟩ = false := (hz1.frozen (p := ⟨w.heap.size, 1, none⟩) wnA).trans (by simp [go_sem]); have b1g2 : w1.frozen? ⟨w.heap.size, 2, none⟩ = false := (hz1.frozen (p := ⟨w.heap.size, 2, none⟩) wnA).trans (by simp [go_sem]); have b1g3 : w1.frozen? ⟨w.heap.size, 3, none⟩ = false := (hz1.frozen (p := ⟨w.heap.size, 3, none⟩) wnA).trans (by simp [go_sem])
    have c1q0 := hz1.at (p := ⟨w.heap.size, 0, none⟩) (v := .slice A s.length ca) ckA; have c1q1 := hz1.at (p := ⟨w.heap.size, 1, none⟩) (v := .slice B t.length cb) ckA; have c1q2 := hz1.at (p := ⟨w.heap.size, 2, none⟩) (v := .int .i64 cap) ckA; have c1q3 := hz1.at (p := ⟨w.heap.size, 3, none⟩) (v := .bool dn) ckA
    have z1q0 := hz1.at (p := ⟨w.heap.size + 1, 0, none⟩) (v := .slice none 0 0) (by simp [go_sem]); have z1q1 := hz1.at (p := ⟨w.heap.size + 1, 1, none⟩) (v := .slice none 0 0) (by simp [go_sem]); have z1q2 := hz1.at (p := ⟨w.heap.size + 1, 2, none⟩) (v := .int .i64 0) (by simp [go_sem]); have z1q3 := hz1.at (p := ⟨w.heap.size + 1, 3, none⟩) (v := .bool false) (by simp [go_sem])
    have z1r0 : w1.frozen? ⟨w.heap.size + 1, 0, none⟩ = false := (hz1.frozen (p := ⟨w.heap.size + 1, 0, none⟩) (by simp)).trans (by simp [go_sem]); have z1r1 : w1.frozen? ⟨w.heap.size + 1, 1, none⟩ = false := (hz1.frozen (p := ⟨w.heap.size + 1, 1, none⟩) (by simp)).trans (by simp [go_sem]); have z1r2 : w1.frozen? ⟨w.heap.size + 1, 2, none⟩ = false := (hz1.frozen (p := ⟨w.heap.size + 1, 2, none⟩) (by simp)).trans (by simp [go_sem]); have z1r3 : w1.frozen? ⟨w.heap.size + 1, 3, none⟩ = false := (hz1.frozen (p := ⟨w.heap.size + 1, 3, none⟩) (by simp)).trans (by simp [go_sem])
    by_cases h2 : 2 ≤ k
    · have c2 : decide (2 ≤ k) = true := by simpa using h2
      go_wp2_with fail
      refine (append_any D1 E1 cd1 ce1 r1.s r1.t r1.cap r1.down _ (show OR 5 (w.heap.size + 1 + 1) _ D1 cd1 r1.s from orA).rb.zero (show OR 5 (w.heap.size + 1 + 1) _ E1 ce1 r1.t from orA).rb.zero o11.le o21.le l1.out.1 l1.out.2 C cc b (hb.ab abA) hcc lb).mono ?_
      rintro e w2 ⟨r2, er2, D2, E2, cd2, ce2, hr2, rfl, o12, o22, hb2⟩
      have hr2' := Lib.hid (congrArg Prod.fst hr2.out)
      have l2 := Lib.hid (show Slots.Small r2 by rw [show r2 = _ from hr2'.out]; exact Slots.small_app b l1.out)
      have b2 : Ab w w2 := abA
      clear hr2
      (try simp at o12 o22)
      have o12 : OR 5 (w.heap.size + 1 + 1) w2 D2 cd2 r2.s := OR.mono o12 wnA
      have o22 : OR 5 (w.heap.size + 1 + 1) w2 E2 ce2 r2.t := OR.mono o22 wnA
      have zz2 : w.heap.size + 1 + 1 ≤ w2.heap.size := Nat.le_trans zz1 (by have := hb2.size; simpa using this)
      obtain ⟨c2q0, c2q1, c2q2, c2q3⟩ : w2.cell? ⟨w.heap.size, 0, none⟩ = some (.slice D1 r1.s.length cd1) ∧ w2.cell? ⟨w.heap.size, 1, none⟩ = some (.slice E1 r1.t.length ce1) ∧ w2.cell? ⟨w.heap.size, 2, none⟩ = some (.int .i64 r1.cap) ∧ w2.cell? ⟨w.heap.size, 3, none⟩ = some (.bool r1.down) :=
        ⟨hb2.at (by simp [go_sem, *]), hb2.at (by simp [go_sem, *]), hb2.at (by simp [go_sem, *]), hb2.at (by simp [go_sem, *])⟩
      obtain ⟨z2q0, z2q1, z2q2, z2q3⟩ : w2.cell? ⟨w.heap.size + 1, 0, none⟩ = some (.slice none 0 0) ∧ w2.cell? ⟨w.heap.size + 1, 1, none⟩ = some (.slice none 0 0) ∧ w2.cell? ⟨w.heap.size + 1, 2, none⟩ = some (.int .i64 0) ∧ w2.cell? ⟨w.heap.size + 1, 3, none⟩ = some (.bool false) :=
        ⟨hb2.at (by simp [go_sem, *]), hb2.at (by simp [go_sem, *]), hb2.at (by simp [go_sem, *]), hb2.at (by simp [go_sem, *])⟩
      obtain ⟨b2g0, b2g1, b2g2, b2g3⟩ : w2.frozen? ⟨w.heap.size, 0, none⟩ = false ∧ w2.frozen? ⟨w.heap.size, 1, none⟩ = false ∧ w2.frozen? ⟨w.heap.size, 2, none⟩ = false ∧ w2.frozen? ⟨w.heap.size, 3, none⟩ = false :=
        ⟨(hb2.frozen wnA).trans (by simp [go_sem, *]), (hb2.frozen wnA).trans (by simp [go_sem, *]), (hb2.frozen wnA).trans (by simp [go_sem, *]), (hb2.frozen wnA).trans (by simp [go_sem, *])⟩
      obtain ⟨z2r0, z2r1, z2r2, z2r3⟩ : w2.frozen? ⟨w.heap.size + 1, 0, none⟩ = false ∧ w2.frozen? ⟨w.heap.size + 1, 1, none⟩ = false ∧ w2.frozen? ⟨w.heap.size + 1, 2, none⟩ = false ∧ w2.frozen? ⟨w.heap.size + 1, 3, none⟩ = false :=
        ⟨(hb2.frozen wnA).trans (by simp [go_sem, *]), (hb2.frozen wnA).trans (by simp [go_sem, *]), (hb2.frozen wnA).trans (by simp [go_sem, *]), (hb2.frozen wnA).trans (by simp [go_sem, *])⟩
      by_cases h3 : 3 ≤ k
      · have c3 : decide (3 ≤ k) = true := by simpa using h3
        have HM := Lib.hid (Slots.wr_3 (d := ⟨s, t, cap, dn⟩) (r := b) (k := k) h3).symm
        go_wp2_with fail
        refine (sync_any D2 E2 cd2 ce2 r2.s r2.t r2.cap r2.down _ (show OR 5 (w.heap.size + 1 + 1) _ D2 cd2 r2.s from orA).rb.zero (show OR 5 (w.heap.size + 1 + 1) _ E2 ce2 r2.t from orA).rb.zero o12.le o22.le l2.out.1 l2.out.2).mono ?_
        rintro e w3 ⟨r3, er3, D3, E3, cd3, ce3, hr3, rfl, o13, o23, hb3⟩
        have hr3' := Lib.hid (congrArg Prod.fst hr3.out)
        have l3 := Lib.hid (show Slots.Small r3 by rw [show r3 = _ from hr3'.out]; exact Slots.small_sync l2.out)
        have b3 : Ab w w3 := abA
        clear hr3
        (try simp at o13 o23)
        have o13 : OR 5 (w.heap.size + 1 + 1) w3 D3 cd3 r3.s := OR.mono o13 wnA
        have o23 : OR 5 (w.heap.size + 1 + 1) w3 E3 ce3 r3.t := OR.mono o23 wnA
        have zz3 : w.heap.size + 1 + 1 ≤ w3.heap.size := Nat.le_trans zz2 (by have := hb3.size; simpa using this)
        obtain ⟨c3q0, c3q1, c3q2, c3q3⟩ : w3.cell? ⟨w.heap.size, 0, none⟩ = some (.slice D2 r2.s.length cd2) ∧ w3.cell? ⟨w.heap.size, 1, none⟩ = some (.slice E2 r2.t.length ce2) ∧ w3.cell? ⟨w.heap.size, 2, none⟩ = some (.int .i64 r2.cap) ∧ w3.cell? ⟨w.heap.size, 3, none⟩ = some (.bool r2.down) :=
          ⟨hb3.at (by simp [go_sem, *]), hb3.at (by simp [go_sem, *]), hb3.at (by simp [go_sem, *]), hb3.at (by simp [go_sem, *])⟩
        obtain ⟨z3q0, z3q1, z3q2, z3q3⟩ : w3.cell? ⟨w.heap.size + 1, 0, none⟩ = some (.slice none 0 0) ∧ w3.cell? ⟨w.heap.size + 1, 1, none⟩ = some (.slice none 0 0) ∧ w3.cell? ⟨w.heap.size + 1, 2, none⟩ = some (.int .i64 0) ∧ w3.cell? ⟨w.heap.size + 1, 3, none⟩ = some (.bool false) :=
          ⟨hb3.at (by simp [go_sem, *]), hb3.at (by simp [go_sem, *]), hb3.at (by simp [go_sem, *]), hb3.at (by simp [go_sem, *])⟩
        obtain ⟨b3g0, b3g1, b3g2, b3g3⟩ : w3.frozen? ⟨w.heap.size, 0, none⟩ = false ∧ w3.frozen? ⟨w.heap.size, 1, none⟩ = false ∧ w3.frozen? ⟨w.heap.size, 2, none⟩ = false ∧ w3.frozen? ⟨w.heap.size, 3, none⟩ = false :=
          ⟨(hb3.frozen wnA).trans (by simp [go_sem, *]), (hb3.frozen wnA).trans (by simp [go_sem, *]), (hb3.frozen wnA).trans (by simp [go_sem, *]), (hb3.frozen wnA).trans (by simp [go_sem, *])⟩
        obtain ⟨z3r0, z3r1, z3r2, z3r3⟩ : w3.frozen? ⟨w.heap.size + 1, 0, none⟩ = false ∧ w3.frozen? ⟨w.heap.size + 1, 1, none⟩ = false ∧ w3.frozen? ⟨w.heap.size + 1, 2, none⟩ = false ∧ w3.frozen? ⟨w.heap.size + 1, 3, none⟩ = false :=
          ⟨(hb3.frozen wnA).trans (by simp [go_sem, *]), (hb3.frozen wnA).trans (by simp [go_sem, *]), (hb3.frozen wnA).trans (by simp [go_sem, *]), (hb3.frozen wnA).trans (by simp [go_sem, *])⟩
        clear h1 h2 h3
        have hr3' := Lib.hid (show r3 = (Disk.sync (Disk.append (Disk.truncate ⟨s, t, cap, dn⟩ 0).1 b).1).1 by have e1 := hr1'.out; have e2 := hr2'.out; have e3 := hr3'.out; simp only at e1 e2 e3; rw [← e1, ← e2]; exact e3)
        go_wp2
        refine bodyPost_ret (v := .agg #[.slice D3 r3.s.length cd3, .slice E3 r3.t.length ce3, .int .i64 r3.cap, .bool r3.down]) (by simp [results, Tryz.results87, go_sem, *]) rfl ?_
        exact ⟨r3, D3, E3, cd3, ce3, Lib.hid (hr3'.out.trans HM.out), rfl, (show OR 5 (w.heap.size + 1 + 1) _ D3 cd3 r3.s from orA).rb.zero, (show OR 5 (w.heap.size + 1 + 1) _ E3 ce3 r3.t from orA).rb.zero, o13.le, o23.le, fun _ => ⟨(show OR 5 (w.heap.size + 1 + 1) _ D3 cd3 r3.s from orA).rb.mono (by omega), (show OR 5 (w.heap.size + 1 + 1) _ E3 ce3 r3.t from orA).rb.mono (by omega)⟩, abA⟩
      · have c3 : decide (3 ≤ k) = false := by simpa using h3
        have HM := Lib.hid (Slots.wr_2 (d := ⟨s, t, cap, dn⟩) (r := b) (k := k) h2 (by omega)).symm
        have hr2' := Lib.hid (show r2 = (Disk.append (Disk.truncate ⟨s, t, cap, dn⟩ 0).1 b).1 by have e1 := hr1'.out; have e2 := hr2'.out; simp only at e1 e2; rw [← e1]; exact e2)
        clear h1 h2 h3
        go_wp2
        refine bodyPost_ret (v := .agg #[.slice D2 r2.s.length cd2, .slice E2 r2.t.length ce2, .int .i64 r2.cap, .bool r2.down]) (by simp [results, Tryz.results87, go_sem, *]) rfl ?_
        exact ⟨r2, D2, E2, cd2, ce2, Lib.hid (hr2'.out.trans HM.out), rfl, (show OR 5 (w.heap.size + 1 + 1) _ D2 cd2 r2.s from orA).rb.zero, (show OR 5 (w.heap.size + 1 + 1) _ E2 ce2 r2.t from orA).rb.zero, o12.le, o22.le, fun _ => ⟨(show OR 5 (w.heap.size + 1 + 1) _ D2 cd2 r2.s from orA).rb.mono (by omega), (show OR 5 (w.heap.size + 1 + 1) _ E2 ce2 r2.t from orA).rb.mono (by omega)⟩, abA⟩
    · have c2 : decide (2 ≤ k) = false := by simpa using h2
      have c3 : decide (3 ≤ k) = false := by simp; omega
      have HM := Lib.hid (Slots.wr_1 (d := ⟨s, t, cap, dn⟩) (r := b) (k := k) h1 (by omega)).symm
      clear h1 h2
      go_wp2
      refine bodyPost_ret (v := .agg #[.slice D1 r1.s.length cd1, .slice E1 r1.t.length ce1, .int .i64 r1.cap, .bool r1.down]) (by simp [results, Tryz.results87, go_sem, *]) rfl ?_
      exact ⟨r1, D1, E1, cd1, ce1, Lib.hid (hr1'.out.trans HM.out), rfl, (show OR 5 (w.heap.size + 1 + 1) _ D1 cd1 r1.s from orA).rb.zero, (show OR 5 (w.heap.size + 1 + 1) _ E1 ce1 r1.t from orA).rb.zero, o11.le, o21.le, fun _ => ⟨(show OR 5 (w.heap.size + 1 + 1) _ D1 cd1 r1.s from orA).rb.mono (by omega), (show OR 5 (w.heap.size + 1 + 1) _ E1 ce1 r1.t from orA).rb.mono (by omega)⟩, abA⟩
  · have c1 : decide (1 ≤ k) = false := by simpa using h1
    have c2 : decide (2 ≤ k) = false := by simp; omega
    have c3 : decide (3 ≤ k) = false := by simp; omega
    have HM := Lib.hid (Slots.wr_0 (d := ⟨s, t, cap, dn⟩) (r := b) (k := k) (by omega)).symm
    go_enter Tryz.func87, Tryz.ntmps87
    go_wp2
    refine bodyPost_ret (v := .agg #[.slice A s.length ca, .slice B t.length cb, .int .i64 cap, .bool dn]) (by simp [results, Tryz.results87, go_sem, *]) rfl ?_
    exact ⟨⟨s, t, cap, dn⟩, A, B, ca, cb, HM, rfl, hs.ab abA, ht.ab abA, hca, hcb, fun k => absurd k (by omega), abA⟩
end Go.Proofs.YthgcfjhnnhigoaaGreat

/- Save of package slots, walked. Own work. -/
namespace Go.Proofs.YthgcfjhnnhigoaaGreat
open Go.RowKit
open Slots (Sl)
open Disk (Dev)

set_option maxRecDepth 100000 in
theorem ssave_any (m : AM) (r : Sl) (w : World) (h : SlM w 0 m r) (X : Option Addr) (b : List UInt8) (cx : Nat) (hx : RB w 0 X b) (hcx : b.length ≤ cx) :
    Calls Tryz.prog 52 #[.agg #[.slice m.A r.a.s.length m.ca, .slice m.B r.a.t.length m.cb, .int .i64 r.a.cap, .bool r.a.down, .slice m.C r.b.s.length m.cc, .slice m.D r.b.t.length m.cd, .int .i64 r.b.cap, .bool r.b.down, .int .i64 r.n], .slice X b.length cx] w (RetSl3 w (Slots.save r b)) := by
  obtain ⟨A, B, C, D, ca, cb, cc, cd⟩ := m
  obtain ⟨⟨s, t, cap, dn⟩, ⟨p, q, cep, dm⟩, n⟩ := r
  dsimp only
  go_enter Tryz.func52, Tryz.ntmps52
  go_wp2_with fail
  refine (sencode_any (⟨A, B, C, D, ca, cb, cc, cd⟩ : AM) (⟨⟨s, t, cap, dn⟩, ⟨p, q, cep, dm⟩, n⟩ : Sl) _ (h.ab abA) X b cx (hx.ab abA) hcx).mono ?_
  rintro e w1 ⟨er, L, E, ce, hr, hL, rfl, hE, hce, hL2, hb1⟩
  have hz : Ab ((w.alloc (.cells #[.slice A s.length ca, .slice B t.length cb, .int .i64 cap, .bool dn, .slice C p.length cc, .slice D q.length cd, .int .i64 cep, .bool dm, .int .i64 n] 27)).alloc (.cells #[.slice none 0 0, .slice none 0 0, .int .i64 0, .bool false, .slice none 0 0, .slice none 0 0, .int .i64 0, .bool false, .int .i64 0] 27)) w1 := abA
  have hbx := (SlB.box (w := (w.alloc (.cells #[.slice A s.length ca, .slice B t.length cb, .int .i64 cap, .bool dn, .slice C p.length cc, .slice D q.length cd, .int .i64 cep, .bool dm, .int .i64 n] 27)).alloc (.cells #[.slice none 0 0, .slice none 0 0, .int .i64 0, .bool false, .slice none 0 0, .slice none 0 0, .int .i64 0, .bool false, .int .i64 0] 27)) (b := w.heap.size) (m := (⟨A, B, C, D, ca, cb, cc, cd⟩ : AM)) (r := (⟨⟨s, t, cap, dn⟩, ⟨p, q, cep, dm⟩, n⟩ : Sl)) (old_alloc (new_plain rfl))).ab hz
  have hrx := (SlB.box (w := (w.alloc (.cells #[.slice A s.length ca, .slice B t.length cb, .int .i64 cap, .bool dn, .slice C p.length cc, .slice D q.length cd, .int .i64 cep, .bool dm, .int .i64 n] 27)).alloc (.cells #[.slice none 0 0, .slice none 0 0, .int .i64 0, .bool false, .slice none 0 0, .slice none 0 0, .int .i64 0, .bool false, .int .i64 0] 27)) (b := w.heap.size + 1) (m := AM.nil) (r := Slots.zero) (new_plain (by simp))).ab hz
  have zz := hz.size
  simp at zz
  by_cases he : er = 0
  · have hask := (hr.out.symm.trans he)
    have HL := Lib.hid (hL.out he)
    obtain ⟨hg, hlb, hn1, hroom⟩ := Slots.asked_good hask
    have HM := Lib.hid (show Slots.save (⟨⟨s, t, cap, dn⟩, ⟨p, q, cep, dm⟩, n⟩ : Sl) b = _ from if_neg (by rw [hask]; simp))
    have HG := Lib.hid hg
    have hn0 : 0 ≤ n := by have := hg.lo; simp only at this; omega
    have hlL : L.length = 12 + b.length := by rw [HL.out, Frame.enc_length]
    have HN := Lib.hid (show n ≤ 1000000000 from hn1)
    have HR := Lib.hid hroom
    have HK := Lib.hid hlL
    obtain rfl : er = 0 := he
    clear hr hL hask hg hlb hn1 hroom hlL
    have hn2 : n ≤ 1000000000 := HN.out
    rcases Int.emod_two_eq n with hp | hp
    · have HBX := hbx
      obtain ⟨vq0, vq1, vq2, vq3, vq4, vq5, vq6, vq7, vq8, vg0, vg1, vg2, vg3, vg4, vg5, vg6, vg7, vg8⟩ := hbx
      (try simp only [AM.nil, Slots.zero, Disk.zero, List.length_nil] at vq0 vq1 vq2 vq3 vq4 vq5 vq6 vq7 vq8)
      have HP := Lib.hid hp
      clear hp
      go_upto_region 4 with fail
      go_quiet ((go_at_call 86
                 exact Calls.quiet_of_same (slotOf_any n 0 hn0 HP.out _)))
      generalize hwn : w1.drewN _ = w2
      have b2 : Ab w1 w2 := by rw [← hwn]; exact (Ab.refl w1).drewN _
      clear hwn vq0 vq1 vq2 vq3 vq4 vq5 vq6 vq7 vq8 vg0 vg1 vg2 vg3 vg4 vg5 vg6 vg7 vg8
      obtain ⟨vq0, vq1, vq2, vq3, vq4, vq5, vq6, vq7, vq8, vg0, vg1, vg2, vg3, vg4, vg5, vg6, vg7, vg8⟩ := (HBX.ab b2)
      (try simp only [AM.nil, Slots.zero, Disk.zero, List.length_nil] at vq0 vq1 vq2 vq3 vq4 vq5 vq6 vq7 vq8)
      obtain ⟨zq0, zq1, zq2, zq3, zq4, zq5, zq6, zq7, zq8, zg0, zg1, zg2, zg3, zg4, zg5, zg6, zg7, zg8⟩ := (hrx.ab b2)
      (try simp only [AM.nil, Slots.zero, Disk.zero, List.length_nil] at zq0 zq1 zq2 zq3 zq4 zq5 zq6 zq7 zq8)
      have zz2 := Nat.le_trans zz b2.size
      go_wp2_with fail
      refine (write_any A B ca cb s t cap dn _ (RB.ab h.a abA) (RB.ab h.b abA) h.la h.lb h.sa h.sb E ce L (hE.zero.ab b2) hce (by omega) 3).mono ?_
      rintro e w3 ⟨r3, D3, E3, cd3, ce3, hr3, rfl, m1, m2, l1, l2, hown, hb3⟩
      obtain ⟨o1, o2⟩ := hown (by decide)
      have hD3 := o1.mono (show w.heap.size + 1 + 1 ≤ w2.heap.size from zz2)
      have hE3 := o2.mono (show w.heap.size + 1 + 1 ≤ w2.heap.size from zz2)
      have zz3 := Nat.le_trans zz2 hb3.size
      have s3 := Lib.hid (show Slots.Small r3 by rw [hr3.out]; exact Slots.small_wr _ _ ⟨h.sa, h.sb⟩)
      clear m1 m2 o1 o2 hown vq0 vq1 vq2 vq3 vq4 vq5 vq6 vq7 vq8 vg0 vg1 vg2 vg3 vg4 vg5 vg6 vg7 vg8 zq0 zq1 zq2 zq3 zq4 zq5 zq6 zq7 zq8 zg0 zg1 zg2 zg3 zg4 zg5 zg6 zg7 zg8
      obtain ⟨vq0, vq1, vq2, vq3, vq4, vq5, vq6, vq7, vq8, vg0, vg1, vg2, vg3, vg4, vg5, vg6, vg7, vg8⟩ := ((HBX.ab b2).ab hb3)
      (try simp only [AM.nil, Slots.zero, Disk.zero, List.length_nil] at vq0 vq1 vq2 vq3 vq4 vq5 vq6 vq7 vq8)
      obtain ⟨zq0, zq1, zq2, zq3, zq4, zq5, zq6, zq7, zq8, zg0, zg1, zg2, zg3, zg4, zg5, zg6, zg7, zg8⟩ := ((hrx.ab b2).ab hb3)
      (try simp only [AM.nil, Slots.zero, Disk.zero, List.length_nil] at zq0 zq1 zq2 zq3 zq4 zq5 zq6 zq7 zq8)
      have b3 : Ab w w3 := abA
      go_wp2_with fail
      refine (sync_any C D cc cd p q cep dm _ (RB.ab h.c abA) (RB.ab h.d abA) h.lc h.ld h.sc h.sd).mono ?_
      rintro e w4 ⟨r4, er4, D4, E4, cd4, ce4, hr4, rfl, o1, o2, hb4⟩
      have hS := (Prod.mk.inj (hr4.out.trans (Slots.sync_ok HG.out.b))).1
      have hr4' := Lib.hid (show r4 = ⟨p, q, cep, dm⟩ from hS)
      have s4 := Lib.hid (show Slots.Small r4 by rw [hS]; exact ⟨h.sc, h.sd⟩)
      have hv4 : SlB w4 w.heap.size ⟨D3, E3, C, D, cd3, ce3, cc, cd⟩ ⟨r3, ⟨p, q, cep, dm⟩, n⟩ := ⟨hb4.at (by simp [go_sem, *]), hb4.at (by simp [go_sem, *]), hb4.at (by simp [go_sem, *]), hb4.at (by simp [go_sem, *]), hb4.at (by simp [go_sem, *]), hb4.at (by simp [go_sem, *]), hb4.at (by simp [go_sem, *]), hb4.at (by simp [go_sem, *]), hb4.at (by simp [go_sem, *]), (hb4.frozen wnA).trans (by simp [go_sem, *]), (hb4.frozen wnA).trans (by simp [go_sem, *]), (hb4.frozen wnA).trans (by simp [go_sem, *]), (hb4.frozen wnA).trans (by simp [go_sem, *]), (hb4.frozen wnA).trans (by simp [go_sem, *]), (hb4.frozen wnA).trans (by simp [go_sem, *]), (hb4.frozen wnA).trans (by simp [go_sem, *]), (hb4.frozen wnA).trans (by simp [go_sem, *]), (hb4.frozen wnA).trans (by simp [go_sem, *])⟩
      have hz4 : SlB w4 (w.heap.size + 1) AM.nil Slots.zero := ⟨hb4.at (by simp [go_sem, AM.nil, Slots.zero, Disk.zero, *]), hb4.at (by simp [go_sem, AM.nil, Slots.zero, Disk.zero, *]), hb4.at (by simp [go_sem, AM.nil, Slots.zero, Disk.zero, *]), hb4.at (by simp [go_sem, AM.nil, Slots.zero, Disk.zero, *]), hb4.at (by simp [go_sem, AM.nil, Slots.zero, Disk.zero, *]), hb4.at (by simp [go_sem, AM.nil, Slots.zero, Disk.zero, *]), hb4.at (by simp [go_sem, AM.nil, Slots.zero, Disk.zero, *]), hb4.at (by simp [go_sem, AM.nil, Slots.zero, Disk.zero, *]), hb4.at (by simp [go_sem, AM.nil, Slots.zero, Disk.zero, *]), (hb4.frozen wnA).trans (by simp [go_sem, *]), (hb4.frozen wnA).trans (by simp [go_sem, *]), (hb4.frozen wnA).trans (by simp [go_sem, *]), (hb4.frozen wnA).trans (by simp [go_sem, *]), (hb4.frozen wnA).trans (by simp [go_sem, *]), (hb4.frozen wnA).trans (by simp [go_sem, *]), (hb4.frozen wnA).trans (by simp [go_sem, *]), (hb4.frozen wnA).trans (by simp [go_sem, *]), (hb4.frozen wnA).trans (by simp [go_sem, *])⟩
      have zz4 : w.heap.size + 1 + 1 ≤ w4.heap.size := Nat.le_trans zz3 (by have := hb4.size; simpa using this)
      have hD4 : RB w4 (w.heap.size + 1 + 1) D4 r4.s := o1.rb.mono (by simp; omega)
      have hE4 : RB w4 (w.heap.size + 1 + 1) E4 r4.t := o2.rb.mono (by simp; omega)
      have hD3' : RB w4 (w.heap.size + 1 + 1) D3 r3.s := (by repeat (first | with_reducible assumption | with_reducible refine RB.put ?_ wnA _ | (with_reducible refine RB.ab ?_ (by assumption))))
      have hE3' : RB w4 (w.heap.size + 1 + 1) E3 r3.t := (by repeat (first | with_reducible assumption | with_reducible refine RB.put ?_ wnA _ | (with_reducible refine RB.ab ?_ (by assumption))))
      have b4 : Ab w w4 := abA
      have k3 := l1
      have j3 := l2
      have k4 := o1.le
      have j4 := o2.le
      have hnw : IntKind.i64.wrap (n + 1) = n + 1 := IntWalk.i64_in _ (by omega)
      clear hS hr4 o1 o2 vq0 vq1 vq2 vq3 vq4 vq5 vq6 vq7 vq8 vg0 vg1 vg2 vg3 vg4 vg5 vg6 vg7 vg8 zq0 zq1 zq2 zq3 zq4 zq5 zq6 zq7 zq8 zg0 zg1 zg2 zg3 zg4 zg5 zg6 zg7 zg8
      obtain ⟨vq0, vq1, vq2, vq3, vq4, vq5, vq6, vq7, vq8, vg0, vg1, vg2, vg3, vg4, vg5, vg6, vg7, vg8⟩ := hv4
      (try simp only [AM.nil, Slots.zero, Disk.zero, List.length_nil] at vq0 vq1 vq2 vq3 vq4 vq5 vq6 vq7 vq8)
      obtain ⟨zq0, zq1, zq2, zq3, zq4, zq5, zq6, zq7, zq8, zg0, zg1, zg2, zg3, zg4, zg5, zg6, zg7, zg8⟩ := hz4
      (try simp only [AM.nil, Slots.zero, Disk.zero, List.length_nil] at zq0 zq1 zq2 zq3 zq4 zq5 zq6 zq7 zq8)
      go_wp2
      refine bodyPost_ret (v := .tuple #[.agg #[.slice D3 r3.s.length cd3, .slice E3 r3.t.length ce3, .int .i64 r3.cap, .bool r3.down, .slice D4 r4.s.length cd4, .slice E4 r4.t.length ce4, .int .i64 r4.cap, .bool r4.down, .int .i64 (n + 1)], .int .i64 n, .int .i64 0]) (by simp [results, Tryz.results52, go_sem, *]) rfl ?_
      refine ⟨⟨r3, r4, n + 1⟩, n, 0, ⟨D3, E3, D4, E4, cd3, ce3, cd4, ce4⟩, Lib.hid ?_, rfl, ⟨RB.zero (lo := w.heap.size + 1 + 1) (by repeat (first | with_reducible assumption | with_reducible refine RB.put ?_ wnA _ | (with_reducible refine RB.ab ?_ (by assumption)))), RB.zero (lo := w.heap.size + 1 + 1) (by repeat (first | with_reducible assumption | with_reducible refine RB.put ?_ wnA _ | (with_reducible refine RB.ab ?_ (by assumption)))), RB.zero (lo := w.heap.size + 1 + 1) (by repeat (first | with_reducible assumption | with_reducible refine RB.put ?_ wnA _ | (with_reducible refine RB.ab ?_ (by assumption)))), RB.zero (lo := w.heap.size + 1 + 1) (by repeat (first | with_reducible assumption | with_reducible refine RB.put ?_ wnA _ | (with_reducible refine RB.ab ?_ (by assumption)))), k3, j3, k4, j4, s3.out.1, s3.out.2, s4.out.1, s4.out.2⟩, abA⟩
      rw [HM.out, hr3.out, hr4'.out, HL.out]
      simp [Slots.Sl.put, Slots.Sl.cur, Slots.Sl.oth, HP.out]
    · have HBX := hbx
      obtain ⟨vq0, vq1, vq2, vq3, vq4, vq5, vq6, vq7, vq8, vg0, vg1, vg2, vg3, vg4, vg5, vg6, vg7, vg8⟩ := hbx
      (try simp only [AM.nil, Slots.zero, Disk.zero, List.length_nil] at vq0 vq1 vq2 vq3 vq4 vq5 vq6 vq7 vq8)
      have HP := Lib.hid hp
      clear hp
      go_upto_region 4 with fail
      go_quiet ((go_at_call 86
                 exact Calls.quiet_of_same (slotOf_any n 1 hn0 HP.out _)))
      generalize hwn : w1.drewN _ = w2
      have b2 : Ab w1 w2 := by rw [← hwn]; exact (Ab.refl w1).drewN _
      clear hwn vq0 vq1 vq2 vq3 vq4 vq5 vq6 vq7 vq8 vg0 vg1 vg2 vg3 vg4 vg5 vg6 vg7 vg8
      obtain ⟨vq0, vq1, vq2, vq3, vq4, vq5, vq6, vq7, vq8, vg0, vg1, vg2, vg3, vg4, vg5, vg6, vg7, vg8⟩ := (HBX.ab b2)
      (try simp only [AM.nil, Slots.zero, Disk.zero, List.length_nil] at vq0 vq1 vq2 vq3 vq4 vq5 vq6 vq7 vq8)
      obtain ⟨zq0, zq1, zq2, zq3, zq4, zq5, zq6, zq7, zq8, zg0, zg1, zg2, zg3, zg4, zg5, zg6, zg7, zg8⟩ := (hrx.ab b2)
      (try simp only [AM.nil, Slots.zero, Disk.zero, List.length_nil] at zq0 zq1 zq2 zq3 zq4 zq5 zq6 zq7 zq8)
      have zz2 := Nat.le_trans zz b2.size
      go_wp2_with fail
      refine (write_any C D cc cd p q cep dm _ (RB.ab h.c abA) (RB.ab h.d abA) h.lc h.ld h.sc h.sd E ce L (hE.zero.ab b2) hce (by omega) 3).mono ?_
      rintro e w3 ⟨r3, D3, E3, cd3, ce3, hr3, rfl, m1, m2, l1, l2, hown, hb3⟩
      obtain ⟨o1, o2⟩ := hown (by decide)
      have hD3 := o1.mono (show w.heap.size + 1 + 1 ≤ w2.heap.size from zz2)
      have hE3 := o2.mono (show w.heap.size + 1 + 1 ≤ w2.heap.size from zz2)
      have zz3 := Nat.le_trans zz2 hb3.size
      have s3 := Lib.hid (show Slots.Small r3 by rw [hr3.out]; exact Slots.small_wr _ _ ⟨h.sc, h.sd⟩)
      clear m1 m2 o1 o2 hown vq0 vq1 vq2 vq3 vq4 vq5 vq6 vq7 vq8 vg0 vg1 vg2 vg3 vg4 vg5 vg6 vg7 vg8 zq0 zq1 zq2 zq3 zq4 zq5 zq6 zq7 zq8 zg0 zg1 zg2 zg3 zg4 zg5 zg6 zg7 zg8
      obtain ⟨vq0, vq1, vq2, vq3, vq4, vq5, vq6, vq7, vq8, vg0, vg1, vg2, vg3, vg4, vg5, vg6, vg7, vg8⟩ := ((HBX.ab b2).ab hb3)
      (try simp only [AM.nil, Slots.zero, Disk.zero, List.length_nil] at vq0 vq1 vq2 vq3 vq4 vq5 vq6 vq7 vq8)
      obtain ⟨zq0, zq1, zq2, zq3, zq4, zq5, zq6, zq7, zq8, zg0, zg1, zg2, zg3, zg4, zg5, zg6, zg7, zg8⟩ := ((hrx.ab b2).ab hb3)
      (try simp only [AM.nil, Slots.zero, Disk.zero, List.length_nil] at zq0 zq1 zq2 zq3 zq4 zq5 zq6 zq7 zq8)
      have b3 : Ab w w3 := abA
      go_wp2_with fail
      refine (sync_any A B ca cb s t cap dn _ (RB.ab h.a abA) (RB.ab h.b abA) h.la h.lb h.sa h.sb).mono ?_
      rintro e w4 ⟨r4, er4, D4, E4, cd4, ce4, hr4, rfl, o1, o2, hb4⟩
      have hS := (Prod.mk.inj (hr4.out.trans (Slots.sync_ok HG.out.a))).1
      have hr4' := Lib.hid (show r4 = ⟨s, t, cap, dn⟩ from hS)
      have s4 := Lib.hid (show Slots.Small r4 by rw [hS]; exact ⟨h.sa, h.sb⟩)
      have hv4 : SlB w4 w.heap.size ⟨A, B, D3, E3, ca, cb, cd3, ce3⟩ ⟨⟨s, t, cap, dn⟩, r3, n⟩ := ⟨hb4.at (by simp [go_sem, *]), hb4.at (by simp [go_sem, *]), hb4.at (by simp [go_sem, *]), hb4.at (by simp [go_sem, *]), hb4.at (by simp [go_sem, *]), hb4.at (by simp [go_sem, *]), hb4.at (by simp [go_sem, *]), hb4.at (by simp [go_sem, *]), hb4.at (by simp [go_sem, *]), (hb4.frozen wnA).trans (by simp [go_sem, *]), (hb4.frozen wnA).trans (by simp [go_sem, *]), (hb4.frozen wnA).trans (by simp [go_sem, *]), (hb4.frozen wnA).trans (by simp [go_sem, *]), (hb4.frozen wnA).trans (by simp [go_sem, *]), (hb4.frozen wnA).trans (by simp [go_sem, *]), (hb4.frozen wnA).trans (by simp [go_sem, *]), (hb4.frozen wnA).trans (by simp [go_sem, *]), (hb4.frozen wnA).trans (by simp [go_sem, *])⟩
      have hz4 : SlB w4 (w.heap.size + 1) AM.nil Slots.zero := ⟨hb4.at (by simp [go_sem, AM.nil, Slots.zero, Disk.zero, *]), hb4.at (by simp [go_sem, AM.nil, Slots.zero, Disk.zero, *]), hb4.at (by simp [go_sem, AM.nil, Slots.zero, Disk.zero, *]), hb4.at (by simp [go_sem, AM.nil, Slots.zero, Disk.zero, *]), hb4.at (by simp [go_sem, AM.nil, Slots.zero, Disk.zero, *]), hb4.at (by simp [go_sem, AM.nil, Slots.zero, Disk.zero, *]), hb4.at (by simp [go_sem, AM.nil, Slots.zero, Disk.zero, *]), hb4.at (by simp [go_sem, AM.nil, Slots.zero, Disk.zero, *]), hb4.at (by simp [go_sem, AM.nil, Slots.zero, Disk.zero, *]), (hb4.frozen wnA).trans (by simp [go_sem, *]), (hb4.frozen wnA).trans (by simp [go_sem, *]), (hb4.frozen wnA).trans (by simp [go_sem, *]), (hb4.frozen wnA).trans (by simp [go_sem, *]), (hb4.frozen wnA).trans (by simp [go_sem, *]), (hb4.frozen wnA).trans (by simp [go_sem, *]), (hb4.frozen wnA).trans (by simp [go_sem, *]), (hb4.frozen wnA).trans (by simp [go_sem, *]), (hb4.frozen wnA).trans (by simp [go_sem, *])⟩
      have zz4 : w.heap.size + 1 + 1 ≤ w4.heap.size := Nat.le_trans zz3 (by have := hb4.size; simpa using this)
      have hD4 : RB w4 (w.heap.size + 1 + 1) D4 r4.s := o1.rb.mono (by simp; omega)
      have hE4 : RB w4 (w.heap.size + 1 + 1) E4 r4.t := o2.rb.mono (by simp; omega)
      have hD3' : RB w4 (w.heap.size + 1 + 1) D3 r3.s := (by repeat (first | with_reducible assumption | with_reducible refine RB.put ?_ wnA _ | (with_reducible refine RB.ab ?_ (by assumption))))
      have hE3' : RB w4 (w.heap.size + 1 + 1) E3 r3.t := (by repeat (first | with_reducible assumption | with_reducible refine RB.put ?_ wnA _ | (with_reducible refine RB.ab ?_ (by assumption))))
      have b4 : Ab w w4 := abA
      have k3 := l1
      have j3 := l2
      have k4 := o1.le
      have j4 := o2.le
      have hnw : IntKind.i64.wrap (n + 1) = n + 1 := IntWalk.i64_in _ (by omega)
      clear hS hr4 o1 o2 vq0 vq1 vq2 vq3 vq4 vq5 vq6 vq7 vq8 vg0 vg1 vg2 vg3 vg4 vg5 vg6 vg7 vg8 zq0 zq1 zq2 zq3 zq4 zq5 zq6 zq7 zq8 zg0 zg1 zg2 zg3 zg4 zg5 zg6 zg7 zg8
      obtain ⟨vq0, vq1, vq2, vq3, vq4, vq5, vq6, vq7, vq8, vg0, vg1, vg2, vg3, vg4, vg5, vg6, vg7, vg8⟩ := hv4
      (try simp only [AM.nil, Slots.zero, Disk.zero, List.length_nil] at vq0 vq1 vq2 vq3 vq4 vq5 vq6 vq7 vq8)
      obtain ⟨zq0, zq1, zq2, zq3, zq4, zq5, zq6, zq7, zq8, zg0, zg1, zg2, zg3, zg4, zg5, zg6, zg7, zg8⟩ := hz4
      (try simp only [AM.nil, Slots.zero, Disk.zero, List.length_nil] at zq0 zq1 zq2 zq3 zq4 zq5 zq6 zq7 zq8)
      go_wp2
      refine bodyPost_ret (v := .tuple #[.agg #[.slice D4 r4.s.length cd4, .slice E4 r4.t.length ce4, .int .i64 r4.cap, .bool r4.down, .slice D3 r3.s.length cd3, .slice E3 r3.t.length ce3, .int .i64 r3.cap, .bool r3.down, .int .i64 (n + 1)], .int .i64 n, .int .i64 0]) (by simp [results, Tryz.results52, go_sem, *]) rfl ?_
      refine ⟨⟨r4, r3, n + 1⟩, n, 0, ⟨D4, E4, D3, E3, cd4, ce4, cd3, ce3⟩, Lib.hid ?_, rfl, ⟨RB.zero (lo := w.heap.size + 1 + 1) (by repeat (first | with_reducible assumption | with_reducible refine RB.put ?_ wnA _ | (with_reducible refine RB.ab ?_ (by assumption)))), RB.zero (lo := w.heap.size + 1 + 1) (by repeat (first | with_reducible assumption | with_reducible refine RB.put ?_ wnA _ | (with_reducible refine RB.ab ?_ (by assumption)))), RB.zero (lo := w.heap.size + 1 + 1) (by repeat (first | with_reducible assumption | with_reducible refine RB.put ?_ wnA _ | (with_reducible refine RB.ab ?_ (by assumption)))), RB.zero (lo := w.heap.size + 1 + 1) (by repeat (first | with_reducible assumption | with_reducible refine RB.put ?_ wnA _ | (with_reducible refine RB.ab ?_ (by assumption)))), k4, j4, k3, j3, s4.out.1, s4.out.2, s3.out.1, s3.out.2⟩, abA⟩
      rw [HM.out, hr3.out, hr4'.out, HL.out]
      simp [Slots.Sl.put, Slots.Sl.cur, Slots.Sl.oth, HP.out]
  · have HM := Lib.hid (show Slots.save (⟨⟨s, t, cap, dn⟩, ⟨p, q, cep, dm⟩, n⟩ : Sl) b = _ from if_pos (by rw [← hr.out]; exact he))
    have hne : (er != 0) = true := by simpa using he
    have HE := Lib.hid hr.out
    obtain ⟨vq0, vq1, vq2, vq3, vq4, vq5, vq6, vq7, vq8, vg0, vg1, vg2, vg3, vg4, vg5, vg6, vg7, vg8⟩ := hbx
    (try simp only [AM.nil, Slots.zero, Disk.zero, List.length_nil] at vq0 vq1 vq2 vq3 vq4 vq5 vq6 vq7 vq8)
    obtain ⟨zq0, zq1, zq2, zq3, zq4, zq5, zq6, zq7, zq8, zg0, zg1, zg2, zg3, zg4, zg5, zg6, zg7, zg8⟩ := hrx
    (try simp only [AM.nil, Slots.zero, Disk.zero, List.length_nil] at zq0 zq1 zq2 zq3 zq4 zq5 zq6 zq7 zq8)
    clear hr hL he
    go_wp2
    refine bodyPost_ret (v := .tuple #[(.agg #[.slice none 0 0, .slice none 0 0, .int .i64 0, .bool false, .slice none 0 0, .slice none 0 0, .int .i64 0, .bool false, .int .i64 0]), .int .i64 0, .int .i64 er]) (by simp [results, Tryz.results52, go_sem, *]) rfl ?_
    exact RetSl3.zero (by rw [HM.out, ← HE.out]) abA
end Go.Proofs.YthgcfjhnnhigoaaGreat

/- New of package slots, walked. Own work. -/
namespace Go.Proofs.YthgcfjhnnhigoaaGreat
open Go.RowKit
open Slots (Sl)
open Disk (Dev)

def AM.new (X Y Z T : Option Addr) (a b c d : Nat) : AM := ⟨X, Y, Z, T, a, b, c, d⟩
/-- The variable and the result of New. -/
def NewSt (w wr : World) (m : AM) (r : Sl) : Prop :=
  SlB wr w.heap.size AM.nil Slots.zero ∧ SlB wr (w.heap.size + 1) m r ∧ SlM wr (w.heap.size + 1 + 1) m r ∧ Ab w wr ∧ w.heap.size + 1 + 1 ≤ wr.heap.size

set_option maxRecDepth 100000 in
theorem snew_any (c : Int) (w : World) :
    Calls Tryz.prog 36 #[.int .i64 c] w (RetSlE w (Slots.new c)) := by
  go_enter Tryz.func36, Tryz.ntmps36
  go_wp2
  go_loopw [9] (fun i wr => ∃ m r, NewSt w wr m r ∧ (i = .int .i64 0 ∧ Hid (r = ⟨Disk.zero, Disk.zero, 1⟩) ∨ i = .int .i64 1 ∧ Hid (¬ (c < 0 ∨ 20000 < c)) ∧ Hid (r = ⟨⟨[], [], c, false⟩, Disk.zero, 1⟩) ∨
      i = .int .i64 2 ∧ Hid (Slots.new c = (r, 0)))) (fun i _ => 2 - (intOf i).toNat)
  case atStart =>
    refine ⟨AM.nil, ⟨Disk.zero, Disk.zero, 1⟩, ⟨⟨?_, ?_, ?_, ?_, ?_, ?_, ?_, ?_, ?_, ?_, ?_, ?_, ?_, ?_, ?_, ?_, ?_, ?_⟩, ⟨?_, ?_, ?_, ?_, ?_, ?_, ?_, ?_, ?_, ?_, ?_, ?_, ?_, ?_, ?_, ?_, ?_, ?_⟩, ⟨RB.nil, RB.nil, RB.nil, RB.nil, Nat.le_refl _, Nat.le_refl _, Nat.le_refl _, Nat.le_refl _, Nat.zero_le _, Nat.zero_le _, Nat.zero_le _, Nat.zero_le _⟩, abA, ?_⟩, .inl ⟨rfl, rfl⟩⟩ <;> simp [go_sem, AM.nil, Slots.zero, Disk.zero]
  case round =>
    obtain ⟨m, r, ⟨hz, hv, hm, hab, hsz⟩, hi⟩ := hrel
    rcases hi with ⟨rfl, ho⟩ | ⟨rfl, hc, ho⟩ | ⟨rfl, ho⟩
    · go_wp2_with fail
      refine (new_any c _).mono ?_
      rintro e w1 ⟨r1, er, D1, E1, d1, e1, hr1, rfl, o1, o2, hb1⟩
      have bW : Ab wr w1 := abA
      have hsz1 := Nat.le_trans hsz bW.size
      obtain ⟨zq0, zq1, zq2, zq3, zq4, zq5, zq6, zq7, zq8, zg0, zg1, zg2, zg3, zg4, zg5, zg6, zg7, zg8⟩ := (hz.ab bW)
      (try simp only [AM.nil, Slots.zero, Disk.zero, List.length_nil] at zq0 zq1 zq2 zq3 zq4 zq5 zq6 zq7 zq8)
      obtain ⟨vq0, vq1, vq2, vq3, vq4, vq5, vq6, vq7, vq8, vg0, vg1, vg2, vg3, vg4, vg5, vg6, vg7, vg8⟩ := (hv.ab bW)
      (try simp only [AM.nil, Slots.zero, Disk.zero, List.length_nil] at vq0 vq1 vq2 vq3 vq4 vq5 vq6 vq7 vq8)
      have nza := fun (o : Obj) (j : Nat) => World.cell?_alloc_lt w1 o ⟨w.heap.size, j, none⟩ (by simp only; omega)
      have nzb := fun (o : Obj) (j : Nat) => ((Ab.refl w1).alloc o).frozen (p := ⟨w.heap.size, j, none⟩) (by simp only; omega)
      have nva := fun (o : Obj) (j : Nat) => World.cell?_alloc_lt w1 o ⟨w.heap.size + 1, j, none⟩ (by simp only; omega)
      have nvb := fun (o : Obj) (j : Nat) => ((Ab.refl w1).alloc o).frozen (p := ⟨w.heap.size + 1, j, none⟩) (by simp only; omega)
      have hne : w.heap.size + 1 ≠ w1.heap.size := by omega
      have hne2 : w.heap.size ≠ w1.heap.size := by omega
      by_cases hbad : c < 0 ∨ 20000 < c
      · obtain rfl : er = 2 := (Prod.mk.inj (hr1.out.trans (show Disk.new c = _ from if_pos hbad))).2
        have HM := Lib.hid (show Slots.new c = _ from if_pos hbad)
        clear hr1 hbad
        go_wp2
        refine bodyPost_ret (v := .tuple #[(.agg #[.slice none 0 0, .slice none 0 0, .int .i64 0, .bool false, .slice none 0 0, .slice none 0 0, .int .i64 0, .bool false, .int .i64 0]), .int .i64 2]) (by simp [results, Tryz.results36, go_sem, *]) rfl ?_
        exact RetSlE.zero HM.out.symm abA
      · have h1 := Prod.mk.inj (hr1.out.trans (show Disk.new c = _ from if_neg hbad))
        obtain rfl : er = 0 := h1.2
        have HR := Lib.hid h1.1
        have HN := Lib.hid hbad
        have l1 : r1.s.length ≤ 1000000 ∧ r1.t.length ≤ 1000000 := by rw [h1.1]; exact ⟨Nat.zero_le _, Nat.zero_le _⟩
        have hM : SlM w1 (w.heap.size + 1 + 1) ⟨D1, E1, m.C, m.D, d1, e1, m.cc, m.cd⟩ ⟨r1, r.b, r.n⟩ :=
          ⟨o1.rb.mono wnA, o2.rb.mono wnA, (hm.ab bW).c, (hm.ab bW).d, o1.le, o2.le, hm.lc, hm.ld, l1.1, l1.2, hm.sc, hm.sd⟩
        have HO := Lib.hid (show (⟨r1, r.b, r.n⟩ : Sl) = ⟨⟨[], [], c, false⟩, Disk.zero, 1⟩ by rw [ho.out, h1.1])
        clear hr1 h1 hbad l1
        go_wp2
        go_roundw
        case rel => exact ⟨_, _, ⟨⟨(by simp [go_sem, AM.nil, Slots.zero, Disk.zero, *]), (by simp [go_sem, AM.nil, Slots.zero, Disk.zero, *]), (by simp [go_sem, AM.nil, Slots.zero, Disk.zero, *]), (by simp [go_sem, AM.nil, Slots.zero, Disk.zero, *]), (by simp [go_sem, AM.nil, Slots.zero, Disk.zero, *]), (by simp [go_sem, AM.nil, Slots.zero, Disk.zero, *]), (by simp [go_sem, AM.nil, Slots.zero, Disk.zero, *]), (by simp [go_sem, AM.nil, Slots.zero, Disk.zero, *]), (by simp [go_sem, AM.nil, Slots.zero, Disk.zero, *]), (by simp [go_sem, AM.nil, Slots.zero, Disk.zero, *]), (by simp [go_sem, AM.nil, Slots.zero, Disk.zero, *]), (by simp [go_sem, AM.nil, Slots.zero, Disk.zero, *]), (by simp [go_sem, AM.nil, Slots.zero, Disk.zero, *]), (by simp [go_sem, AM.nil, Slots.zero, Disk.zero, *]), (by simp [go_sem, AM.nil, Slots.zero, Disk.zero, *]), (by simp [go_sem, AM.nil, Slots.zero, Disk.zero, *]), (by simp [go_sem, AM.nil, Slots.zero, Disk.zero, *]), (by simp [go_sem, AM.nil, Slots.zero, Disk.zero, *])⟩, ⟨(by simp [go_sem, AM.nil, Slots.zero, Disk.zero, *]), (by simp [go_sem, AM.nil, Slots.zero, Disk.zero, *]), (by simp [go_sem, AM.nil, Slots.zero, Disk.zero, *]), (by simp [go_sem, AM.nil, Slots.zero, Disk.zero, *]), (by simp [go_sem, AM.nil, Slots.zero, Disk.zero, *]), (by simp [go_sem, AM.nil, Slots.zero, Disk.zero, *]), (by simp [go_sem, AM.nil, Slots.zero, Disk.zero, *]), (by simp [go_sem, AM.nil, Slots.zero, Disk.zero, *]), (by simp [go_sem, AM.nil, Slots.zero, Disk.zero, *]), (by simp [go_sem, AM.nil, Slots.zero, Disk.zero, *]), (by simp [go_sem, AM.nil, Slots.zero, Disk.zero, *]), (by simp [go_sem, AM.nil, Slots.zero, Disk.zero, *]), (by simp [go_sem, AM.nil, Slots.zero, Disk.zero, *]), (by simp [go_sem, AM.nil, Slots.zero, Disk.zero, *]), (by simp [go_sem, AM.nil, Slots.zero, Disk.zero, *]), (by simp [go_sem, AM.nil, Slots.zero, Disk.zero, *]), (by simp [go_sem, AM.nil, Slots.zero, Disk.zero, *]), (by simp [go_sem, AM.nil, Slots.zero, Disk.zero, *])⟩, ((((hM.ab ((Ab.refl w1).alloc _)).put wnA _).put wnA _).put wnA _).put wnA _, abA, by simp; omega⟩, .inr (.inl ⟨rfl, HN, HO⟩)⟩
        case measure => (show 2 - (intOf _).toNat < 2 - (intOf _).toNat); simp only [intOf]; omega
    · go_wp2_with fail
      refine (new_any c _).mono ?_
      rintro e w1 ⟨r1, er, D1, E1, d1, e1, hr1, rfl, o1, o2, hb1⟩
      have bW : Ab wr w1 := abA
      have hsz1 := Nat.le_trans hsz bW.size
      obtain ⟨zq0, zq1, zq2, zq3, zq4, zq5, zq6, zq7, zq8, zg0, zg1, zg2, zg3, zg4, zg5, zg6, zg7, zg8⟩ := (hz.ab bW)
      (try simp only [AM.nil, Slots.zero, Disk.zero, List.length_nil] at zq0 zq1 zq2 zq3 zq4 zq5 zq6 zq7 zq8)
      obtain ⟨vq0, vq1, vq2, vq3, vq4, vq5, vq6, vq7, vq8, vg0, vg1, vg2, vg3, vg4, vg5, vg6, vg7, vg8⟩ := (hv.ab bW)
      (try simp only [AM.nil, Slots.zero, Disk.zero, List.length_nil] at vq0 vq1 vq2 vq3 vq4 vq5 vq6 vq7 vq8)
      have nza := fun (o : Obj) (j : Nat) => World.cell?_alloc_lt w1 o ⟨w.heap.size, j, none⟩ (by simp only; omega)
      have nzb := fun (o : Obj) (j : Nat) => ((Ab.refl w1).alloc o).frozen (p := ⟨w.heap.size, j, none⟩) (by simp only; omega)
      have nva := fun (o : Obj) (j : Nat) => World.cell?_alloc_lt w1 o ⟨w.heap.size + 1, j, none⟩ (by simp only; omega)
      have nvb := fun (o : Obj) (j : Nat) => ((Ab.refl w1).alloc o).frozen (p := ⟨w.heap.size + 1, j, none⟩) (by simp only; omega)
      have hne : w.heap.size + 1 ≠ w1.heap.size := by omega
      have hne2 : w.heap.size ≠ w1.heap.size := by omega
      have h1 := Prod.mk.inj (hr1.out.trans (show Disk.new c = _ from if_neg hc.out))
      obtain rfl : er = 0 := h1.2
      have l1 : r1.s.length ≤ 1000000 ∧ r1.t.length ≤ 1000000 := by rw [h1.1]; exact ⟨Nat.zero_le _, Nat.zero_le _⟩
      have hM : SlM w1 (w.heap.size + 1 + 1) ⟨m.A, m.B, D1, E1, m.ca, m.cb, d1, e1⟩ ⟨r.a, r1, r.n⟩ :=
        ⟨(hm.ab bW).a, (hm.ab bW).b, o1.rb.mono wnA, o2.rb.mono wnA, hm.la, hm.lb, o1.le, o2.le, hm.sa, hm.sb, l1.1, l1.2⟩
      have HO := Lib.hid (show Slots.new c = (⟨r.a, r1, r.n⟩, 0) by rw [ho.out, h1.1]; exact if_neg hc.out)
      clear hr1 h1 l1
      go_wp2
      go_roundw
      case rel => exact ⟨_, _, ⟨⟨(by simp [go_sem, AM.nil, Slots.zero, Disk.zero, *]), (by simp [go_sem, AM.nil, Slots.zero, Disk.zero, *]), (by simp [go_sem, AM.nil, Slots.zero, Disk.zero, *]), (by simp [go_sem, AM.nil, Slots.zero, Disk.zero, *]), (by simp [go_sem, AM.nil, Slots.zero, Disk.zero, *]), (by simp [go_sem, AM.nil, Slots.zero, Disk.zero, *]), (by simp [go_sem, AM.nil, Slots.zero, Disk.zero, *]), (by simp [go_sem, AM.nil, Slots.zero, Disk.zero, *]), (by simp [go_sem, AM.nil, Slots.zero, Disk.zero, *]), (by simp [go_sem, AM.nil, Slots.zero, Disk.zero, *]), (by simp [go_sem, AM.nil, Slots.zero, Disk.zero, *]), (by simp [go_sem, AM.nil, Slots.zero, Disk.zero, *]), (by simp [go_sem, AM.nil, Slots.zero, Disk.zero, *]), (by simp [go_sem, AM.nil, Slots.zero, Disk.zero, *]), (by simp [go_sem, AM.nil, Slots.zero, Disk.zero, *]), (by simp [go_sem, AM.nil, Slots.zero, Disk.zero, *]), (by simp [go_sem, AM.nil, Slots.zero, Disk.zero, *]), (by simp [go_sem, AM.nil, Slots.zero, Disk.zero, *])⟩, ⟨(by simp [go_sem, AM.nil, Slots.zero, Disk.zero, *]), (by simp [go_sem, AM.nil, Slots.zero, Disk.zero, *]), (by simp [go_sem, AM.nil, Slots.zero, Disk.zero, *]), (by simp [go_sem, AM.nil, Slots.zero, Disk.zero, *]), (by simp [go_sem, AM.nil, Slots.zero, Disk.zero, *]), (by simp [go_sem, AM.nil, Slots.zero, Disk.zero, *]), (by simp [go_sem, AM.nil, Slots.zero, Disk.zero, *]), (by simp [go_sem, AM.nil, Slots.zero, Disk.zero, *]), (by simp [go_sem, AM.nil, Slots.zero, Disk.zero, *]), (by simp [go_sem, AM.nil, Slots.zero, Disk.zero, *]), (by simp [go_sem, AM.nil, Slots.zero, Disk.zero, *]), (by simp [go_sem, AM.nil, Slots.zero, Disk.zero, *]), (by simp [go_sem, AM.nil, Slots.zero, Disk.zero, *]), (by simp [go_sem, AM.nil, Slots.zero, Disk.zero, *]), (by simp [go_sem, AM.nil, Slots.zero, Disk.zero, *]), (by simp [go_sem, AM.nil, Slots.zero, Disk.zero, *]), (by simp [go_sem, AM.nil, Slots.zero, Disk.zero, *]), (by simp [go_sem, AM.nil, Slots.zero, Disk.zero, *])⟩, ((((hM.ab ((Ab.refl w1).alloc _)).put wnA _).put wnA _).put wnA _).put wnA _, abA, by simp; omega⟩, .inr (.inr ⟨rfl, HO⟩)⟩
      case measure => (show 2 - (intOf _).toNat < 2 - (intOf _).toNat); simp only [intOf]; omega
    · obtain ⟨zq0, zq1, zq2, zq3, zq4, zq5, zq6, zq7, zq8, zg0, zg1, zg2, zg3, zg4, zg5, zg6, zg7, zg8⟩ := hz
      (try simp only [AM.nil, Slots.zero, Disk.zero, List.length_nil] at zq0 zq1 zq2 zq3 zq4 zq5 zq6 zq7 zq8)
      obtain ⟨vq0, vq1, vq2, vq3, vq4, vq5, vq6, vq7, vq8, vg0, vg1, vg2, vg3, vg4, vg5, vg6, vg7, vg8⟩ := hv
      (try simp only [AM.nil, Slots.zero, Disk.zero, List.length_nil] at vq0 vq1 vq2 vq3 vq4 vq5 vq6 vq7 vq8)
      go_wp2
      refine bodyPost_ret (v := .tuple #[.agg #[.slice m.A r.a.s.length m.ca, .slice m.B r.a.t.length m.cb, .int .i64 r.a.cap, .bool r.a.down, .slice m.C r.b.s.length m.cc, .slice m.D r.b.t.length m.cd, .int .i64 r.b.cap, .bool r.b.down, .int .i64 r.n], .int .i64 0]) (by simp [results, Tryz.results36, go_sem, *]) rfl ?_
      exact ⟨r, 0, m, Lib.hid ho.out.symm, rfl, (((((((((hm.put wnA _).put wnA _).put wnA _).put wnA _).put wnA _).put wnA _).put wnA _).put wnA _).put wnA _).mono (by omega), abA⟩
end Go.Proofs.YthgcfjhnnhigoaaGreat
