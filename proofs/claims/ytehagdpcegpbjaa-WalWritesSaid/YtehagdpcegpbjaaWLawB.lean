/- WalWrites, walked. Own work. -/
import Derived.Test.YtehagdpcegpbjaaWFunB
import Derived.Test.YtehagdpcegpbjaaWFunF
import Derived.Test.YtehagdpcegpbjaaWRefD
set_option linter.unusedVariables false
set_option linter.unusedSimpArgs false
namespace Go.Proofs.Ytehagdpcegpbjaa
open Go.RowKit

theorem append_len {l : Wal.Log} {b : List UInt8} {g : Option (List Frame.Rec)} {r : Wal.Log} {k er : Int} (h : (r, k, er) = Wal.append l b g) (h1 : l.dev.s.length ≤ 2000) (h2 : l.dev.t.length ≤ 2000) (h3 : b.length ≤ 1100) : r.dev.s.length ≤ 4000000 ∧ r.dev.t.length ≤ 4000000 := by
  have e := (congrArg Prod.fst h : r = _)
  subst e
  unfold Wal.append
  cases g with
  | none => simp [Wal.zero, Disk.zero]
  | some rs =>
    simp only
    split
    · simp [Wal.zero, Disk.zero]
    · split
      · simp [Wal.zero, Disk.zero]
      · split
        · simp [Wal.zero, Disk.zero]
        · simp only [List.length_append, Frame.enc_length]; omega
theorem sync_len {l : Wal.Log} {g : Option (List Frame.Rec)} {r : Wal.Log} {er : Int} (h : (r, er) = Wal.sync l g) (h1 : l.dev.s.length ≤ 2000) (h2 : l.dev.t.length ≤ 2000) : r.dev.s.length ≤ 4000000 ∧ r.dev.t.length ≤ 4000000 := by
  have e := (congrArg Prod.fst h : r = _)
  subst e
  unfold Wal.sync
  cases g with
  | none => simp [Wal.zero, Disk.zero]
  | some rs => simp only [List.length_append, List.length_nil]; omega
theorem drop_len {l : Wal.Log} {m : Int} {g : Option (List Frame.Rec)} {r : Wal.Log} {er : Int} (h : (r, er) = Wal.drop l m g) (h1 : l.dev.s.length ≤ 2000) (h2 : l.dev.t.length ≤ 2000) : r.dev.s.length ≤ 4000000 ∧ r.dev.t.length ≤ 4000000 := by
  have e := (congrArg Prod.fst h : r = _)
  subst e
  unfold Wal.drop
  cases g with
  | none => simp [Wal.zero, Disk.zero]
  | some rs =>
    simp only
    split
    · simp [Wal.zero, Disk.zero]
    · split
      · simp [Wal.zero, Disk.zero]
      · simp only [List.length_drop]; omega

set_option maxRecDepth 100000 in
set_option maxHeartbeats 6400000 in
theorem wwrites_walk (A B : Option Addr) (ca cb : Nat) (s t : List UInt8) (cap : Int) (dn : Bool) (f n : Int) (w : World) (hs : RB w 0 A s) (ht : RB w 0 B t) (hca : s.length ≤ ca) (hcb : t.length ≤ cb) (ls : s.length ≤ 9223372036854775807) (lt : t.length ≤ 9223372036854775807) (C : Option Addr) (cc : Nat) (b : List UInt8) (hb : RB w 0 C b) (hcc : b.length ≤ cc) (lb : b.length ≤ 9223372036854775807) (m : Int) :
    Calls Try.prog 5 #[.agg #[.slice A s.length ca, .slice B t.length cb, .int .i64 cap, .bool dn, .int .i64 f, .int .i64 n], .slice C b.length cc, .int .i64 m] w fun e w' => e = .returned (.bool true) ∧ Ab w w' := by
  cases hg : great4B s.length t.length
  · obtain ⟨hl1, hl2⟩ := great4B_false hg
    have HG := Lib.hid hg; clear hg
    by_cases hb11 : 1100 < b.length
    · go_enter Try.func5, Try.ntmps5
      go_wp2_with fail
      refine (great4_any A B ca cb s t cap dn _ ls lt).mono ?_
      rintro e w1 ⟨rfl, hb1⟩
      rw [HG.out]
      go_wp2
      go_ret
      exact ⟨rfl, (by repeat (first | with_reducible exact Ab.refl _ | with_reducible assumption | with_reducible refine Ab.drew ?_ | with_reducible refine Ab.drewN ?_ _ | with_reducible refine Ab.alloc ?_ _ | with_reducible refine Ab.trans ?_ (by assumption) | with_reducible refine Ab.set ?_ (by first | (simp; done) | omega | (simp; omega)) _))⟩
    have k11 : b.length ≤ 1100 := by omega
    clear hb11
    obtain ⟨g, hi⟩ := Wal.is_exists ⟨⟨s, t, cap, dn⟩, f, n⟩
    go_enter Try.func5, Try.ntmps5
    go_wp2_with fail
    refine (great4_any A B ca cb s t cap dn _ ls lt).mono ?_
    rintro e w1 ⟨rfl, hb1⟩
    rw [HG.out]
    obtain ⟨bq0, bq1, bq2, bq3, bq4, bq5⟩ := cells6 hb1 (b := w.heap.size) (v0 := .slice A s.length ca) (v1 := .slice B t.length cb) (v2 := .int .i64 cap) (v3 := .bool dn) (v4 := .int .i64 f) (v5 := .int .i64 n) (by first | (simp [go_sem]; done) | (refine ⟨?_, ?_, ?_, ?_, ?_, ?_⟩ <;> assumption))
    go_wp2_with fail
    refine (ltwin_any A B ca cb s t cap dn f n _ (hs.ab (by repeat (first | with_reducible exact Ab.refl _ | with_reducible assumption | with_reducible refine Ab.drew ?_ | with_reducible refine Ab.drewN ?_ _ | with_reducible refine Ab.alloc ?_ _ | with_reducible refine Ab.trans ?_ (by assumption) | with_reducible refine Ab.set ?_ (by first | (simp; done) | omega | (simp; omega)) _))) (ht.ab (by repeat (first | with_reducible exact Ab.refl _ | with_reducible assumption | with_reducible refine Ab.drew ?_ | with_reducible refine Ab.drewN ?_ _ | with_reducible refine Ab.alloc ?_ _ | with_reducible refine Ab.trans ?_ (by assumption) | with_reducible refine Ab.set ?_ (by first | (simp; done) | omega | (simp; omega)) _))) hca hcb (by omega) (by omega)).mono ?_
    rintro e w2 ⟨r, D, E, cd, ce, er, rfl, o1, o2, hb2⟩
    obtain rfl : r = ⟨⟨s, t, cap, dn⟩, f, n⟩ := er.out
    clear er
    simp only at o1 o2
    simp only
    go_wp2_with fail
    refine (wappend_any D E cd ce s t cap dn f n _ (o1.rb.zero.ab (by repeat (first | with_reducible exact Ab.refl _ | with_reducible assumption | with_reducible refine Ab.drew ?_ | with_reducible refine Ab.drewN ?_ _ | with_reducible refine Ab.alloc ?_ _ | with_reducible refine Ab.trans ?_ (by assumption) | with_reducible refine Ab.set ?_ (by first | (simp; done) | omega | (simp; omega)) _))) (o2.rb.zero.ab (by repeat (first | with_reducible exact Ab.refl _ | with_reducible assumption | with_reducible refine Ab.drew ?_ | with_reducible refine Ab.drewN ?_ _ | with_reducible refine Ab.alloc ?_ _ | with_reducible refine Ab.trans ?_ (by assumption) | with_reducible refine Ab.set ?_ (by first | (simp; done) | omega | (simp; omega)) _))) o1.le o2.le (by omega) (by omega) g hi C cc b (hb.ab (by repeat (first | with_reducible exact Ab.refl _ | with_reducible assumption | with_reducible refine Ab.drew ?_ | with_reducible refine Ab.drewN ?_ _ | with_reducible refine Ab.alloc ?_ _ | with_reducible refine Ab.trans ?_ (by assumption) | with_reducible refine Ab.set ?_ (by first | (simp; done) | omega | (simp; omega)) _))) hcc (by omega)).mono ?_
    rintro e w3 ⟨r3, n3, e3, D3, E3, cd3, ce3, h3, rfl, p3, q3, hb3⟩
    obtain ⟨lr3, lt3⟩ := append_len h3.out hl1 hl2 k11
    have hTmp : Ab (w2.alloc (.cells #[.slice D s.length cd, .slice E t.length ce, .int .i64 cap, .bool dn, .int .i64 f, .int .i64 n] 26)) w3 := (by repeat (first | with_reducible exact Ab.refl _ | with_reducible assumption | with_reducible refine Ab.drew ?_ | with_reducible refine Ab.drewN ?_ _ | with_reducible refine Ab.alloc ?_ _ | with_reducible refine Ab.trans ?_ (by assumption) | with_reducible refine Ab.set ?_ (by first | (simp; done) | omega | (simp; omega)) _))
    obtain ⟨oq0, oq1, oq2, oq3, oq4, oq5⟩ := cells6 hTmp (b := w2.heap.size) (v0 := .slice D s.length cd) (v1 := .slice E t.length ce) (v2 := .int .i64 cap) (v3 := .bool dn) (v4 := .int .i64 f) (v5 := .int .i64 n) (by first | (simp [go_sem]; done) | (refine ⟨?_, ?_, ?_, ?_, ?_, ?_⟩ <;> assumption))
    clear hTmp
    have hTmp : Ab (w.alloc (.cells #[.slice A s.length ca, .slice B t.length cb, .int .i64 cap, .bool dn, .int .i64 f, .int .i64 n] 26)) w3 := (by repeat (first | with_reducible exact Ab.refl _ | with_reducible assumption | with_reducible refine Ab.drew ?_ | with_reducible refine Ab.drewN ?_ _ | with_reducible refine Ab.alloc ?_ _ | with_reducible refine Ab.trans ?_ (by assumption) | with_reducible refine Ab.set ?_ (by first | (simp; done) | omega | (simp; omega)) _))
    obtain ⟨bq0, bq1, bq2, bq3, bq4, bq5⟩ := cells6 hTmp (b := w.heap.size) (v0 := .slice A s.length ca) (v1 := .slice B t.length cb) (v2 := .int .i64 cap) (v3 := .bool dn) (v4 := .int .i64 f) (v5 := .int .i64 n) (by first | (simp [go_sem]; done) | (refine ⟨?_, ?_, ?_, ?_, ?_, ?_⟩ <;> assumption))
    clear hTmp
    have zA : w.heap.size < w3.heap.size := cell_lt bq0
    have zB : w2.heap.size < w3.heap.size := cell_lt oq0
    have nA := fun (o : Obj) (j : Nat) => World.cell?_alloc_lt w3 o ⟨w.heap.size, j, none⟩ zA
    have nB := fun (o : Obj) (j : Nat) => World.cell?_alloc_lt w3 o ⟨w2.heap.size, j, none⟩ zB
    go_wp2_with fail
    refine (refwappend_any A B ca cb s t cap dn f n _ (hs.ab (by repeat (first | with_reducible exact Ab.refl _ | with_reducible assumption | with_reducible refine Ab.drew ?_ | with_reducible refine Ab.drewN ?_ _ | with_reducible refine Ab.alloc ?_ _ | with_reducible refine Ab.trans ?_ (by assumption) | with_reducible refine Ab.set ?_ (by first | (simp; done) | omega | (simp; omega)) _))) (ht.ab (by repeat (first | with_reducible exact Ab.refl _ | with_reducible assumption | with_reducible refine Ab.drew ?_ | with_reducible refine Ab.drewN ?_ _ | with_reducible refine Ab.alloc ?_ _ | with_reducible refine Ab.trans ?_ (by assumption) | with_reducible refine Ab.set ?_ (by first | (simp; done) | omega | (simp; omega)) _))) hca hcb (by omega) (by omega) g hi C cc b (hb.ab (by repeat (first | with_reducible exact Ab.refl _ | with_reducible assumption | with_reducible refine Ab.drew ?_ | with_reducible refine Ab.drewN ?_ _ | with_reducible refine Ab.alloc ?_ _ | with_reducible refine Ab.trans ?_ (by assumption) | with_reducible refine Ab.set ?_ (by first | (simp; done) | omega | (simp; omega)) _))) hcc (by omega)).mono ?_
    rintro e w4 ⟨r4, n4, e4, D4, E4, cd4, ce4, h4, rfl, p4, q4, hb4⟩
    obtain ⟨rfl, h9⟩ := Prod.mk.inj (h4.out.trans h3.out.symm)
    obtain ⟨rfl, rfl⟩ := Prod.mk.inj h9
    clear h3 h4 h9
    have hTmp : Ab (w2.alloc (.cells #[.slice D s.length cd, .slice E t.length ce, .int .i64 cap, .bool dn, .int .i64 f, .int .i64 n] 26)) w4 := (by repeat (first | with_reducible exact Ab.refl _ | with_reducible assumption | with_reducible refine Ab.drew ?_ | with_reducible refine Ab.drewN ?_ _ | with_reducible refine Ab.alloc ?_ _ | with_reducible refine Ab.trans ?_ (by assumption) | with_reducible refine Ab.set ?_ (by first | (simp; done) | omega | (simp; omega)) _))
    obtain ⟨oq0, oq1, oq2, oq3, oq4, oq5⟩ := cells6 hTmp (b := w2.heap.size) (v0 := .slice D s.length cd) (v1 := .slice E t.length ce) (v2 := .int .i64 cap) (v3 := .bool dn) (v4 := .int .i64 f) (v5 := .int .i64 n) (by first | (simp [go_sem]; done) | (refine ⟨?_, ?_, ?_, ?_, ?_, ?_⟩ <;> assumption))
    clear hTmp
    have hTmp : Ab (w.alloc (.cells #[.slice A s.length ca, .slice B t.length cb, .int .i64 cap, .bool dn, .int .i64 f, .int .i64 n] 26)) w4 := (by repeat (first | with_reducible exact Ab.refl _ | with_reducible assumption | with_reducible refine Ab.drew ?_ | with_reducible refine Ab.drewN ?_ _ | with_reducible refine Ab.alloc ?_ _ | with_reducible refine Ab.trans ?_ (by assumption) | with_reducible refine Ab.set ?_ (by first | (simp; done) | omega | (simp; omega)) _))
    obtain ⟨bq0, bq1, bq2, bq3, bq4, bq5⟩ := cells6 hTmp (b := w.heap.size) (v0 := .slice A s.length ca) (v1 := .slice B t.length cb) (v2 := .int .i64 cap) (v3 := .bool dn) (v4 := .int .i64 f) (v5 := .int .i64 n) (by first | (simp [go_sem]; done) | (refine ⟨?_, ?_, ?_, ?_, ?_, ?_⟩ <;> assumption))
    clear hTmp
    have zA : w.heap.size < w4.heap.size := cell_lt bq0
    have zB : w2.heap.size < w4.heap.size := cell_lt oq0
    have nA := fun (o : Obj) (j : Nat) => World.cell?_alloc_lt w4 o ⟨w.heap.size, j, none⟩ zA
    have nB := fun (o : Obj) (j : Nat) => World.cell?_alloc_lt w4 o ⟨w2.heap.size, j, none⟩ zB
    go_wp2_with fail
    refine (wsync_any D E cd ce s t cap dn f n _ (o1.rb.zero.ab (by repeat (first | with_reducible exact Ab.refl _ | with_reducible assumption | with_reducible refine Ab.drew ?_ | with_reducible refine Ab.drewN ?_ _ | with_reducible refine Ab.alloc ?_ _ | with_reducible refine Ab.trans ?_ (by assumption) | with_reducible refine Ab.set ?_ (by first | (simp; done) | omega | (simp; omega)) _))) (o2.rb.zero.ab (by repeat (first | with_reducible exact Ab.refl _ | with_reducible assumption | with_reducible refine Ab.drew ?_ | with_reducible refine Ab.drewN ?_ _ | with_reducible refine Ab.alloc ?_ _ | with_reducible refine Ab.trans ?_ (by assumption) | with_reducible refine Ab.set ?_ (by first | (simp; done) | omega | (simp; omega)) _))) o1.le o2.le (by omega) (by omega) g hi).mono ?_
    rintro e w5 ⟨r5, e5, D5, E5, cd5, ce5, h5, rfl, p5, q5, hb5⟩
    obtain ⟨lr5, lt5⟩ := sync_len h5.out hl1 hl2
    have hTmp : Ab (w2.alloc (.cells #[.slice D s.length cd, .slice E t.length ce, .int .i64 cap, .bool dn, .int .i64 f, .int .i64 n] 26)) w5 := (by repeat (first | with_reducible exact Ab.refl _ | with_reducible assumption | with_reducible refine Ab.drew ?_ | with_reducible refine Ab.drewN ?_ _ | with_reducible refine Ab.alloc ?_ _ | with_reducible refine Ab.trans ?_ (by assumption) | with_reducible refine Ab.set ?_ (by first | (simp; done) | omega | (simp; omega)) _))
    obtain ⟨oq0, oq1, oq2, oq3, oq4, oq5⟩ := cells6 hTmp (b := w2.heap.size) (v0 := .slice D s.length cd) (v1 := .slice E t.length ce) (v2 := .int .i64 cap) (v3 := .bool dn) (v4 := .int .i64 f) (v5 := .int .i64 n) (by first | (simp [go_sem]; done) | (refine ⟨?_, ?_, ?_, ?_, ?_, ?_⟩ <;> assumption))
    clear hTmp
    have hTmp : Ab (w.alloc (.cells #[.slice A s.length ca, .slice B t.length cb, .int .i64 cap, .bool dn, .int .i64 f, .int .i64 n] 26)) w5 := (by repeat (first | with_reducible exact Ab.refl _ | with_reducible assumption | with_reducible refine Ab.drew ?_ | with_reducible refine Ab.drewN ?_ _ | with_reducible refine Ab.alloc ?_ _ | with_reducible refine Ab.trans ?_ (by assumption) | with_reducible refine Ab.set ?_ (by first | (simp; done) | omega | (simp; omega)) _))
    obtain ⟨bq0, bq1, bq2, bq3, bq4, bq5⟩ := cells6 hTmp (b := w.heap.size) (v0 := .slice A s.length ca) (v1 := .slice B t.length cb) (v2 := .int .i64 cap) (v3 := .bool dn) (v4 := .int .i64 f) (v5 := .int .i64 n) (by first | (simp [go_sem]; done) | (refine ⟨?_, ?_, ?_, ?_, ?_, ?_⟩ <;> assumption))
    clear hTmp
    have zA : w.heap.size < w5.heap.size := cell_lt bq0
    have zB : w2.heap.size < w5.heap.size := cell_lt oq0
    have nA := fun (o : Obj) (j : Nat) => World.cell?_alloc_lt w5 o ⟨w.heap.size, j, none⟩ zA
    have nB := fun (o : Obj) (j : Nat) => World.cell?_alloc_lt w5 o ⟨w2.heap.size, j, none⟩ zB
    go_wp2_with fail
    refine (refwsync_any A B ca cb s t cap dn f n _ (hs.ab (by repeat (first | with_reducible exact Ab.refl _ | with_reducible assumption | with_reducible refine Ab.drew ?_ | with_reducible refine Ab.drewN ?_ _ | with_reducible refine Ab.alloc ?_ _ | with_reducible refine Ab.trans ?_ (by assumption) | with_reducible refine Ab.set ?_ (by first | (simp; done) | omega | (simp; omega)) _))) (ht.ab (by repeat (first | with_reducible exact Ab.refl _ | with_reducible assumption | with_reducible refine Ab.drew ?_ | with_reducible refine Ab.drewN ?_ _ | with_reducible refine Ab.alloc ?_ _ | with_reducible refine Ab.trans ?_ (by assumption) | with_reducible refine Ab.set ?_ (by first | (simp; done) | omega | (simp; omega)) _))) hca hcb (by omega) (by omega) g hi).mono ?_
    rintro e w6 ⟨r6, e6, D6, E6, cd6, ce6, h6, rfl, p6, q6, hb6⟩
    obtain ⟨rfl, rfl⟩ := Prod.mk.inj (h6.out.trans h5.out.symm)
    clear h5 h6
    have hTmp : Ab (w2.alloc (.cells #[.slice D s.length cd, .slice E t.length ce, .int .i64 cap, .bool dn, .int .i64 f, .int .i64 n] 26)) w6 := (by repeat (first | with_reducible exact Ab.refl _ | with_reducible assumption | with_reducible refine Ab.drew ?_ | with_reducible refine Ab.drewN ?_ _ | with_reducible refine Ab.alloc ?_ _ | with_reducible refine Ab.trans ?_ (by assumption) | with_reducible refine Ab.set ?_ (by first | (simp; done) | omega | (simp; omega)) _))
    obtain ⟨oq0, oq1, oq2, oq3, oq4, oq5⟩ := cells6 hTmp (b := w2.heap.size) (v0 := .slice D s.length cd) (v1 := .slice E t.length ce) (v2 := .int .i64 cap) (v3 := .bool dn) (v4 := .int .i64 f) (v5 := .int .i64 n) (by first | (simp [go_sem]; done) | (refine ⟨?_, ?_, ?_, ?_, ?_, ?_⟩ <;> assumption))
    clear hTmp
    have hTmp : Ab (w.alloc (.cells #[.slice A s.length ca, .slice B t.length cb, .int .i64 cap, .bool dn, .int .i64 f, .int .i64 n] 26)) w6 := (by repeat (first | with_reducible exact Ab.refl _ | with_reducible assumption | with_reducible refine Ab.drew ?_ | with_reducible refine Ab.drewN ?_ _ | with_reducible refine Ab.alloc ?_ _ | with_reducible refine Ab.trans ?_ (by assumption) | with_reducible refine Ab.set ?_ (by first | (simp; done) | omega | (simp; omega)) _))
    obtain ⟨bq0, bq1, bq2, bq3, bq4, bq5⟩ := cells6 hTmp (b := w.heap.size) (v0 := .slice A s.length ca) (v1 := .slice B t.length cb) (v2 := .int .i64 cap) (v3 := .bool dn) (v4 := .int .i64 f) (v5 := .int .i64 n) (by first | (simp [go_sem]; done) | (refine ⟨?_, ?_, ?_, ?_, ?_, ?_⟩ <;> assumption))
    clear hTmp
    have zA : w.heap.size < w6.heap.size := cell_lt bq0
    have zB : w2.heap.size < w6.heap.size := cell_lt oq0
    have nA := fun (o : Obj) (j : Nat) => World.cell?_alloc_lt w6 o ⟨w.heap.size, j, none⟩ zA
    have nB := fun (o : Obj) (j : Nat) => World.cell?_alloc_lt w6 o ⟨w2.heap.size, j, none⟩ zB
    go_wp2_with fail
    refine (wdrop_any D E cd ce s t cap dn f n _ (o1.rb.zero.ab (by repeat (first | with_reducible exact Ab.refl _ | with_reducible assumption | with_reducible refine Ab.drew ?_ | with_reducible refine Ab.drewN ?_ _ | with_reducible refine Ab.alloc ?_ _ | with_reducible refine Ab.trans ?_ (by assumption) | with_reducible refine Ab.set ?_ (by first | (simp; done) | omega | (simp; omega)) _))) (o2.rb.zero.ab (by repeat (first | with_reducible exact Ab.refl _ | with_reducible assumption | with_reducible refine Ab.drew ?_ | with_reducible refine Ab.drewN ?_ _ | with_reducible refine Ab.alloc ?_ _ | with_reducible refine Ab.trans ?_ (by assumption) | with_reducible refine Ab.set ?_ (by first | (simp; done) | omega | (simp; omega)) _))) o1.le o2.le (by omega) (by omega) g hi m).mono ?_
    rintro e w7 ⟨r7, e7, D7, E7, cd7, ce7, h7, rfl, p7, q7, hb7⟩
    obtain ⟨lr7, lt7⟩ := drop_len h7.out hl1 hl2
    have hTmp : Ab (w2.alloc (.cells #[.slice D s.length cd, .slice E t.length ce, .int .i64 cap, .bool dn, .int .i64 f, .int .i64 n] 26)) w7 := (by repeat (first | with_reducible exact Ab.refl _ | with_reducible assumption | with_reducible refine Ab.drew ?_ | with_reducible refine Ab.drewN ?_ _ | with_reducible refine Ab.alloc ?_ _ | with_reducible refine Ab.trans ?_ (by assumption) | with_reducible refine Ab.set ?_ (by first | (simp; done) | omega | (simp; omega)) _))
    obtain ⟨oq0, oq1, oq2, oq3, oq4, oq5⟩ := cells6 hTmp (b := w2.heap.size) (v0 := .slice D s.length cd) (v1 := .slice E t.length ce) (v2 := .int .i64 cap) (v3 := .bool dn) (v4 := .int .i64 f) (v5 := .int .i64 n) (by first | (simp [go_sem]; done) | (refine ⟨?_, ?_, ?_, ?_, ?_, ?_⟩ <;> assumption))
    clear hTmp
    have hTmp : Ab (w.alloc (.cells #[.slice A s.length ca, .slice B t.length cb, .int .i64 cap, .bool dn, .int .i64 f, .int .i64 n] 26)) w7 := (by repeat (first | with_reducible exact Ab.refl _ | with_reducible assumption | with_reducible refine Ab.drew ?_ | with_reducible refine Ab.drewN ?_ _ | with_reducible refine Ab.alloc ?_ _ | with_reducible refine Ab.trans ?_ (by assumption) | with_reducible refine Ab.set ?_ (by first | (simp; done) | omega | (simp; omega)) _))
    obtain ⟨bq0, bq1, bq2, bq3, bq4, bq5⟩ := cells6 hTmp (b := w.heap.size) (v0 := .slice A s.length ca) (v1 := .slice B t.length cb) (v2 := .int .i64 cap) (v3 := .bool dn) (v4 := .int .i64 f) (v5 := .int .i64 n) (by first | (simp [go_sem]; done) | (refine ⟨?_, ?_, ?_, ?_, ?_, ?_⟩ <;> assumption))
    clear hTmp
    have zA : w.heap.size < w7.heap.size := cell_lt bq0
    have zB : w2.heap.size < w7.heap.size := cell_lt oq0
    have nA := fun (o : Obj) (j : Nat) => World.cell?_alloc_lt w7 o ⟨w.heap.size, j, none⟩ zA
    have nB := fun (o : Obj) (j : Nat) => World.cell?_alloc_lt w7 o ⟨w2.heap.size, j, none⟩ zB
    go_wp2_with fail
    refine (refwdrop_any A B ca cb s t cap dn f n _ (hs.ab (by repeat (first | with_reducible exact Ab.refl _ | with_reducible assumption | with_reducible refine Ab.drew ?_ | with_reducible refine Ab.drewN ?_ _ | with_reducible refine Ab.alloc ?_ _ | with_reducible refine Ab.trans ?_ (by assumption) | with_reducible refine Ab.set ?_ (by first | (simp; done) | omega | (simp; omega)) _))) (ht.ab (by repeat (first | with_reducible exact Ab.refl _ | with_reducible assumption | with_reducible refine Ab.drew ?_ | with_reducible refine Ab.drewN ?_ _ | with_reducible refine Ab.alloc ?_ _ | with_reducible refine Ab.trans ?_ (by assumption) | with_reducible refine Ab.set ?_ (by first | (simp; done) | omega | (simp; omega)) _))) hca hcb (by omega) (by omega) g hi m).mono ?_
    rintro e w8 ⟨r8, e8, D8, E8, cd8, ce8, h8, rfl, p8, q8, hb8⟩
    obtain ⟨rfl, rfl⟩ := Prod.mk.inj (h8.out.trans h7.out.symm)
    clear h7 h8 hi
    have hTmp : Ab (w2.alloc (.cells #[.slice D s.length cd, .slice E t.length ce, .int .i64 cap, .bool dn, .int .i64 f, .int .i64 n] 26)) w8 := (by repeat (first | with_reducible exact Ab.refl _ | with_reducible assumption | with_reducible refine Ab.drew ?_ | with_reducible refine Ab.drewN ?_ _ | with_reducible refine Ab.alloc ?_ _ | with_reducible refine Ab.trans ?_ (by assumption) | with_reducible refine Ab.set ?_ (by first | (simp; done) | omega | (simp; omega)) _))
    obtain ⟨oq0, oq1, oq2, oq3, oq4, oq5⟩ := cells6 hTmp (b := w2.heap.size) (v0 := .slice D s.length cd) (v1 := .slice E t.length ce) (v2 := .int .i64 cap) (v3 := .bool dn) (v4 := .int .i64 f) (v5 := .int .i64 n) (by first | (simp [go_sem]; done) | (refine ⟨?_, ?_, ?_, ?_, ?_, ?_⟩ <;> assumption))
    clear hTmp
    have hTmp : Ab (w.alloc (.cells #[.slice A s.length ca, .slice B t.length cb, .int .i64 cap, .bool dn, .int .i64 f, .int .i64 n] 26)) w8 := (by repeat (first | with_reducible exact Ab.refl _ | with_reducible assumption | with_reducible refine Ab.drew ?_ | with_reducible refine Ab.drewN ?_ _ | with_reducible refine Ab.alloc ?_ _ | with_reducible refine Ab.trans ?_ (by assumption) | with_reducible refine Ab.set ?_ (by first | (simp; done) | omega | (simp; omega)) _))
    obtain ⟨bq0, bq1, bq2, bq3, bq4, bq5⟩ := cells6 hTmp (b := w.heap.size) (v0 := .slice A s.length ca) (v1 := .slice B t.length cb) (v2 := .int .i64 cap) (v3 := .bool dn) (v4 := .int .i64 f) (v5 := .int .i64 n) (by first | (simp [go_sem]; done) | (refine ⟨?_, ?_, ?_, ?_, ?_, ?_⟩ <;> assumption))
    clear hTmp
    have zA : w.heap.size < w8.heap.size := cell_lt bq0
    have zB : w2.heap.size < w8.heap.size := cell_lt oq0
    have nA := fun (o : Obj) (j : Nat) => World.cell?_alloc_lt w8 o ⟨w.heap.size, j, none⟩ zA
    have nB := fun (o : Obj) (j : Nat) => World.cell?_alloc_lt w8 o ⟨w2.heap.size, j, none⟩ zB
    have h89 : Ab w8 (w8.alloc (.cells #[.slice D8 r8.dev.s.length cd8, .slice E8 r8.dev.t.length ce8, .int .i64 r8.dev.cap, .bool r8.dev.down, .int .i64 r8.first, .int .i64 r8.next] 26)) := (by repeat (first | with_reducible exact Ab.refl _ | with_reducible assumption | with_reducible refine Ab.drew ?_ | with_reducible refine Ab.drewN ?_ _ | with_reducible refine Ab.alloc ?_ _ | with_reducible refine Ab.trans ?_ (by assumption) | with_reducible refine Ab.set ?_ (by first | (simp; done) | omega | (simp; omega)) _))
    have hTmp : Ab (w3.alloc (.cells #[.slice D3 r4.dev.s.length cd3, .slice E3 r4.dev.t.length ce3, .int .i64 r4.dev.cap, .bool r4.dev.down, .int .i64 r4.first, .int .i64 r4.next] 26)) (w8.alloc (.cells #[.slice D8 r8.dev.s.length cd8, .slice E8 r8.dev.t.length ce8, .int .i64 r8.dev.cap, .bool r8.dev.down, .int .i64 r8.first, .int .i64 r8.next] 26)) := (by repeat (first | with_reducible exact Ab.refl _ | with_reducible assumption | with_reducible refine Ab.drew ?_ | with_reducible refine Ab.drewN ?_ _ | with_reducible refine Ab.alloc ?_ _ | with_reducible refine Ab.trans ?_ (by assumption) | with_reducible refine Ab.set ?_ (by first | (simp; done) | omega | (simp; omega)) _))
    obtain ⟨iq0, iq1, iq2, iq3, iq4, iq5⟩ := cells6 hTmp (b := w3.heap.size) (v0 := .slice D3 r4.dev.s.length cd3) (v1 := .slice E3 r4.dev.t.length ce3) (v2 := .int .i64 r4.dev.cap) (v3 := .bool r4.dev.down) (v4 := .int .i64 r4.first) (v5 := .int .i64 r4.next) (by first | (simp [go_sem]; done) | (refine ⟨?_, ?_, ?_, ?_, ?_, ?_⟩ <;> assumption))
    clear hTmp
    have hTmp : Ab (w4.alloc (.cells #[.slice D4 r4.dev.s.length cd4, .slice E4 r4.dev.t.length ce4, .int .i64 r4.dev.cap, .bool r4.dev.down, .int .i64 r4.first, .int .i64 r4.next] 26)) (w8.alloc (.cells #[.slice D8 r8.dev.s.length cd8, .slice E8 r8.dev.t.length ce8, .int .i64 r8.dev.cap, .bool r8.dev.down, .int .i64 r8.first, .int .i64 r8.next] 26)) := (by repeat (first | with_reducible exact Ab.refl _ | with_reducible assumption | with_reducible refine Ab.drew ?_ | with_reducible refine Ab.drewN ?_ _ | with_reducible refine Ab.alloc ?_ _ | with_reducible refine Ab.trans ?_ (by assumption) | with_reducible refine Ab.set ?_ (by first | (simp; done) | omega | (simp; omega)) _))
    obtain ⟨jq0, jq1, jq2, jq3, jq4, jq5⟩ := cells6 hTmp (b := w4.heap.size) (v0 := .slice D4 r4.dev.s.length cd4) (v1 := .slice E4 r4.dev.t.length ce4) (v2 := .int .i64 r4.dev.cap) (v3 := .bool r4.dev.down) (v4 := .int .i64 r4.first) (v5 := .int .i64 r4.next) (by first | (simp [go_sem]; done) | (refine ⟨?_, ?_, ?_, ?_, ?_, ?_⟩ <;> assumption))
    clear hTmp
    go_wp2_with fail
    refine (lsame_true D3 E3 D4 E4 cd3 ce3 cd4 ce4 r4.dev.s r4.dev.t r4.dev.cap r4.dev.down r4.first r4.next _ (p3.rb.zero.ab (by repeat (first | with_reducible exact Ab.refl _ | with_reducible assumption | with_reducible refine Ab.drew ?_ | with_reducible refine Ab.drewN ?_ _ | with_reducible refine Ab.alloc ?_ _ | with_reducible refine Ab.trans ?_ (by assumption) | with_reducible refine Ab.set ?_ (by first | (simp; done) | omega | (simp; omega)) _))) (q3.rb.zero.ab (by repeat (first | with_reducible exact Ab.refl _ | with_reducible assumption | with_reducible refine Ab.drew ?_ | with_reducible refine Ab.drewN ?_ _ | with_reducible refine Ab.alloc ?_ _ | with_reducible refine Ab.trans ?_ (by assumption) | with_reducible refine Ab.set ?_ (by first | (simp; done) | omega | (simp; omega)) _))) (p4.rb.zero.ab (by repeat (first | with_reducible exact Ab.refl _ | with_reducible assumption | with_reducible refine Ab.drew ?_ | with_reducible refine Ab.drewN ?_ _ | with_reducible refine Ab.alloc ?_ _ | with_reducible refine Ab.trans ?_ (by assumption) | with_reducible refine Ab.set ?_ (by first | (simp; done) | omega | (simp; omega)) _))) (q4.rb.zero.ab (by repeat (first | with_reducible exact Ab.refl _ | with_reducible assumption | with_reducible refine Ab.drew ?_ | with_reducible refine Ab.drewN ?_ _ | with_reducible refine Ab.alloc ?_ _ | with_reducible refine Ab.trans ?_ (by assumption) | with_reducible refine Ab.set ?_ (by first | (simp; done) | omega | (simp; omega)) _))) (by omega) (by omega)).mono ?_
    rintro e wa ⟨rfl, hwa⟩
    clear h89
    have hTmp : Ab (w5.alloc (.cells #[.slice D5 r6.dev.s.length cd5, .slice E5 r6.dev.t.length ce5, .int .i64 r6.dev.cap, .bool r6.dev.down, .int .i64 r6.first, .int .i64 r6.next] 26)) wa := (by repeat (first | with_reducible exact Ab.refl _ | with_reducible assumption | with_reducible refine Ab.drew ?_ | with_reducible refine Ab.drewN ?_ _ | with_reducible refine Ab.alloc ?_ _ | with_reducible refine Ab.trans ?_ (by assumption) | with_reducible refine Ab.set ?_ (by first | (simp; done) | omega | (simp; omega)) _))
    obtain ⟨kq0, kq1, kq2, kq3, kq4, kq5⟩ := cells6 hTmp (b := w5.heap.size) (v0 := .slice D5 r6.dev.s.length cd5) (v1 := .slice E5 r6.dev.t.length ce5) (v2 := .int .i64 r6.dev.cap) (v3 := .bool r6.dev.down) (v4 := .int .i64 r6.first) (v5 := .int .i64 r6.next) (by first | (simp [go_sem]; done) | (refine ⟨?_, ?_, ?_, ?_, ?_, ?_⟩ <;> assumption))
    clear hTmp
    have hTmp : Ab (w6.alloc (.cells #[.slice D6 r6.dev.s.length cd6, .slice E6 r6.dev.t.length ce6, .int .i64 r6.dev.cap, .bool r6.dev.down, .int .i64 r6.first, .int .i64 r6.next] 26)) wa := (by repeat (first | with_reducible exact Ab.refl _ | with_reducible assumption | with_reducible refine Ab.drew ?_ | with_reducible refine Ab.drewN ?_ _ | with_reducible refine Ab.alloc ?_ _ | with_reducible refine Ab.trans ?_ (by assumption) | with_reducible refine Ab.set ?_ (by first | (simp; done) | omega | (simp; omega)) _))
    obtain ⟨lq0, lq1, lq2, lq3, lq4, lq5⟩ := cells6 hTmp (b := w6.heap.size) (v0 := .slice D6 r6.dev.s.length cd6) (v1 := .slice E6 r6.dev.t.length ce6) (v2 := .int .i64 r6.dev.cap) (v3 := .bool r6.dev.down) (v4 := .int .i64 r6.first) (v5 := .int .i64 r6.next) (by first | (simp [go_sem]; done) | (refine ⟨?_, ?_, ?_, ?_, ?_, ?_⟩ <;> assumption))
    clear hTmp
    go_wp2_with fail
    refine (lsame_true D5 E5 D6 E6 cd5 ce5 cd6 ce6 r6.dev.s r6.dev.t r6.dev.cap r6.dev.down r6.first r6.next _ (p5.rb.zero.ab (by repeat (first | with_reducible exact Ab.refl _ | with_reducible assumption | with_reducible refine Ab.drew ?_ | with_reducible refine Ab.drewN ?_ _ | with_reducible refine Ab.alloc ?_ _ | with_reducible refine Ab.trans ?_ (by assumption) | with_reducible refine Ab.set ?_ (by first | (simp; done) | omega | (simp; omega)) _))) (q5.rb.zero.ab (by repeat (first | with_reducible exact Ab.refl _ | with_reducible assumption | with_reducible refine Ab.drew ?_ | with_reducible refine Ab.drewN ?_ _ | with_reducible refine Ab.alloc ?_ _ | with_reducible refine Ab.trans ?_ (by assumption) | with_reducible refine Ab.set ?_ (by first | (simp; done) | omega | (simp; omega)) _))) (p6.rb.zero.ab (by repeat (first | with_reducible exact Ab.refl _ | with_reducible assumption | with_reducible refine Ab.drew ?_ | with_reducible refine Ab.drewN ?_ _ | with_reducible refine Ab.alloc ?_ _ | with_reducible refine Ab.trans ?_ (by assumption) | with_reducible refine Ab.set ?_ (by first | (simp; done) | omega | (simp; omega)) _))) (q6.rb.zero.ab (by repeat (first | with_reducible exact Ab.refl _ | with_reducible assumption | with_reducible refine Ab.drew ?_ | with_reducible refine Ab.drewN ?_ _ | with_reducible refine Ab.alloc ?_ _ | with_reducible refine Ab.trans ?_ (by assumption) | with_reducible refine Ab.set ?_ (by first | (simp; done) | omega | (simp; omega)) _))) (by omega) (by omega)).mono ?_
    rintro e wb ⟨rfl, hwb⟩
    have hTmp : Ab (w7.alloc (.cells #[.slice D7 r8.dev.s.length cd7, .slice E7 r8.dev.t.length ce7, .int .i64 r8.dev.cap, .bool r8.dev.down, .int .i64 r8.first, .int .i64 r8.next] 26)) wb := (by repeat (first | with_reducible exact Ab.refl _ | with_reducible assumption | with_reducible refine Ab.drew ?_ | with_reducible refine Ab.drewN ?_ _ | with_reducible refine Ab.alloc ?_ _ | with_reducible refine Ab.trans ?_ (by assumption) | with_reducible refine Ab.set ?_ (by first | (simp; done) | omega | (simp; omega)) _))
    obtain ⟨mq0, mq1, mq2, mq3, mq4, mq5⟩ := cells6 hTmp (b := w7.heap.size) (v0 := .slice D7 r8.dev.s.length cd7) (v1 := .slice E7 r8.dev.t.length ce7) (v2 := .int .i64 r8.dev.cap) (v3 := .bool r8.dev.down) (v4 := .int .i64 r8.first) (v5 := .int .i64 r8.next) (by first | (simp [go_sem]; done) | (refine ⟨?_, ?_, ?_, ?_, ?_, ?_⟩ <;> assumption))
    clear hTmp
    have hTmp : Ab (w8.alloc (.cells #[.slice D8 r8.dev.s.length cd8, .slice E8 r8.dev.t.length ce8, .int .i64 r8.dev.cap, .bool r8.dev.down, .int .i64 r8.first, .int .i64 r8.next] 26)) wb := (by repeat (first | with_reducible exact Ab.refl _ | with_reducible assumption | with_reducible refine Ab.drew ?_ | with_reducible refine Ab.drewN ?_ _ | with_reducible refine Ab.alloc ?_ _ | with_reducible refine Ab.trans ?_ (by assumption) | with_reducible refine Ab.set ?_ (by first | (simp; done) | omega | (simp; omega)) _))
    obtain ⟨o9q0, o9q1, o9q2, o9q3, o9q4, o9q5⟩ := cells6 hTmp (b := w8.heap.size) (v0 := .slice D8 r8.dev.s.length cd8) (v1 := .slice E8 r8.dev.t.length ce8) (v2 := .int .i64 r8.dev.cap) (v3 := .bool r8.dev.down) (v4 := .int .i64 r8.first) (v5 := .int .i64 r8.next) (by first | (simp [go_sem]; done) | (refine ⟨?_, ?_, ?_, ?_, ?_, ?_⟩ <;> assumption))
    clear hTmp
    go_wp2_with fail
    refine (lsame_true D7 E7 D8 E8 cd7 ce7 cd8 ce8 r8.dev.s r8.dev.t r8.dev.cap r8.dev.down r8.first r8.next _ (p7.rb.zero.ab (by repeat (first | with_reducible exact Ab.refl _ | with_reducible assumption | with_reducible refine Ab.drew ?_ | with_reducible refine Ab.drewN ?_ _ | with_reducible refine Ab.alloc ?_ _ | with_reducible refine Ab.trans ?_ (by assumption) | with_reducible refine Ab.set ?_ (by first | (simp; done) | omega | (simp; omega)) _))) (q7.rb.zero.ab (by repeat (first | with_reducible exact Ab.refl _ | with_reducible assumption | with_reducible refine Ab.drew ?_ | with_reducible refine Ab.drewN ?_ _ | with_reducible refine Ab.alloc ?_ _ | with_reducible refine Ab.trans ?_ (by assumption) | with_reducible refine Ab.set ?_ (by first | (simp; done) | omega | (simp; omega)) _))) (p8.rb.zero.ab (by repeat (first | with_reducible exact Ab.refl _ | with_reducible assumption | with_reducible refine Ab.drew ?_ | with_reducible refine Ab.drewN ?_ _ | with_reducible refine Ab.alloc ?_ _ | with_reducible refine Ab.trans ?_ (by assumption) | with_reducible refine Ab.set ?_ (by first | (simp; done) | omega | (simp; omega)) _))) (q8.rb.zero.ab (by repeat (first | with_reducible exact Ab.refl _ | with_reducible assumption | with_reducible refine Ab.drew ?_ | with_reducible refine Ab.drewN ?_ _ | with_reducible refine Ab.alloc ?_ _ | with_reducible refine Ab.trans ?_ (by assumption) | with_reducible refine Ab.set ?_ (by first | (simp; done) | omega | (simp; omega)) _))) (by omega) (by omega)).mono ?_
    rintro e wd ⟨rfl, hwd⟩
    have hTmp : Ab (w2.alloc (.cells #[.slice D s.length cd, .slice E t.length ce, .int .i64 cap, .bool dn, .int .i64 f, .int .i64 n] 26)) wd := (by repeat (first | with_reducible exact Ab.refl _ | with_reducible assumption | with_reducible refine Ab.drew ?_ | with_reducible refine Ab.drewN ?_ _ | with_reducible refine Ab.alloc ?_ _ | with_reducible refine Ab.trans ?_ (by assumption) | with_reducible refine Ab.set ?_ (by first | (simp; done) | omega | (simp; omega)) _))
    obtain ⟨oq0, oq1, oq2, oq3, oq4, oq5⟩ := cells6 hTmp (b := w2.heap.size) (v0 := .slice D s.length cd) (v1 := .slice E t.length ce) (v2 := .int .i64 cap) (v3 := .bool dn) (v4 := .int .i64 f) (v5 := .int .i64 n) (by first | (simp [go_sem]; done) | (refine ⟨?_, ?_, ?_, ?_, ?_, ?_⟩ <;> assumption))
    clear hTmp
    have hTmp : Ab (w.alloc (.cells #[.slice A s.length ca, .slice B t.length cb, .int .i64 cap, .bool dn, .int .i64 f, .int .i64 n] 26)) wd := (by repeat (first | with_reducible exact Ab.refl _ | with_reducible assumption | with_reducible refine Ab.drew ?_ | with_reducible refine Ab.drewN ?_ _ | with_reducible refine Ab.alloc ?_ _ | with_reducible refine Ab.trans ?_ (by assumption) | with_reducible refine Ab.set ?_ (by first | (simp; done) | omega | (simp; omega)) _))
    obtain ⟨bq0, bq1, bq2, bq3, bq4, bq5⟩ := cells6 hTmp (b := w.heap.size) (v0 := .slice A s.length ca) (v1 := .slice B t.length cb) (v2 := .int .i64 cap) (v3 := .bool dn) (v4 := .int .i64 f) (v5 := .int .i64 n) (by first | (simp [go_sem]; done) | (refine ⟨?_, ?_, ?_, ?_, ?_, ?_⟩ <;> assumption))
    clear hTmp
    go_wp2_with fail
    refine (lsame_true D E A B cd ce ca cb s t cap dn f n _ (o1.rb.zero.ab (by repeat (first | with_reducible exact Ab.refl _ | with_reducible assumption | with_reducible refine Ab.drew ?_ | with_reducible refine Ab.drewN ?_ _ | with_reducible refine Ab.alloc ?_ _ | with_reducible refine Ab.trans ?_ (by assumption) | with_reducible refine Ab.set ?_ (by first | (simp; done) | omega | (simp; omega)) _))) (o2.rb.zero.ab (by repeat (first | with_reducible exact Ab.refl _ | with_reducible assumption | with_reducible refine Ab.drew ?_ | with_reducible refine Ab.drewN ?_ _ | with_reducible refine Ab.alloc ?_ _ | with_reducible refine Ab.trans ?_ (by assumption) | with_reducible refine Ab.set ?_ (by first | (simp; done) | omega | (simp; omega)) _))) (hs.ab (by repeat (first | with_reducible exact Ab.refl _ | with_reducible assumption | with_reducible refine Ab.drew ?_ | with_reducible refine Ab.drewN ?_ _ | with_reducible refine Ab.alloc ?_ _ | with_reducible refine Ab.trans ?_ (by assumption) | with_reducible refine Ab.set ?_ (by first | (simp; done) | omega | (simp; omega)) _))) (ht.ab (by repeat (first | with_reducible exact Ab.refl _ | with_reducible assumption | with_reducible refine Ab.drew ?_ | with_reducible refine Ab.drewN ?_ _ | with_reducible refine Ab.alloc ?_ _ | with_reducible refine Ab.trans ?_ (by assumption) | with_reducible refine Ab.set ?_ (by first | (simp; done) | omega | (simp; omega)) _))) (by omega) (by omega)).mono ?_
    rintro e we ⟨rfl, hwe⟩
    go_wp2
    go_ret
    exact ⟨rfl, (by repeat (first | with_reducible exact Ab.refl _ | with_reducible assumption | with_reducible refine Ab.drew ?_ | with_reducible refine Ab.drewN ?_ _ | with_reducible refine Ab.alloc ?_ _ | with_reducible refine Ab.trans ?_ (by assumption) | with_reducible refine Ab.set ?_ (by first | (simp; done) | omega | (simp; omega)) _))⟩
  · have HG := Lib.hid hg; clear hg
    go_enter Try.func5, Try.ntmps5
    go_wp2_with fail
    refine (great4_any A B ca cb s t cap dn _ ls lt).mono ?_
    rintro e w1 ⟨rfl, hb1⟩
    rw [HG.out]
    go_wp2
    go_ret
    exact ⟨rfl, (by repeat (first | with_reducible exact Ab.refl _ | with_reducible assumption | with_reducible refine Ab.drew ?_ | with_reducible refine Ab.drewN ?_ _ | with_reducible refine Ab.alloc ?_ _ | with_reducible refine Ab.trans ?_ (by assumption) | with_reducible refine Ab.set ?_ (by first | (simp; done) | omega | (simp; omega)) _))⟩
end Go.Proofs.Ytehagdpcegpbjaa
