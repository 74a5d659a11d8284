/- The texts WRefA, WRefB, WRefC, WRefD, one behind the other. Own work. -/
import Derived.Test.YthgcfjhnnhigoaaGreatGW
import Derived.Test.YthgcfjhnnhigoaaGreatGF
import Derived.Test.YthgcfjhnnhigoaaGreatGC
set_option linter.unusedVariables false
set_option linter.unusedSimpArgs false
/- Has, Check, synced and Synced of the reference of layer 4, walked. Own work. -/
namespace Go.Proofs.YthgcfjhnnhigoaaGreat
open Go.RowKit

/-- It returns the records of b, and how many bytes they have. -/
def HasP (b : List UInt8) (w : World) (e : Ending) (w' : World) : Prop :=
  ∃ (X : Option Addr) (d : Nat) (xs : List RecM) (u : Nat), Hid (Frame.IsScan b (recs xs) u) ∧ e = .returned (.tuple #[.slice X xs.length d, .int .i64 (u : Int)]) ∧ Recs w' w.heap.size X xs ∧ xs.length ≤ d ∧ xs.length ≤ 20000 ∧ Ab w w'
theorem OwnRecs.le {lo : Nat} {w : World} {A : Option Addr} {c : Nat} {xs : List RecM} (h : OwnRecs lo w A c xs) : xs.length ≤ c := by
  have h1 := h.1
  unfold OV at h1
  rcases h1.2 with ⟨hv, h0⟩ | ⟨g, cap, cur, hv, _, _, hn, _⟩
  · injection hv; omega
  · injection hv; omega
theorem has_any (A B : Option Addr) (ca cb : Nat) (s t : List UInt8) (cap : Int) (dn : Bool) (w : World) (hs : RB w 0 A s) (ht : RB w 0 B t) (hca : s.length ≤ ca) (hcb : t.length ≤ cb) (hl : s.length + t.length ≤ 20000) :
    Calls Tryz.prog 92 #[.agg #[.slice A s.length ca, .slice B t.length cb, .int .i64 cap, .bool dn]] w (HasP (s ++ t) w) := by
  go_enter Tryz.func92, Tryz.ntmps92
  go_wp2_with fail
  refine (whole_any A B ca cb s t cap dn _ (hs.ab abA) (ht.ab abA) hca hcb (by omega) (by omega)).mono ?_
  rintro e w1 ⟨L, D, c, hL, rfl, o1, hb1⟩
  have hLl : L.length ≤ 20000 := by rw [hL.out, List.length_append]; omega
  go_wp2_with fail
  refine (found_any D L c _ (o1.rb.zero.ab abA) o1.le hLl).mono ?_
  rintro e w2 ⟨X, d, xs, u, hS, rfl, ho, hb2⟩
  have hc := Wal.scan_count hS.out (recs_length xs) hLl
  have z1 := hb1.size
  simp at z1
  go_wp2
  go_ret2
  exact ⟨X, d, xs, u, Lib.hid (by rw [← hL.out]; exact hS.out), rfl, ((ho.recs.mono (by omega)).ab abA), ho.le, hc, abA⟩

theorem refc_down (A B : Option Addr) (ca cb : Nat) (s t : List UInt8) (cap : Int) (dn : Bool) (f n : Int) (w : World) (ls : s.length ≤ 1000000) (lt : t.length ≤ 1000000) (hu : Disk.up ⟨s, t, cap, dn⟩ ≠ 0) :
    Calls Tryz.prog 60 #[.agg #[.slice A s.length ca, .slice B t.length cb, .int .i64 cap, .bool dn, .int .i64 f, .int .i64 n]] w (RetInt w 8) := by
  generalize hv : Disk.up ⟨s, t, cap, dn⟩ = u at hu
  have HV := Lib.hid hv
  have hne : (u != 0) = true := by simpa using hu
  clear hu hv
  go_enter Tryz.func60, Tryz.ntmps60
  go_wp2_with fail
  refine (refUp_any A B ca cb s t cap dn _ ls lt).mono ?_
  rintro e w1 ⟨r, hr, rfl, hb1⟩
  obtain rfl : r = u := hr.out.trans HV.out
  go_wp2
  go_ret
  exact RetInt.mk rfl abA

set_option maxHeartbeats 1600000 in
theorem refc_some (A B : Option Addr) (ca cb : Nat) (s t : List UInt8) (cap f n : Int) (w : World) (hs : RB w 0 A s) (ht : RB w 0 B t) (hca : s.length ≤ ca) (hcb : t.length ≤ cb) (hu : Disk.up ⟨s, t, cap, false⟩ = 0) (rs : List Frame.Rec) (u : Nat) (hsc : Frame.IsScan (s ++ t) rs u) (m : Int)
    (hm : m = if u = s.length + t.length ∧ fitsB rs f n = true then 0 else 8) :
    Calls Tryz.prog 60 #[.agg #[.slice A s.length ca, .slice B t.length cb, .int .i64 cap, .bool false, .int .i64 f, .int .i64 n]] w (RetInt w m) := by
  have hnb := (Disk.up_zero hu).1
  have hsz := Disk.size_le hnb
  simp only [Disk.Dev.size] at hsz
  have hle := Frame.scan_le hsc
  rw [List.length_append] at hle
  have hl : s.length + t.length ≤ 20000 := by omega
  have ls : s.length ≤ 20000 := by omega
  have lt : t.length ≤ 20000 := by omega
  have HU := Lib.hid hu
  have HSC := Lib.hid hsc
  clear hnb hsz hu hsc
  by_cases huN : u = s.length + t.length
  · have HN := Lib.hid huN
    clear huN
    by_cases hr0 : rs.length = 0
    · have hrs : rs = [] := List.eq_nil_of_length_eq_zero hr0
      subst hrs
      by_cases h1 : f = n
      · have hfn : (f != n) = false := by simp [h1]
        by_cases h2 : 0 ≤ f
        · by_cases h3 : f ≤ 1000000001
          · obtain rfl : m = 0 := by rw [hm]; exact if_pos ⟨HN.out, fitsB_true.2 (fits_nil.2 ⟨h1, h2, h3⟩)⟩
            clear hm hr0 h1
            have h4 : ¬ 1000000001 < f := by omega
            go_enter Tryz.func60, Tryz.ntmps60
            go_wp2_with fail
            refine (refUp_any A B ca cb s t cap false _ (by omega) (by omega)).mono ?_
            rintro e w1 ⟨r, hr, rfl, hb1⟩
            obtain rfl : r = 0 := hr.out.trans HU.out
            obtain ⟨bq0, bq1, bq2, bq3, bq4, bq5⟩ := cells6 hb1 (b := w.heap.size) (v0 := .slice A s.length ca) (v1 := .slice B t.length cb) (v2 := .int .i64 cap) (v3 := .bool false) (v4 := .int .i64 f) (v5 := .int .i64 n) (by first | (simp [go_sem]; done) | (refine ⟨?_, ?_, ?_, ?_, ?_, ?_⟩ <;> assumption))
            go_wp2_with fail
            refine (has_any A B ca cb s t cap false _ (hs.ab abA) (ht.ab abA) hca hcb hl).mono ?_
            rintro e w2 ⟨X, d, xs, u', hS, rfl, hX, hd, hx, hb2⟩
            obtain ⟨h1, h2⟩ := Frame.scan_unique HSC.out hS.out
            subst h2
            have HR := Lib.hid h1
            clear h1 hS hr
            have hz2 : Ab (w.alloc (.cells #[.slice A s.length ca, .slice B t.length cb, .int .i64 cap, .bool false, .int .i64 f, .int .i64 n] 29)) w2 := abA
            obtain ⟨bq0, bq1, bq2, bq3, bq4, bq5⟩ := cells6 hz2 (b := w.heap.size) (v0 := .slice A s.length ca) (v1 := .slice B t.length cb) (v2 := .int .i64 cap) (v3 := .bool false) (v4 := .int .i64 f) (v5 := .int .i64 n) (by first | (simp [go_sem]; done) | (refine ⟨?_, ?_, ?_, ?_, ?_, ?_⟩ <;> assumption))
            go_wp2_with fail
            refine (whole_any A B ca cb s t cap false _ (hs.ab abA) (ht.ab abA) hca hcb (by omega) (by omega)).mono ?_
            rintro e w3 ⟨L, D, c, hL, rfl, o1, hb3⟩
            have hq : ((u : Int) != (L.length : Int)) = false := by have := HN.out; rw [hL.out, List.length_append]; simp; omega
            obtain rfl : xs = [] := by have := HR.out; exact List.eq_nil_of_length_eq_zero (by rw [← recs_length, ← this]; rfl)
            have hz3 : Ab (w.alloc (.cells #[.slice A s.length ca, .slice B t.length cb, .int .i64 cap, .bool false, .int .i64 f, .int .i64 n] 29)) w3 := abA
            obtain ⟨bq0, bq1, bq2, bq3, bq4, bq5⟩ := cells6 hz3 (b := w.heap.size) (v0 := .slice A s.length ca) (v1 := .slice B t.length cb) (v2 := .int .i64 cap) (v3 := .bool false) (v4 := .int .i64 f) (v5 := .int .i64 n) (by first | (simp [go_sem]; done) | (refine ⟨?_, ?_, ?_, ?_, ?_, ?_⟩ <;> assumption))
            go_wp2
            go_ret
            exact RetInt.mk rfl abA
          · obtain rfl : m = 8 := by rw [hm]; exact if_neg (fun h => h3 (fits_nil.1 (fitsB_true.1 h.2)).2.2)
            clear hm hr0 h1
            have h4 : 1000000001 < f := by omega
            go_enter Tryz.func60, Tryz.ntmps60
            go_wp2_with fail
            refine (refUp_any A B ca cb s t cap false _ (by omega) (by omega)).mono ?_
            rintro e w1 ⟨r, hr, rfl, hb1⟩
            obtain rfl : r = 0 := hr.out.trans HU.out
            obtain ⟨bq0, bq1, bq2, bq3, bq4, bq5⟩ := cells6 hb1 (b := w.heap.size) (v0 := .slice A s.length ca) (v1 := .slice B t.length cb) (v2 := .int .i64 cap) (v3 := .bool false) (v4 := .int .i64 f) (v5 := .int .i64 n) (by first | (simp [go_sem]; done) | (refine ⟨?_, ?_, ?_, ?_, ?_, ?_⟩ <;> assumption))
            go_wp2_with fail
            refine (has_any A B ca cb s t cap false _ (hs.ab abA) (ht.ab abA) hca hcb hl).mono ?_
            rintro e w2 ⟨X, d, xs, u', hS, rfl, hX, hd, hx, hb2⟩
            obtain ⟨h1, h2⟩ := Frame.scan_unique HSC.out hS.out
            subst h2
            have HR := Lib.hid h1
            clear h1 hS hr
            have hz2 : Ab (w.alloc (.cells #[.slice A s.length ca, .slice B t.length cb, .int .i64 cap, .bool false, .int .i64 f, .int .i64 n] 29)) w2 := abA
            obtain ⟨bq0, bq1, bq2, bq3, bq4, bq5⟩ := cells6 hz2 (b := w.heap.size) (v0 := .slice A s.length ca) (v1 := .slice B t.length cb) (v2 := .int .i64 cap) (v3 := .bool false) (v4 := .int .i64 f) (v5 := .int .i64 n) (by first | (simp [go_sem]; done) | (refine ⟨?_, ?_, ?_, ?_, ?_, ?_⟩ <;> assumption))
            go_wp2_with fail
            refine (whole_any A B ca cb s t cap false _ (hs.ab abA) (ht.ab abA) hca hcb (by omega) (by omega)).mono ?_
            rintro e w3 ⟨L, D, c, hL, rfl, o1, hb3⟩
            have hq : ((u : Int) != (L.length : Int)) = false := by have := HN.out; rw [hL.out, List.length_append]; simp; omega
            obtain rfl : xs = [] := by have := HR.out; exact List.eq_nil_of_length_eq_zero (by rw [← recs_length, ← this]; rfl)
            have hz3 : Ab (w.alloc (.cells #[.slice A s.length ca, .slice B t.length cb, .int .i64 cap, .bool false, .int .i64 f, .int .i64 n] 29)) w3 := abA
            obtain ⟨bq0, bq1, bq2, bq3, bq4, bq5⟩ := cells6 hz3 (b := w.heap.size) (v0 := .slice A s.length ca) (v1 := .slice B t.length cb) (v2 := .int .i64 cap) (v3 := .bool false) (v4 := .int .i64 f) (v5 := .int .i64 n) (by first | (simp [go_sem]; done) | (refine ⟨?_, ?_, ?_, ?_, ?_, ?_⟩ <;> assumption))
            go_wp2
            go_ret
            exact RetInt.mk rfl abA
        · obtain rfl : m = 8 := by rw [hm]; exact if_neg (fun h => h2 (fits_nil.1 (fitsB_true.1 h.2)).2.1)
          clear hm hr0 h1
          have h4 : f < 0 := by omega
          go_enter Tryz.func60, Tryz.ntmps60
          go_wp2_with fail
          refine (refUp_any A B ca cb s t cap false _ (by omega) (by omega)).mono ?_
          rintro e w1 ⟨r, hr, rfl, hb1⟩
          obtain rfl : r = 0 := hr.out.trans HU.out
          obtain ⟨bq0, bq1, bq2, bq3, bq4, bq5⟩ := cells6 hb1 (b := w.heap.size) (v0 := .slice A s.length ca) (v1 := .slice B t.length cb) (v2 := .int .i64 cap) (v3 := .bool false) (v4 := .int .i64 f) (v5 := .int .i64 n) (by first | (simp [go_sem]; done) | (refine ⟨?_, ?_, ?_, ?_, ?_, ?_⟩ <;> assumption))
          go_wp2_with fail
          refine (has_any A B ca cb s t cap false _ (hs.ab abA) (ht.ab abA) hca hcb hl).mono ?_
          rintro e w2 ⟨X, d, xs, u', hS, rfl, hX, hd, hx, hb2⟩
          obtain ⟨h1, h2⟩ := Frame.scan_unique HSC.out hS.out
          subst h2
          have HR := Lib.hid h1
          clear h1 hS hr
          have hz2 : Ab (w.alloc (.cells #[.slice A s.length ca, .slice B t.length cb, .int .i64 cap, .bool false, .int .i64 f, .int .i64 n] 29)) w2 := abA
          obtain ⟨bq0, bq1, bq2, bq3, bq4, bq5⟩ := cells6 hz2 (b := w.heap.size) (v0 := .slice A s.length ca) (v1 := .slice B t.length cb) (v2 := .int .i64 cap) (v3 := .bool false) (v4 := .int .i64 f) (v5 := .int .i64 n) (by first | (simp [go_sem]; done) | (refine ⟨?_, ?_, ?_, ?_, ?_, ?_⟩ <;> assumption))
          go_wp2_with fail
          refine (whole_any A B ca cb s t cap false _ (hs.ab abA) (ht.ab abA) hca hcb (by omega) (by omega)).mono ?_
          rintro e w3 ⟨L, D, c, hL, rfl, o1, hb3⟩
          have hq : ((u : Int) != (L.length : Int)) = false := by have := HN.out; rw [hL.out, List.length_append]; simp; omega
          obtain rfl : xs = [] := by have := HR.out; exact List.eq_nil_of_length_eq_zero (by rw [← recs_length, ← this]; rfl)
          have hz3 : Ab (w.alloc (.cells #[.slice A s.length ca, .slice B t.length cb, .int .i64 cap, .bool false, .int .i64 f, .int .i64 n] 29)) w3 := abA
          obtain ⟨bq0, bq1, bq2, bq3, bq4, bq5⟩ := cells6 hz3 (b := w.heap.size) (v0 := .slice A s.length ca) (v1 := .slice B t.length cb) (v2 := .int .i64 cap) (v3 := .bool false) (v4 := .int .i64 f) (v5 := .int .i64 n) (by first | (simp [go_sem]; done) | (refine ⟨?_, ?_, ?_, ?_, ?_, ?_⟩ <;> assumption))
          go_wp2
          go_ret
          exact RetInt.mk rfl abA
      · obtain rfl : m = 8 := by rw [hm]; exact if_neg (fun h => h1 (fits_nil.1 (fitsB_true.1 h.2)).1)
        have hfn : (f != n) = true := by simpa using h1
        clear hm hr0 h1
        go_enter Tryz.func60, Tryz.ntmps60
        go_wp2_with fail
        refine (refUp_any A B ca cb s t cap false _ (by omega) (by omega)).mono ?_
        rintro e w1 ⟨r, hr, rfl, hb1⟩
        obtain rfl : r = 0 := hr.out.trans HU.out
        obtain ⟨bq0, bq1, bq2, bq3, bq4, bq5⟩ := cells6 hb1 (b := w.heap.size) (v0 := .slice A s.length ca) (v1 := .slice B t.length cb) (v2 := .int .i64 cap) (v3 := .bool false) (v4 := .int .i64 f) (v5 := .int .i64 n) (by first | (simp [go_sem]; done) | (refine ⟨?_, ?_, ?_, ?_, ?_, ?_⟩ <;> assumption))
        go_wp2_with fail
        refine (has_any A B ca cb s t cap false _ (hs.ab abA) (ht.ab abA) hca hcb hl).mono ?_
        rintro e w2 ⟨X, d, xs, u', hS, rfl, hX, hd, hx, hb2⟩
        obtain ⟨h1, h2⟩ := Frame.scan_unique HSC.out hS.out
        subst h2
        have HR := Lib.hid h1
        clear h1 hS hr
        have hz2 : Ab (w.alloc (.cells #[.slice A s.length ca, .slice B t.length cb, .int .i64 cap, .bool false, .int .i64 f, .int .i64 n] 29)) w2 := abA
        obtain ⟨bq0, bq1, bq2, bq3, bq4, bq5⟩ := cells6 hz2 (b := w.heap.size) (v0 := .slice A s.length ca) (v1 := .slice B t.length cb) (v2 := .int .i64 cap) (v3 := .bool false) (v4 := .int .i64 f) (v5 := .int .i64 n) (by first | (simp [go_sem]; done) | (refine ⟨?_, ?_, ?_, ?_, ?_, ?_⟩ <;> assumption))
        go_wp2_with fail
        refine (whole_any A B ca cb s t cap false _ (hs.ab abA) (ht.ab abA) hca hcb (by omega) (by omega)).mono ?_
        rintro e w3 ⟨L, D, c, hL, rfl, o1, hb3⟩
        have hq : ((u : Int) != (L.length : Int)) = false := by have := HN.out; rw [hL.out, List.length_append]; simp; omega
        obtain rfl : xs = [] := by have := HR.out; exact List.eq_nil_of_length_eq_zero (by rw [← recs_length, ← this]; rfl)
        have hz3 : Ab (w.alloc (.cells #[.slice A s.length ca, .slice B t.length cb, .int .i64 cap, .bool false, .int .i64 f, .int .i64 n] 29)) w3 := abA
        obtain ⟨bq0, bq1, bq2, bq3, bq4, bq5⟩ := cells6 hz3 (b := w.heap.size) (v0 := .slice A s.length ca) (v1 := .slice B t.length cb) (v2 := .int .i64 cap) (v3 := .bool false) (v4 := .int .i64 f) (v5 := .int .i64 n) (by first | (simp [go_sem]; done) | (refine ⟨?_, ?_, ?_, ?_, ?_, ?_⟩ <;> assumption))
        go_wp2
        go_ret
        exact RetInt.mk rfl abA
    · have hF := HSC.out.1
      have hfs := fits_some (f := f) (n := n) hF (by omega)
      have hrg := Wal.base_rng hF (by omega)
      obtain ⟨bs, hbs⟩ : ∃ bs, Wal.base rs = bs := ⟨_, rfl⟩
      obtain ⟨k, hk⟩ : ∃ k, rs.length = k + 1 := ⟨rs.length - 1, by omega⟩
      rw [hbs, hk] at hfs hrg
      have HBS := Lib.hid hbs
      have HK := Lib.hid hk
      have hsum : IntKind.i64.wrap (bs + (k : Int) + 1) = bs + (k : Int) + 1 := IntWalk.i64_in _ (by omega)
      by_cases h1 : f = bs
      · have hq1 : (f != bs) = false := by simp [h1]
        by_cases h2 : n = bs + k + 1
        · have hq2 : (n != bs + (k : Int) + 1) = false := by simp [h2]
          obtain rfl : m = 0 := by rw [hm]; exact if_pos ⟨HN.out, fitsB_true.2 (hfs.2 ⟨h1, by omega⟩)⟩
          clear hm hr0 h1 h2 hfs hbs hk hF
          go_enter Tryz.func60, Tryz.ntmps60
          go_wp2_with fail
          refine (refUp_any A B ca cb s t cap false _ (by omega) (by omega)).mono ?_
          rintro e w1 ⟨r, hr, rfl, hb1⟩
          obtain rfl : r = 0 := hr.out.trans HU.out
          obtain ⟨bq0, bq1, bq2, bq3, bq4, bq5⟩ := cells6 hb1 (b := w.heap.size) (v0 := .slice A s.length ca) (v1 := .slice B t.length cb) (v2 := .int .i64 cap) (v3 := .bool false) (v4 := .int .i64 f) (v5 := .int .i64 n) (by first | (simp [go_sem]; done) | (refine ⟨?_, ?_, ?_, ?_, ?_, ?_⟩ <;> assumption))
          go_wp2_with fail
          refine (has_any A B ca cb s t cap false _ (hs.ab abA) (ht.ab abA) hca hcb hl).mono ?_
          rintro e w2 ⟨X, d, xs, u', hS, rfl, hX, hd, hx, hb2⟩
          obtain ⟨h1, h2⟩ := Frame.scan_unique HSC.out hS.out
          subst h2
          have HR := Lib.hid h1
          clear h1 hS hr
          have hz2 : Ab (w.alloc (.cells #[.slice A s.length ca, .slice B t.length cb, .int .i64 cap, .bool false, .int .i64 f, .int .i64 n] 29)) w2 := abA
          obtain ⟨bq0, bq1, bq2, bq3, bq4, bq5⟩ := cells6 hz2 (b := w.heap.size) (v0 := .slice A s.length ca) (v1 := .slice B t.length cb) (v2 := .int .i64 cap) (v3 := .bool false) (v4 := .int .i64 f) (v5 := .int .i64 n) (by first | (simp [go_sem]; done) | (refine ⟨?_, ?_, ?_, ?_, ?_, ?_⟩ <;> assumption))
          go_wp2_with fail
          refine (whole_any A B ca cb s t cap false _ (hs.ab abA) (ht.ab abA) hca hcb (by omega) (by omega)).mono ?_
          rintro e w3 ⟨L, D, c, hL, rfl, o1, hb3⟩
          have hq : ((u : Int) != (L.length : Int)) = false := by have := HN.out; rw [hL.out, List.length_append]; simp; omega
          have hz3 : Ab (w.alloc (.cells #[.slice A s.length ca, .slice B t.length cb, .int .i64 cap, .bool false, .int .i64 f, .int .i64 n] 29)) w3 := abA
          obtain ⟨bq0, bq1, bq2, bq3, bq4, bq5⟩ := cells6 hz3 (b := w.heap.size) (v0 := .slice A s.length ca) (v1 := .slice B t.length cb) (v2 := .int .i64 cap) (v3 := .bool false) (v4 := .int .i64 f) (v5 := .int .i64 n) (by first | (simp [go_sem]; done) | (refine ⟨?_, ?_, ?_, ?_, ?_, ?_⟩ <;> assumption))
          have hxl : xs.length = k + 1 := by rw [← recs_length, ← HR.out]; exact HK.out
          have hX3 := hX.ab hb3
          obtain ⟨a, hXa, -, c0, -⟩ := hX3.at_ (k := 0) (by omega)
          obtain ⟨a', hXa', -, c1, -⟩ := hX3.at_ (k := k) (by omega)
          rw [hXa] at hXa'
          obtain rfl := Option.some.inj hXa'
          have e0 : xs[0].num = bs := by
            have h8 := Wal.num_at HSC.out.1 0 (by have := HK.out; omega)
            have h9 := recs_get xs 0 (by omega)
            simp only [HR.out] at h8
            rw [h9] at h8
            rw [← HBS.out, HR.out]
            simpa [RecM.r] using h8
          have e1 : xs[k].num = bs + k := by
            have h8 := Wal.num_at HSC.out.1 k (by have := HK.out; omega)
            have h9 := recs_get xs k (by omega)
            simp only [HR.out] at h8
            rw [h9] at h8
            rw [← HBS.out, HR.out]
            simpa [RecM.r] using h8
          rw [e0] at c0
          rw [e1] at c1
          have c0' : w3.cell? a = some (.int .i64 bs) := c0
          have hidx : IntKind.i64.wrap ((xs.length : Int) - 1) = (k : Int) := by rw [IntWalk.i64_in _ (by omega)]; omega
          have hp0 : (0 : Int) < (xs.length : Int) := by omega
          have hp2 : 0 < xs.length := by omega
          have hp1 : (k : Int) < (xs.length : Int) := by omega
          have hp3 : (0 : Int) ≤ (k : Int) := by omega
          have hne0 : ((xs.length : Int) == 0) = false := by rw [beq_eq_false_iff_ne]; omega
          clear e0 e1 c0 hXa' hX3 hX
          subst hXa
          have HXL := Lib.hid hxl
          clear hxl
          go_wp2_with fail
          go_quiet (fail)
          go_wp2
          go_ret
          exact RetInt.mk rfl abA
        · have hq2 : (n != bs + (k : Int) + 1) = true := by simpa using h2
          obtain rfl : m = 8 := by rw [hm]; exact if_neg (fun h => h2 (by have := (hfs.1 (fitsB_true.1 h.2)).2; omega))
          clear hm hr0 h1 h2 hfs hbs hk hF
          go_enter Tryz.func60, Tryz.ntmps60
          go_wp2_with fail
          refine (refUp_any A B ca cb s t cap false _ (by omega) (by omega)).mono ?_
          rintro e w1 ⟨r, hr, rfl, hb1⟩
          obtain rfl : r = 0 := hr.out.trans HU.out
          obtain ⟨bq0, bq1, bq2, bq3, bq4, bq5⟩ := cells6 hb1 (b := w.heap.size) (v0 := .slice A s.length ca) (v1 := .slice B t.length cb) (v2 := .int .i64 cap) (v3 := .bool false) (v4 := .int .i64 f) (v5 := .int .i64 n) (by first | (simp [go_sem]; done) | (refine ⟨?_, ?_, ?_, ?_, ?_, ?_⟩ <;> assumption))
          go_wp2_with fail
          refine (has_any A B ca cb s t cap false _ (hs.ab abA) (ht.ab abA) hca hcb hl).mono ?_
          rintro e w2 ⟨X, d, xs, u', hS, rfl, hX, hd, hx, hb2⟩
          obtain ⟨h1, h2⟩ := Frame.scan_unique HSC.out hS.out
          subst h2
          have HR := Lib.hid h1
          clear h1 hS hr
          have hz2 : Ab (w.alloc (.cells #[.slice A s.length ca, .slice B t.length cb, .int .i64 cap, .bool false, .int .i64 f, .int .i64 n] 29)) w2 := abA
          obtain ⟨bq0, bq1, bq2, bq3, bq4, bq5⟩ := cells6 hz2 (b := w.heap.size) (v0 := .slice A s.length ca) (v1 := .slice B t.length cb) (v2 := .int .i64 cap) (v3 := .bool false) (v4 := .int .i64 f) (v5 := .int .i64 n) (by first | (simp [go_sem]; done) | (refine ⟨?_, ?_, ?_, ?_, ?_, ?_⟩ <;> assumption))
          go_wp2_with fail
          refine (whole_any A B ca cb s t cap false _ (hs.ab abA) (ht.ab abA) hca hcb (by omega) (by omega)).mono ?_
          rintro e w3 ⟨L, D, c, hL, rfl, o1, hb3⟩
          have hq : ((u : Int) != (L.length : Int)) = false := by have := HN.out; rw [hL.out, List.length_append]; simp; omega
          have hz3 : Ab (w.alloc (.cells #[.slice A s.length ca, .slice B t.length cb, .int .i64 cap, .bool false, .int .i64 f, .int .i64 n] 29)) w3 := abA
          obtain ⟨bq0, bq1, bq2, bq3, bq4, bq5⟩ := cells6 hz3 (b := w.heap.size) (v0 := .slice A s.length ca) (v1 := .slice B t.length cb) (v2 := .int .i64 cap) (v3 := .bool false) (v4 := .int .i64 f) (v5 := .int .i64 n) (by first | (simp [go_sem]; done) | (refine ⟨?_, ?_, ?_, ?_, ?_, ?_⟩ <;> assumption))
          have hxl : xs.length = k + 1 := by rw [← recs_length, ← HR.out]; exact HK.out
          have hX3 := hX.ab hb3
          obtain ⟨a, hXa, -, c0, -⟩ := hX3.at_ (k := 0) (by omega)
          obtain ⟨a', hXa', -, c1, -⟩ := hX3.at_ (k := k) (by omega)
          rw [hXa] at hXa'
          obtain rfl := Option.some.inj hXa'
          have e0 : xs[0].num = bs := by
            have h8 := Wal.num_at HSC.out.1 0 (by have := HK.out; omega)
            have h9 := recs_get xs 0 (by omega)
            simp only [HR.out] at h8
            rw [h9] at h8
            rw [← HBS.out, HR.out]
            simpa [RecM.r] using h8
          have e1 : xs[k].num = bs + k := by
            have h8 := Wal.num_at HSC.out.1 k (by have := HK.out; omega)
            have h9 := recs_get xs k (by omega)
            simp only [HR.out] at h8
            rw [h9] at h8
            rw [← HBS.out, HR.out]
            simpa [RecM.r] using h8
          rw [e0] at c0
          rw [e1] at c1
          have c0' : w3.cell? a = some (.int .i64 bs) := c0
          have hidx : IntKind.i64.wrap ((xs.length : Int) - 1) = (k : Int) := by rw [IntWalk.i64_in _ (by omega)]; omega
          have hp0 : (0 : Int) < (xs.length : Int) := by omega
          have hp2 : 0 < xs.length := by omega
          have hp1 : (k : Int) < (xs.length : Int) := by omega
          have hp3 : (0 : Int) ≤ (k : Int) := by omega
          have hne0 : ((xs.length : Int) == 0) = false := by rw [beq_eq_false_iff_ne]; omega
          clear e0 e1 c0 hXa' hX3 hX
          subst hXa
          have HXL := Lib.hid hxl
          clear hxl
          go_wp2_with fail
          go_quiet (fail)
          go_wp2
          go_ret
          exact RetInt.mk rfl abA
      · have hq1 : (f != bs) = true := by simpa using h1
        obtain rfl : m = 8 := by rw [hm]; exact if_neg (fun h => h1 (hfs.1 (fitsB_true.1 h.2)).1)
        clear hm hr0 h1 hfs hbs hk hF
        go_enter Tryz.func60, Tryz.ntmps60
        go_wp2_with fail
        refine (refUp_any A B ca cb s t cap false _ (by omega) (by omega)).mono ?_
        rintro e w1 ⟨r, hr, rfl, hb1⟩
        obtain rfl : r = 0 := hr.out.trans HU.out
        obtain ⟨bq0, bq1, bq2, bq3, bq4, bq5⟩ := cells6 hb1 (b := w.heap.size) (v0 := .slice A s.length ca) (v1 := .slice B t.length cb) (v2 := .int .i64 cap) (v3 := .bool false) (v4 := .int .i64 f) (v5 := .int .i64 n) (by first | (simp [go_sem]; done) | (refine ⟨?_, ?_, ?_, ?_, ?_, ?_⟩ <;> assumption))
        go_wp2_with fail
        refine (has_any A B ca cb s t cap false _ (hs.ab abA) (ht.ab abA) hca hcb hl).mono ?_
        rintro e w2 ⟨X, d, xs, u', hS, rfl, hX, hd, hx, hb2⟩
        obtain ⟨h1, h2⟩ := Frame.scan_unique HSC.out hS.out
        subst h2
        have HR := Lib.hid h1
        clear h1 hS hr
        have hz2 : Ab (w.alloc (.cells #[.slice A s.length ca, .slice B t.length cb, .int .i64 cap, .bool false, .int .i64 f, .int .i64 n] 29)) w2 := abA
        obtain ⟨bq0, bq1, bq2, bq3, bq4, bq5⟩ := cells6 hz2 (b := w.heap.size) (v0 := .slice A s.length ca) (v1 := .slice B t.length cb) (v2 := .int .i64 cap) (v3 := .bool false) (v4 := .int .i64 f) (v5 := .int .i64 n) (by first | (simp [go_sem]; done) | (refine ⟨?_, ?_, ?_, ?_, ?_, ?_⟩ <;> assumption))
        go_wp2_with fail
        refine (whole_any A B ca cb s t cap false _ (hs.ab abA) (ht.ab abA) hca hcb (by omega) (by omega)).mono ?_
        rintro e w3 ⟨L, D, c, hL, rfl, o1, hb3⟩
        have hq : ((u : Int) != (L.length : Int)) = false := by have := HN.out; rw [hL.out, List.length_append]; simp; omega
        have hz3 : Ab (w.alloc (.cells #[.slice A s.length ca, .slice B t.length cb, .int .i64 cap, .bool false, .int .i64 f, .int .i64 n] 29)) w3 := abA
        obtain ⟨bq0, bq1, bq2, bq3, bq4, bq5⟩ := cells6 hz3 (b := w.heap.size) (v0 := .slice A s.length ca) (v1 := .slice B t.length cb) (v2 := .int .i64 cap) (v3 := .bool false) (v4 := .int .i64 f) (v5 := .int .i64 n) (by first | (simp [go_sem]; done) | (refine ⟨?_, ?_, ?_, ?_, ?_, ?_⟩ <;> assumption))
        have hxl : xs.length = k + 1 := by rw [← recs_length, ← HR.out]; exact HK.out
        have hX3 := hX.ab hb3
        obtain ⟨a, hXa, -, c0, -⟩ := hX3.at_ (k := 0) (by omega)
        obtain ⟨a', hXa', -, c1, -⟩ := hX3.at_ (k := k) (by omega)
        rw [hXa] at hXa'
        obtain rfl := Option.some.inj hXa'
        have e0 : xs[0].num = bs := by
          have h8 := Wal.num_at HSC.out.1 0 (by have := HK.out; omega)
          have h9 := recs_get xs 0 (by omega)
          simp only [HR.out] at h8
          rw [h9] at h8
          rw [← HBS.out, HR.out]
          simpa [RecM.r] using h8
        have e1 : xs[k].num = bs + k := by
          have h8 := Wal.num_at HSC.out.1 k (by have := HK.out; omega)
          have h9 := recs_get xs k (by omega)
          simp only [HR.out] at h8
          rw [h9] at h8
          rw [← HBS.out, HR.out]
          simpa [RecM.r] using h8
        rw [e0] at c0
        rw [e1] at c1
        have c0' : w3.cell? a = some (.int .i64 bs) := c0
        have hidx : IntKind.i64.wrap ((xs.length : Int) - 1) = (k : Int) := by rw [IntWalk.i64_in _ (by omega)]; omega
        have hp0 : (0 : Int) < (xs.length : Int) := by omega
        have hp2 : 0 < xs.length := by omega
        have hp1 : (k : Int) < (xs.length : Int) := by omega
        have hp3 : (0 : Int) ≤ (k : Int) := by omega
        have hne0 : ((xs.length : Int) == 0) = false := by rw [beq_eq_false_iff_ne]; omega
        clear e0 e1 c0 hXa' hX3 hX
        subst hXa
        have HXL := Lib.hid hxl
        clear hxl
        go_wp2_with fail
        go_quiet (fail)
        go_wp2
        go_ret
        exact RetInt.mk rfl abA
  · obtain rfl : m = 8 := by rw [hm]; exact if_neg (fun h => huN h.1)
    clear hm
    go_enter Tryz.func60, Tryz.ntmps60
    go_wp2_with fail
    refine (refUp_any A B ca cb s t cap false _ (by omega) (by omega)).mono ?_
    rintro e w1 ⟨r, hr, rfl, hb1⟩
    obtain rfl : r = 0 := hr.out.trans HU.out
    obtain ⟨bq0, bq1, bq2, bq3, bq4, bq5⟩ := cells6 hb1 (b := w.heap.size) (v0 := .slice A s.length ca) (v1 := .slice B t.length cb) (v2 := .int .i64 cap) (v3 := .bool false) (v4 := .int .i64 f) (v5 := .int .i64 n) (by first | (simp [go_sem]; done) | (refine ⟨?_, ?_, ?_, ?_, ?_, ?_⟩ <;> assumption))
    go_wp2_with fail
    refine (has_any A B ca cb s t cap false _ (hs.ab abA) (ht.ab abA) hca hcb hl).mono ?_
    rintro e w2 ⟨X, d, xs, u', hS, rfl, hX, hd, hx, hb2⟩
    obtain ⟨h1, h2⟩ := Frame.scan_unique HSC.out hS.out
    subst h2
    have HR := Lib.hid h1
    clear h1 hS hr
    have hz2 : Ab (w.alloc (.cells #[.slice A s.length ca, .slice B t.length cb, .int .i64 cap, .bool false, .int .i64 f, .int .i64 n] 29)) w2 := abA
    obtain ⟨bq0, bq1, bq2, bq3, bq4, bq5⟩ := cells6 hz2 (b := w.heap.size) (v0 := .slice A s.length ca) (v1 := .slice B t.length cb) (v2 := .int .i64 cap) (v3 := .bool false) (v4 := .int .i64 f) (v5 := .int .i64 n) (by first | (simp [go_sem]; done) | (refine ⟨?_, ?_, ?_, ?_, ?_, ?_⟩ <;> assumption))
    go_wp2_with fail
    refine (whole_any A B ca cb s t cap false _ (hs.ab abA) (ht.ab abA) hca hcb (by omega) (by omega)).mono ?_
    rintro e w3 ⟨L, D, c, hL, rfl, o1, hb3⟩
    have hq : ((u : Int) != (L.length : Int)) = true := by rw [hL.out, List.length_append]; simp; omega
    go_wp2
    go_ret
    exact RetInt.mk rfl abA
end Go.Proofs.YthgcfjhnnhigoaaGreat

/- The reference of layer 4, second part, walked. Own work. -/
namespace Go.Proofs.YthgcfjhnnhigoaaGreat
open Go.RowKit

theorem refwcheck_any (A B : Option Addr) (ca cb : Nat) (s t : List UInt8) (cap : Int) (dn : Bool) (f n : Int) (w : World) (hs : RB w 0 A s) (ht : RB w 0 B t) (hca : s.length ≤ ca) (hcb : t.length ≤ cb) (ls : s.length ≤ 1000000) (lt : t.length ≤ 1000000) (g : Option (List Frame.Rec)) (hi : Wal.Is ⟨⟨s, t, cap, dn⟩, f, n⟩ g) :
    Calls Tryz.prog 60 #[.agg #[.slice A s.length ca, .slice B t.length cb, .int .i64 cap, .bool dn, .int .i64 f, .int .i64 n]] w (RetInt w (Wal.check g)) := by
  by_cases hu : Disk.up ⟨s, t, cap, dn⟩ = 0
  · obtain rfl : dn = false := (Disk.up_zero hu).2
    obtain ⟨rs, u, hsc⟩ := Wal.scan_exists (s ++ t)
    refine refc_some A B ca cb s t cap f n w hs ht hca hcb hu rs u hsc _ ?_
    cases g with
    | none =>
      symm
      refine if_neg (fun h => ?_)
      exact hi rs (Wal.good_of hsc hu (by rw [List.length_append]; exact h.1) (fitsB_true.1 h.2))
    | some rs' =>
      have hg : Wal.Good ⟨⟨s, t, cap, false⟩, f, n⟩ rs' := hi
      obtain ⟨h1, h2⟩ := Frame.scan_unique hsc hg.scan
      subst h1
      symm
      exact if_pos ⟨by rw [h2, List.length_append], fitsB_true.2 hg.2.2.2⟩
  · have : Wal.check g = 8 := by
      cases g with
      | none => rfl
      | some rs => exact absurd (show Disk.up ⟨s, t, cap, dn⟩ = 0 from (show Wal.Good ⟨⟨s, t, cap, dn⟩, f, n⟩ rs from hi).1) hu
    rw [this]
    exact refc_down A B ca cb s t cap dn f n w ls lt hu

theorem rsynced_any (A B : Option Addr) (ca cb : Nat) (s t : List UInt8) (cap f n : Int) (w : World) (hs : RB w 0 A s) (ht : RB w 0 B t) (hca : s.length ≤ ca) (hcb : t.length ≤ cb) (rs : List Frame.Rec) (hg : Wal.Good ⟨⟨s, t, cap, false⟩, f, n⟩ rs) :
    Calls Tryz.prog 91 #[.agg #[.slice A s.length ca, .slice B t.length cb, .int .i64 cap, .bool false, .int .i64 f, .int .i64 n]] w (RetInt w (f + Wal.cut rs s.length)) := by
  have hrm := hg.room
  simp only [Disk.Dev.size] at hrm
  have hrg := hg.rng
  simp only at hrg
  have HG := Lib.hid hg
  have ls : s.length ≤ 20000 := by omega
  clear hg
  go_enter Tryz.func91, Tryz.ntmps91
  go_wp2_with fail
  refine (found_any A s ca _ (hs.ab abA) hca ls).mono ?_
  rintro e w1 ⟨X, d, xs, u, hS, rfl, ho, hb1⟩
  have h1 := (Frame.scan_unique hS.out HG.out.synced).1
  have hl : xs.length = Wal.cut rs s.length := by
    have h2 := congrArg List.length h1
    rw [recs_length, List.length_take, Nat.min_eq_left (Wal.cut_le _ _)] at h2
    exact h2
  have hx := Wal.scan_count hS.out (recs_length xs) ls
  have HL := Lib.hid hl
  obtain ⟨bq0, bq1, bq2, bq3, bq4, bq5⟩ := cells6 hb1 (b := w.heap.size) (v0 := .slice A s.length ca) (v1 := .slice B t.length cb) (v2 := .int .i64 cap) (v3 := .bool false) (v4 := .int .i64 f) (v5 := .int .i64 n) (by first | (simp [go_sem]; done) | (refine ⟨?_, ?_, ?_, ?_, ?_, ?_⟩ <;> assumption))
  clear h1 hl hS
  go_wp2
  go_ret
  exact RetInt.mk (by rw [← HL.out]; rfl) abA

set_option maxHeartbeats 1600000 in
theorem refwsync_any (A B : Option Addr) (ca cb : Nat) (s t : List UInt8) (cap : Int) (dn : Bool) (f n : Int) (w : World) (hs : RB w 0 A s) (ht : RB w 0 B t) (hca : s.length ≤ ca) (hcb : t.length ≤ cb) (ls : s.length ≤ 1000000) (lt : t.length ≤ 1000000) (g : Option (List Frame.Rec)) (hi : Wal.Is ⟨⟨s, t, cap, dn⟩, f, n⟩ g) :
    Calls Tryz.prog 51 #[.agg #[.slice A s.length ca, .slice B t.length cb, .int .i64 cap, .bool dn, .int .i64 f, .int .i64 n]] w (RetLogE w (Wal.sync ⟨⟨s, t, cap, dn⟩, f, n⟩ g)) := by
  cases g with
  | none =>
    go_enter Tryz.func51, Tryz.ntmps51
    go_wp2_with fail
    refine (refwcheck_any A B ca cb s t cap dn f n _ (hs.ab abA) (ht.ab abA) hca hcb ls lt none hi).mono ?_
    rintro e w1 ⟨r, hr, rfl, hw1⟩
    obtain rfl : r = 8 := hr.out
    clear hr
    have zq0 := hw1.at (p := ⟨w.heap.size + 1, 0, none⟩) (v := .slice none 0 0) (by simp [go_sem]); have zq1 := hw1.at (p := ⟨w.heap.size + 1, 1, none⟩) (v := .slice none 0 0) (by simp [go_sem]); have zq2 := hw1.at (p := ⟨w.heap.size + 1, 2, none⟩) (v := .int .i64 0) (by simp [go_sem]); have zq3 := hw1.at (p := ⟨w.heap.size + 1, 3, none⟩) (v := .bool false) (by simp [go_sem]); have zq4 := hw1.at (p := ⟨w.heap.size + 1, 4, none⟩) (v := .int .i64 0) (by simp [go_sem]); have zq5 := hw1.at (p := ⟨w.heap.size + 1, 5, none⟩) (v := .int .i64 0) (by simp [go_sem])
    have zr0 : w1.frozen? ⟨w.heap.size + 1, 0, none⟩ = false := (hw1.frozen (p := ⟨w.heap.size + 1, 0, none⟩) (by simp)).trans (by simp [go_sem]); have zr1 : w1.frozen? ⟨w.heap.size + 1, 1, none⟩ = false := (hw1.frozen (p := ⟨w.heap.size + 1, 1, none⟩) (by simp)).trans (by simp [go_sem]); have zr2 : w1.frozen? ⟨w.heap.size + 1, 2, none⟩ = false := (hw1.frozen (p := ⟨w.heap.size + 1, 2, none⟩) (by simp)).trans (by simp [go_sem]); have zr3 : w1.frozen? ⟨w.heap.size + 1, 3, none⟩ = false := (hw1.frozen (p := ⟨w.heap.size + 1, 3, none⟩) (by simp)).trans (by simp [go_sem]); have zr4 : w1.frozen? ⟨w.heap.size + 1, 4, none⟩ = false := (hw1.frozen (p := ⟨w.heap.size + 1, 4, none⟩) (by simp)).trans (by simp [go_sem]); have zr5 : w1.frozen? ⟨w.heap.size + 1, 5, none⟩ = false := (hw1.frozen (p := ⟨w.heap.size + 1, 5, none⟩) (by simp)).trans (by simp [go_sem])
    obtain ⟨bq0, bq1, bq2, bq3, bq4, bq5⟩ := cells6 hw1 (b := w.heap.size) (v0 := .slice A s.length ca) (v1 := .slice B t.length cb) (v2 := .int .i64 cap) (v3 := .bool dn) (v4 := .int .i64 f) (v5 := .int .i64 n) (by first | (simp [go_sem]; done) | (refine ⟨?_, ?_, ?_, ?_, ?_, ?_⟩ <;> assumption))
    go_wp2_with fail
    refine (refwcheck_any A B ca cb s t cap dn f n _ (hs.ab abA) (ht.ab abA) hca hcb ls lt none hi).mono ?_
    rintro e w2 ⟨r, hr, rfl, hw2⟩
    obtain rfl : r = 8 := hr.out
    clear hr
    have hz2 : Ab ((w.alloc (.cells #[.slice A s.length ca, .slice B t.length cb, .int .i64 cap, .bool dn, .int .i64 f, .int .i64 n] 29)).alloc (.cells #[.slice none 0 0, .slice none 0 0, .int .i64 0, .bool false, .int .i64 0, .int .i64 0] 29)) w2 := abA
    have zq0 := hz2.at (p := ⟨w.heap.size + 1, 0, none⟩) (v := .slice none 0 0) (by simp [go_sem]); have zq1 := hz2.at (p := ⟨w.heap.size + 1, 1, none⟩) (v := .slice none 0 0) (by simp [go_sem]); have zq2 := hz2.at (p := ⟨w.heap.size + 1, 2, none⟩) (v := .int .i64 0) (by simp [go_sem]); have zq3 := hz2.at (p := ⟨w.heap.size + 1, 3, none⟩) (v := .bool false) (by simp [go_sem]); have zq4 := hz2.at (p := ⟨w.heap.size + 1, 4, none⟩) (v := .int .i64 0) (by simp [go_sem]); have zq5 := hz2.at (p := ⟨w.heap.size + 1, 5, none⟩) (v := .int .i64 0) (by simp [go_sem])
    have zr0 : w2.frozen? ⟨w.heap.size + 1, 0, none⟩ = false := (hz2.frozen (p := ⟨w.heap.size + 1, 0, none⟩) (by simp)).trans (by simp [go_sem]); have zr1 : w2.frozen? ⟨w.heap.size + 1, 1, none⟩ = false := (hz2.frozen (p := ⟨w.heap.size + 1, 1, none⟩) (by simp)).trans (by simp [go_sem]); have zr2 : w2.frozen? ⟨w.heap.size + 1, 2, none⟩ = false := (hz2.frozen (p := ⟨w.heap.size + 1, 2, none⟩) (by simp)).trans (by simp [go_sem]); have zr3 : w2.frozen? ⟨w.heap.size + 1, 3, none⟩ = false := (hz2.frozen (p := ⟨w.heap.size + 1, 3, none⟩) (by simp)).trans (by simp [go_sem]); have zr4 : w2.frozen? ⟨w.heap.size + 1, 4, none⟩ = false := (hz2.frozen (p := ⟨w.heap.size + 1, 4, none⟩) (by simp)).trans (by simp [go_sem]); have zr5 : w2.frozen? ⟨w.heap.size + 1, 5, none⟩ = false := (hz2.frozen (p := ⟨w.heap.size + 1, 5, none⟩) (by simp)).trans (by simp [go_sem])
    go_wp2
    refine bodyPost_ret (v := .tuple #[.agg #[.slice none 0 0, .slice none 0 0, .int .i64 0, .bool false, .int .i64 0, .int .i64 0], .int .i64 8]) (by simp [results, Tryz.results51, go_sem, zq0, zq1, zq2, zq3, zq4, zq5]) rfl ?_
    exact RetLogE.zero rfl abA
  | some rs =>
    obtain rfl : dn = false := hi.isUp
    have HS := Lib.hid (show Disk.sync ⟨s, t, cap, false⟩ = (⟨s ++ t, [], cap, false⟩, 0) by unfold Disk.sync; rw [if_neg (by simpa using hi.1)])
    go_enter Tryz.func51, Tryz.ntmps51
    go_wp2_with fail
    refine (refwcheck_any A B ca cb s t cap false f n _ (hs.ab abA) (ht.ab abA) hca hcb ls lt (some rs) hi).mono ?_
    rintro e w1 ⟨r, hr, rfl, hw1⟩
    obtain rfl : r = 0 := hr.out
    clear hr
    have z1 := hw1.size
    simp at z1
    obtain ⟨bq0, bq1, bq2, bq3, bq4, bq5⟩ := cells6 hw1 (b := w.heap.size) (v0 := .slice A s.length ca) (v1 := .slice B t.length cb) (v2 := .int .i64 cap) (v3 := .bool false) (v4 := .int .i64 f) (v5 := .int .i64 n) (by first | (simp [go_sem]; done) | (refine ⟨?_, ?_, ?_, ?_, ?_, ?_⟩ <;> assumption))
    go_wp2_with fail
    refine (refSync_any A B ca cb s t cap false _ (hs.ab abA) (ht.ab abA) hca hcb ls lt).mono ?_
    rintro e w2 ⟨r, er, D, E, cd, ce, hr, rfl, o1, o2, hb2⟩
    have hr1 := Lib.hid (Prod.mk.inj (hr.out.trans HS.out)).1
    obtain rfl : er = 0 := (Prod.mk.inj (hr.out.trans HS.out)).2
    clear hr
    have hz : Ab ((w.alloc (.cells #[.slice A s.length ca, .slice B t.length cb, .int .i64 cap, .bool false, .int .i64 f, .int .i64 n] 29)).alloc (.cells #[.slice none 0 0, .slice none 0 0, .int .i64 0, .bool false, .int .i64 0, .int .i64 0] 29)) w2 := abA
    have zq0 := hz.at (p := ⟨w.heap.size + 1, 0, none⟩) (v := .slice none 0 0) (by simp [go_sem]); have zq1 := hz.at (p := ⟨w.heap.size + 1, 1, none⟩) (v := .slice none 0 0) (by simp [go_sem]); have zq2 := hz.at (p := ⟨w.heap.size + 1, 2, none⟩) (v := .int .i64 0) (by simp [go_sem]); have zq3 := hz.at (p := ⟨w.heap.size + 1, 3, none⟩) (v := .bool false) (by simp [go_sem]); have zq4 := hz.at (p := ⟨w.heap.size + 1, 4, none⟩) (v := .int .i64 0) (by simp [go_sem]); have zq5 := hz.at (p := ⟨w.heap.size + 1, 5, none⟩) (v := .int .i64 0) (by simp [go_sem])
    have zr0 : w2.frozen? ⟨w.heap.size + 1, 0, none⟩ = false := (hz.frozen (p := ⟨w.heap.size + 1, 0, none⟩) (by simp)).trans (by simp [go_sem]); have zr1 : w2.frozen? ⟨w.heap.size + 1, 1, none⟩ = false := (hz.frozen (p := ⟨w.heap.size + 1, 1, none⟩) (by simp)).trans (by simp [go_sem]); have zr2 : w2.frozen? ⟨w.heap.size + 1, 2, none⟩ = false := (hz.frozen (p := ⟨w.heap.size + 1, 2, none⟩) (by simp)).trans (by simp [go_sem]); have zr3 : w2.frozen? ⟨w.heap.size + 1, 3, none⟩ = false := (hz.frozen (p := ⟨w.heap.size + 1, 3, none⟩) (by simp)).trans (by simp [go_sem]); have zr4 : w2.frozen? ⟨w.heap.size + 1, 4, none⟩ = false := (hz.frozen (p := ⟨w.heap.size + 1, 4, none⟩) (by simp)).trans (by simp [go_sem]); have zr5 : w2.frozen? ⟨w.heap.size + 1, 5, none⟩ = false := (hz.frozen (p := ⟨w.heap.size + 1, 5, none⟩) (by simp)).trans (by simp [go_sem])
    obtain ⟨bq0, bq1, bq2, bq3, bq4, bq5⟩ := cells6 hz (b := w.heap.size) (v0 := .slice A s.length ca) (v1 := .slice B t.length cb) (v2 := .int .i64 cap) (v3 := .bool false) (v4 := .int .i64 f) (v5 := .int .i64 n) (by first | (simp [go_sem]; done) | (refine ⟨?_, ?_, ?_, ?_, ?_, ?_⟩ <;> assumption))
    have z2 := hz.size
    simp at z2
    clear hz
    have nw2a := fun (o : Obj) (j : Nat) => World.cell?_alloc_lt w2 o ⟨w.heap.size, j, none⟩ (by simp; omega)
    have nw2c := fun (o : Obj) (j : Nat) => World.cell?_alloc_lt w2 o ⟨w.heap.size + 1, j, none⟩ (by simp; omega)
    have nw2b := fun (o : Obj) (j : Nat) => ((Ab.refl w2).alloc o).frozen (p := ⟨w.heap.size, j, none⟩) (by simp; omega)
    have nw2d := fun (o : Obj) (j : Nat) => ((Ab.refl w2).alloc o).frozen (p := ⟨w.heap.size + 1, j, none⟩) (by simp; omega)
    go_wp2
    refine bodyPost_ret (v := .tuple #[.agg #[.slice D (⟨r, f, n⟩ : Wal.Log).dev.s.length cd, .slice E (⟨r, f, n⟩ : Wal.Log).dev.t.length ce, .int .i64 (⟨r, f, n⟩ : Wal.Log).dev.cap, .bool (⟨r, f, n⟩ : Wal.Log).dev.down, .int .i64 (⟨r, f, n⟩ : Wal.Log).first, .int .i64 (⟨r, f, n⟩ : Wal.Log).next], .int .i64 0]) (by simp [results, Tryz.results51, go_sem, *]) rfl ?_
    exact ⟨⟨r, f, n⟩, 0, D, E, cd, ce, Lib.hid (by rw [hr1.out]; rfl), rfl, OR.mono (lo := w1.heap.size) orA wnA, OR.mono (lo := w1.heap.size) orA wnA, abA⟩

def great4B (a b : Nat) : Bool := decide (2000 < a) || decide (2000 < b)
theorem great4B_false {a b : Nat} (h : great4B a b = false) : a ≤ 2000 ∧ b ≤ 2000 := by unfold great4B at h; simp at h; omega
theorem great4_any (A B : Option Addr) (ca cb : Nat) (s t : List UInt8) (cap : Int) (dn : Bool) (w : World) (ls : s.length ≤ 9223372036854775807) (lt : t.length ≤ 9223372036854775807) :
    Calls Tryz.prog 33 #[.agg #[.slice A s.length ca, .slice B t.length cb, .int .i64 cap, .bool dn]] w fun e w' => e = .returned (.bool (great4B s.length t.length)) ∧ Ab w w' := by
  by_cases h1 : 2000 < s.length
  · have hv := Lib.hid (show great4B s.length t.length = true by unfold great4B; simp; omega)
    go_enter Tryz.func33, Tryz.ntmps33
    go_wp2
    go_ret
    exact ⟨ret_bool (by first | (rw [hv.out]; done) | (rw [hv.out]; simp; done) | (rw [hv.out]; simp; omega)), abA⟩
  · by_cases h2 : 2000 < t.length
    · have hv := Lib.hid (show great4B s.length t.length = true by unfold great4B; simp; omega)
      go_enter Tryz.func33, Tryz.ntmps33
      go_wp2
      go_ret
      exact ⟨ret_bool (by first | (rw [hv.out]; done) | (rw [hv.out]; simp; done) | (rw [hv.out]; simp; omega)), abA⟩
    · have hv := Lib.hid (show great4B s.length t.length = false by unfold great4B; simp; omega)
      go_enter Tryz.func33, Tryz.ntmps33
      go_wp2
      go_ret
      exact ⟨ret_bool (by first | (rw [hv.out]; done) | (rw [hv.out]; simp; done) | (rw [hv.out]; simp; omega)), abA⟩

theorem lsame_true (A B C D : Option Addr) (ca cb cc cd : Nat) (s t : List UInt8) (cap : Int) (dn : Bool) (f n : Int) (w : World) (hs : RB w 0 A s) (ht : RB w 0 B t) (hs' : RB w 0 C s) (ht' : RB w 0 D t) (ls : s.length ≤ 4000000) (lt : t.length ≤ 4000000) :
    Calls Tryz.prog 29 #[.agg #[.slice A s.length ca, .slice B t.length cb, .int .i64 cap, .bool dn, .int .i64 f, .int .i64 n], .agg #[.slice C s.length cc, .slice D t.length cd, .int .i64 cap, .bool dn, .int .i64 f, .int .i64 n]] w fun e w' => e = .returned (.bool true) ∧ Ab w w' := by
  go_enter Tryz.func29, Tryz.ntmps29
  go_wp2_with fail
  refine (same_true A B C D ca cb cc cd s t cap dn _ (hs.ab abA) (ht.ab abA) (hs'.ab abA) (ht'.ab abA) ls lt).mono ?_
  rintro e w1 ⟨rfl, hb1⟩
  go_wp2
  go_ret
  exact ⟨rfl, abA⟩

set_option maxHeartbeats 1600000 in
theorem ltwin_any (A B : Option Addr) (ca cb : Nat) (s t : List UInt8) (cap : Int) (dn : Bool) (f n : Int) (w : World) (hs : RB w 0 A s) (ht : RB w 0 B t) (hca : s.length ≤ ca) (hcb : t.length ≤ cb) (ls : s.length ≤ 1000000) (lt : t.length ≤ 1000000) :
    Calls Tryz.prog 35 #[.agg #[.slice A s.length ca, .slice B t.length cb, .int .i64 cap, .bool dn, .int .i64 f, .int .i64 n]] w (RetLog w ⟨⟨s, t, cap, dn⟩, f, n⟩) := by
  go_enter Tryz.func35, Tryz.ntmps35
  go_wp2_with fail
  go_region_held3 (fun w' => w'.cell? ⟨w.heap.size, 0, none⟩ = some (.slice A s.length ca) ∧ w'.cell? ⟨w.heap.size, 1, none⟩ = some (.slice B t.length cb) ∧ w'.cell? ⟨w.heap.size, 2, none⟩ = some (.int .i64 cap) ∧ w'.cell? ⟨w.heap.size, 3, none⟩ = some (.bool dn) ∧ w'.cell? ⟨w.heap.size, 4, none⟩ = some (.int .i64 f) ∧ w'.cell? ⟨w.heap.size, 5, none⟩ = some (.int .i64 n))
    ((refine ⟨?_, ?_, ?_, ?_, ?_, ?_⟩ <;> (exact ckA)))
    ((go_at_call 74
      refine (twin_any A B ca cb s t cap dn _ (hs.ab abA) (ht.ab abA) hca hcb ls lt).mono ?_
      rintro e w1 ⟨r, D, E, cd, ce, hr, rfl, o1, o2, hb1⟩
      have hz : Ab ((w.alloc (.cells #[.slice A s.length ca, .slice B t.length cb, .int .i64 cap, .bool dn, .int .i64 f, .int .i64 n] 29)).alloc (.cells #[.slice none 0 0, .slice none 0 0, .int .i64 0, .bool false, .int .i64 0, .int .i64 0] 29)) w1 := abA
      have zq0 := hz.at (p := ⟨w.heap.size + 1, 0, none⟩) (v := .slice none 0 0) (by simp [go_sem]); have zq1 := hz.at (p := ⟨w.heap.size + 1, 1, none⟩) (v := .slice none 0 0) (by simp [go_sem]); have zq2 := hz.at (p := ⟨w.heap.size + 1, 2, none⟩) (v := .int .i64 0) (by simp [go_sem]); have zq3 := hz.at (p := ⟨w.heap.size + 1, 3, none⟩) (v := .bool false) (by simp [go_sem]); have zq4 := hz.at (p := ⟨w.heap.size + 1, 4, none⟩) (v := .int .i64 0) (by simp [go_sem]); have zq5 := hz.at (p := ⟨w.heap.size + 1, 5, none⟩) (v := .int .i64 0) (by simp [go_sem])
      have zr0 : w1.frozen? ⟨w.heap.size + 1, 0, none⟩ = false := (hz.frozen (p := ⟨w.heap.size + 1, 0, none⟩) (by simp)).trans (by simp [go_sem]); have zr1 : w1.frozen? ⟨w.heap.size + 1, 1, none⟩ = false := (hz.frozen (p := ⟨w.heap.size + 1, 1, none⟩) (by simp)).trans (by simp [go_sem]); have zr2 : w1.frozen? ⟨w.heap.size + 1, 2, none⟩ = false := (hz.frozen (p := ⟨w.heap.size + 1, 2, none⟩) (by simp)).trans (by simp [go_sem]); have zr3 : w1.frozen? ⟨w.heap.size + 1, 3, none⟩ = false := (hz.frozen (p := ⟨w.heap.size + 1, 3, none⟩) (by simp)).trans (by simp [go_sem]); have zr4 : w1.frozen? ⟨w.heap.size + 1, 4, none⟩ = false := (hz.frozen (p := ⟨w.heap.size + 1, 4, none⟩) (by simp)).trans (by simp [go_sem]); have zr5 : w1.frozen? ⟨w.heap.size + 1, 5, none⟩ = false := (hz.frozen (p := ⟨w.heap.size + 1, 5, none⟩) (by simp)).trans (by simp [go_sem])
      have z1 := hz.size
      simp at z1
      have p1 : OR 5 (w.heap.size + 1 + 1) w1 D cd r.s := o1.mono (by simp)
      have p2 : OR 5 (w.heap.size + 1 + 1) w1 E ce r.t := o2.mono (by simp)
      clear o1 o2))
  all_goals go_wp2
  all_goals refine bodyPost_ret (v := .agg #[.slice D (⟨r, f, n⟩ : Wal.Log).dev.s.length cd, .slice E (⟨r, f, n⟩ : Wal.Log).dev.t.length ce, .int .i64 (⟨r, f, n⟩ : Wal.Log).dev.cap, .bool (⟨r, f, n⟩ : Wal.Log).dev.down, .int .i64 (⟨r, f, n⟩ : Wal.Log).first, .int .i64 (⟨r, f, n⟩ : Wal.Log).next]) (by simp [results, Tryz.results35, go_sem, zq0, zq1, zq2, zq3, zq4, zq5]) rfl ?_
  all_goals exact ⟨⟨r, f, n⟩, D, E, cd, ce, Lib.hid (by rw [hr.out]), rfl, OR.mono (lo := w.heap.size + 1 + 1) orA wnA, OR.mono (lo := w.heap.size + 1 + 1) orA wnA, abA⟩
end Go.Proofs.YthgcfjhnnhigoaaGreat

/- Append and Drop of the reference of layer 4, walked. Own work. -/
namespace Go.Proofs.YthgcfjhnnhigoaaGreat
open Go.RowKit

set_option maxHeartbeats 3200000 in
theorem refwappend_any (A B : Option Addr) (ca cb : Nat) (s t : List UInt8) (cap : Int) (dn : Bool) (f n : Int) (w : World) (hs : RB w 0 A s) (ht : RB w 0 B t) (hca : s.length ≤ ca) (hcb : t.length ≤ cb) (ls : s.length ≤ 1000000) (lt : t.length ≤ 1000000) (g : Option (List Frame.Rec)) (hi : Wal.Is ⟨⟨s, t, cap, dn⟩, f, n⟩ g) (C : Option Addr) (cc : Nat) (b : List UInt8) (hb : RB w 0 C b) (hcc : b.length ≤ cc) (lb : b.length ≤ 1000000) :
    Calls Tryz.prog 47 #[.agg #[.slice A s.length ca, .slice B t.length cb, .int .i64 cap, .bool dn, .int .i64 f, .int .i64 n], .slice C b.length cc] w (RetLog3 w (Wal.append ⟨⟨s, t, cap, dn⟩, f, n⟩ b g)) := by
  cases g with
  | none =>
    go_enter Tryz.func47, Tryz.ntmps47
    go_wp2_with fail
    refine (refwcheck_any A B ca cb s t cap dn f n _ (hs.ab abA) (ht.ab abA) hca hcb ls lt none hi).mono ?_
    rintro e w1 ⟨r, hr, rfl, hw1⟩
    obtain rfl : r = 8 := hr.out
    clear hr
    have zq0 := hw1.at (p := ⟨w.heap.size + 1, 0, none⟩) (v := .slice none 0 0) (by simp [go_sem]); have zq1 := hw1.at (p := ⟨w.heap.size + 1, 1, none⟩) (v := .slice none 0 0) (by simp [go_sem]); have zq2 := hw1.at (p := ⟨w.heap.size + 1, 2, none⟩) (v := .int .i64 0) (by simp [go_sem]); have zq3 := hw1.at (p := ⟨w.heap.size + 1, 3, none⟩) (v := .bool false) (by simp [go_sem]); have zq4 := hw1.at (p := ⟨w.heap.size + 1, 4, none⟩) (v := .int .i64 0) (by simp [go_sem]); have zq5 := hw1.at (p := ⟨w.heap.size + 1, 5, none⟩) (v := .int .i64 0) (by simp [go_sem])
    have zr0 : w1.frozen? ⟨w.heap.size + 1, 0, none⟩ = false := (hw1.frozen (p := ⟨w.heap.size + 1, 0, none⟩) (by simp)).trans (by simp [go_sem]); have zr1 : w1.frozen? ⟨w.heap.size + 1, 1, none⟩ = false := (hw1.frozen (p := ⟨w.heap.size + 1, 1, none⟩) (by simp)).trans (by simp [go_sem]); have zr2 : w1.frozen? ⟨w.heap.size + 1, 2, none⟩ = false := (hw1.frozen (p := ⟨w.heap.size + 1, 2, none⟩) (by simp)).trans (by simp [go_sem]); have zr3 : w1.frozen? ⟨w.heap.size + 1, 3, none⟩ = false := (hw1.frozen (p := ⟨w.heap.size + 1, 3, none⟩) (by simp)).trans (by simp [go_sem]); have zr4 : w1.frozen? ⟨w.heap.size + 1, 4, none⟩ = false := (hw1.frozen (p := ⟨w.heap.size + 1, 4, none⟩) (by simp)).trans (by simp [go_sem]); have zr5 : w1.frozen? ⟨w.heap.size + 1, 5, none⟩ = false := (hw1.frozen (p := ⟨w.heap.size + 1, 5, none⟩) (by simp)).trans (by simp [go_sem])
    obtain ⟨bq0, bq1, bq2, bq3, bq4, bq5⟩ := cells6 hw1 (b := w.heap.size) (v0 := .slice A s.length ca) (v1 := .slice B t.length cb) (v2 := .int .i64 cap) (v3 := .bool dn) (v4 := .int .i64 f) (v5 := .int .i64 n) (by first | (simp [go_sem]; done) | (refine ⟨?_, ?_, ?_, ?_, ?_, ?_⟩ <;> assumption))
    go_wp2_with fail
    refine (refwcheck_any A B ca cb s t cap dn f n _ (hs.ab abA) (ht.ab abA) hca hcb ls lt none hi).mono ?_
    rintro e w2 ⟨r, hr, rfl, hw2⟩
    obtain rfl : r = 8 := hr.out
    clear hr
    have hz2 : Ab ((w.alloc (.cells #[.slice A s.length ca, .slice B t.length cb, .int .i64 cap, .bool dn, .int .i64 f, .int .i64 n] 29)).alloc (.cells #[.slice none 0 0, .slice none 0 0, .int .i64 0, .bool false, .int .i64 0, .int .i64 0] 29)) w2 := abA
    have zq0 := hz2.at (p := ⟨w.heap.size + 1, 0, none⟩) (v := .slice none 0 0) (by simp [go_sem]); have zq1 := hz2.at (p := ⟨w.heap.size + 1, 1, none⟩) (v := .slice none 0 0) (by simp [go_sem]); have zq2 := hz2.at (p := ⟨w.heap.size + 1, 2, none⟩) (v := .int .i64 0) (by simp [go_sem]); have zq3 := hz2.at (p := ⟨w.heap.size + 1, 3, none⟩) (v := .bool false) (by simp [go_sem]); have zq4 := hz2.at (p := ⟨w.heap.size + 1, 4, none⟩) (v := .int .i64 0) (by simp [go_sem]); have zq5 := hz2.at (p := ⟨w.heap.size + 1, 5, none⟩) (v := .int .i64 0) (by simp [go_sem])
    have zr0 : w2.frozen? ⟨w.heap.size + 1, 0, none⟩ = false := (hz2.frozen (p := ⟨w.heap.size + 1, 0, none⟩) (by simp)).trans (by simp [go_sem]); have zr1 : w2.frozen? ⟨w.heap.size + 1, 1, none⟩ = false := (hz2.frozen (p := ⟨w.heap.size + 1, 1, none⟩) (by simp)).trans (by simp [go_sem]); have zr2 : w2.frozen? ⟨w.heap.size + 1, 2, none⟩ = false := (hz2.frozen (p := ⟨w.heap.size + 1, 2, none⟩) (by simp)).trans (by simp [go_sem]); have zr3 : w2.frozen? ⟨w.heap.size + 1, 3, none⟩ = false := (hz2.frozen (p := ⟨w.heap.size + 1, 3, none⟩) (by simp)).trans (by simp [go_sem]); have zr4 : w2.frozen? ⟨w.heap.size + 1, 4, none⟩ = false := (hz2.frozen (p := ⟨w.heap.size + 1, 4, none⟩) (by simp)).trans (by simp [go_sem]); have zr5 : w2.frozen? ⟨w.heap.size + 1, 5, none⟩ = false := (hz2.frozen (p := ⟨w.heap.size + 1, 5, none⟩) (by simp)).trans (by simp [go_sem])
    go_wp2
    refine bodyPost_ret (v := .tuple #[.agg #[.slice none 0 0, .slice none 0 0, .int .i64 0, .bool false, .int .i64 0, .int .i64 0], .int .i64 0, .int .i64 8]) (by simp [results, Tryz.results47, go_sem, zq0, zq1, zq2, zq3, zq4, zq5]) rfl ?_
    exact RetLog3.zero rfl abA
  | some rs =>
    obtain rfl : dn = false := hi.isUp
    by_cases h1 : 1000 < b.length
    · have HM := Lib.hid (show Wal.append ⟨⟨s, t, cap, false⟩, f, n⟩ b (some rs) = (Wal.zero, 0, 4) from if_pos h1)
      go_enter Tryz.func47, Tryz.ntmps47
      go_wp2_with fail
      refine (refwcheck_any A B ca cb s t cap false f n _ (hs.ab abA) (ht.ab abA) hca hcb ls lt (some rs) hi).mono ?_
      rintro e w1 ⟨r, hr, rfl, hw1⟩
      obtain rfl : r = 0 := hr.out
      clear hr
      have z1 := hw1.size
      simp at z1
      obtain ⟨bq0, bq1, bq2, bq3, bq4, bq5⟩ := cells6 hw1 (b := w.heap.size) (v0 := .slice A s.length ca) (v1 := .slice B t.length cb) (v2 := .int .i64 cap) (v3 := .bool false) (v4 := .int .i64 f) (v5 := .int .i64 n) (by first | (simp [go_sem]; done) | (refine ⟨?_, ?_, ?_, ?_, ?_, ?_⟩ <;> assumption))
      have zq0 := hw1.at (p := ⟨w.heap.size + 1, 0, none⟩) (v := .slice none 0 0) (by simp [go_sem]); have zq1 := hw1.at (p := ⟨w.heap.size + 1, 1, none⟩) (v := .slice none 0 0) (by simp [go_sem]); have zq2 := hw1.at (p := ⟨w.heap.size + 1, 2, none⟩) (v := .int .i64 0) (by simp [go_sem]); have zq3 := hw1.at (p := ⟨w.heap.size + 1, 3, none⟩) (v := .bool false) (by simp [go_sem]); have zq4 := hw1.at (p := ⟨w.heap.size + 1, 4, none⟩) (v := .int .i64 0) (by simp [go_sem]); have zq5 := hw1.at (p := ⟨w.heap.size + 1, 5, none⟩) (v := .int .i64 0) (by simp [go_sem])
      have zr0 : w1.frozen? ⟨w.heap.size + 1, 0, none⟩ = false := (hw1.frozen (p := ⟨w.heap.size + 1, 0, none⟩) (by simp)).trans (by simp [go_sem]); have zr1 : w1.frozen? ⟨w.heap.size + 1, 1, none⟩ = false := (hw1.frozen (p := ⟨w.heap.size + 1, 1, none⟩) (by simp)).trans (by simp [go_sem]); have zr2 : w1.frozen? ⟨w.heap.size + 1, 2, none⟩ = false := (hw1.frozen (p := ⟨w.heap.size + 1, 2, none⟩) (by simp)).trans (by simp [go_sem]); have zr3 : w1.frozen? ⟨w.heap.size + 1, 3, none⟩ = false := (hw1.frozen (p := ⟨w.heap.size + 1, 3, none⟩) (by simp)).trans (by simp [go_sem]); have zr4 : w1.frozen? ⟨w.heap.size + 1, 4, none⟩ = false := (hw1.frozen (p := ⟨w.heap.size + 1, 4, none⟩) (by simp)).trans (by simp [go_sem]); have zr5 : w1.frozen? ⟨w.heap.size + 1, 5, none⟩ = false := (hw1.frozen (p := ⟨w.heap.size + 1, 5, none⟩) (by simp)).trans (by simp [go_sem])
      go_wp2
      refine bodyPost_ret (v := .tuple #[.agg #[.slice none 0 0, .slice none 0 0, .int .i64 0, .bool false, .int .i64 0, .int .i64 0], .int .i64 0, .int .i64 4]) (by simp [results, Tryz.results47, go_sem, zq0, zq1, zq2, zq3, zq4, zq5]) rfl ?_
      exact RetLog3.zero HM.out.symm abA
    have k1 : b.length ≤ 1000 := by omega
    have hd1 : decide (1000 < b.length) = false := by simpa using h1
    by_cases h2 : 1000000000 < n
    · have HM := Lib.hid (show Wal.append ⟨⟨s, t, cap, false⟩, f, n⟩ b (some rs) = (Wal.zero, 0, 2) from (if_neg h1).trans (if_pos h2))
      clear h1
      go_enter Tryz.func47, Tryz.ntmps47
      go_wp2_with fail
      refine (refwcheck_any A B ca cb s t cap false f n _ (hs.ab abA) (ht.ab abA) hca hcb ls lt (some rs) hi).mono ?_
      rintro e w1 ⟨r, hr, rfl, hw1⟩
      obtain rfl : r = 0 := hr.out
      clear hr
      have z1 := hw1.size
      simp at z1
      obtain ⟨bq0, bq1, bq2, bq3, bq4, bq5⟩ := cells6 hw1 (b := w.heap.size) (v0 := .slice A s.length ca) (v1 := .slice B t.length cb) (v2 := .int .i64 cap) (v3 := .bool false) (v4 := .int .i64 f) (v5 := .int .i64 n) (by first | (simp [go_sem]; done) | (refine ⟨?_, ?_, ?_, ?_, ?_, ?_⟩ <;> assumption))
      have zq0 := hw1.at (p := ⟨w.heap.size + 1, 0, none⟩) (v := .slice none 0 0) (by simp [go_sem]); have zq1 := hw1.at (p := ⟨w.heap.size + 1, 1, none⟩) (v := .slice none 0 0) (by simp [go_sem]); have zq2 := hw1.at (p := ⟨w.heap.size + 1, 2, none⟩) (v := .int .i64 0) (by simp [go_sem]); have zq3 := hw1.at (p := ⟨w.heap.size + 1, 3, none⟩) (v := .bool false) (by simp [go_sem]); have zq4 := hw1.at (p := ⟨w.heap.size + 1, 4, none⟩) (v := .int .i64 0) (by simp [go_sem]); have zq5 := hw1.at (p := ⟨w.heap.size + 1, 5, none⟩) (v := .int .i64 0) (by simp [go_sem])
      have zr0 : w1.frozen? ⟨w.heap.size + 1, 0, none⟩ = false := (hw1.frozen (p := ⟨w.heap.size + 1, 0, none⟩) (by simp)).trans (by simp [go_sem]); have zr1 : w1.frozen? ⟨w.heap.size + 1, 1, none⟩ = false := (hw1.frozen (p := ⟨w.heap.size + 1, 1, none⟩) (by simp)).trans (by simp [go_sem]); have zr2 : w1.frozen? ⟨w.heap.size + 1, 2, none⟩ = false := (hw1.frozen (p := ⟨w.heap.size + 1, 2, none⟩) (by simp)).trans (by simp [go_sem]); have zr3 : w1.frozen? ⟨w.heap.size + 1, 3, none⟩ = false := (hw1.frozen (p := ⟨w.heap.size + 1, 3, none⟩) (by simp)).trans (by simp [go_sem]); have zr4 : w1.frozen? ⟨w.heap.size + 1, 4, none⟩ = false := (hw1.frozen (p := ⟨w.heap.size + 1, 4, none⟩) (by simp)).trans (by simp [go_sem]); have zr5 : w1.frozen? ⟨w.heap.size + 1, 5, none⟩ = false := (hw1.frozen (p := ⟨w.heap.size + 1, 5, none⟩) (by simp)).trans (by simp [go_sem])
      go_wp2
      refine bodyPost_ret (v := .tuple #[.agg #[.slice none 0 0, .slice none 0 0, .int .i64 0, .bool false, .int .i64 0, .int .i64 0], .int .i64 0, .int .i64 2]) (by simp [results, Tryz.results47, go_sem, zq0, zq1, zq2, zq3, zq4, zq5]) rfl ?_
      exact RetLog3.zero HM.out.symm abA
    have k2 : n ≤ 1000000000 := by omega
    have hd2 : decide (1000000000 < n) = false := by simpa using h2
    have hrg := hi.rng
    simp only at hrg
    have hrm := hi.room
    simp only [Disk.Dev.size] at hrm
    have HV := Lib.hid (show Frame.Valid ⟨n, b⟩ from ⟨by simp only; omega, k2, k1⟩)
    have hen : (Frame.enc ⟨n, b⟩).length = 12 + b.length := Frame.enc_length _
    have HD : Hid (Wal.append ⟨⟨s, t, cap, false⟩, f, n⟩ b (some rs) = (if (Disk.append ⟨s, t, cap, false⟩ (Frame.enc ⟨n, b⟩)).2 ≠ 0 then (Wal.zero, 0, (Disk.append ⟨s, t, cap, false⟩ (Frame.enc ⟨n, b⟩)).2) else (⟨(Disk.append ⟨s, t, cap, false⟩ (Frame.enc ⟨n, b⟩)).1, f, n + 1⟩, n, 0))) := Lib.hid (by
      by_cases h3 : cap - ((s.length : Int) + t.length) < 12 + b.length
      · have hD : Disk.append ⟨s, t, cap, false⟩ (Frame.enc ⟨n, b⟩) = (Disk.zero, 18) := by
          unfold Disk.append; rw [if_neg (by simpa using hi.1), if_pos (by simp only [Disk.Dev.size]; omega)]
        rw [hD]
        exact (if_neg h1).trans ((if_neg h2).trans (if_pos (by simp only [Disk.Dev.size]; omega)))
      · have hD : Disk.append ⟨s, t, cap, false⟩ (Frame.enc ⟨n, b⟩) = (⟨s, t ++ Frame.enc ⟨n, b⟩, cap, false⟩, 0) := by
          unfold Disk.append; rw [if_neg (by simpa using hi.1), if_neg (by simp only [Disk.Dev.size]; omega)]
        rw [hD]
        exact (if_neg h1).trans ((if_neg h2).trans (if_neg (by simp only [Disk.Dev.size]; omega))))
    have hsum : IntKind.i64.wrap (n + 1) = n + 1 := IntWalk.i64_in _ (by omega)
    clear h1 h2 hen
    go_enter Tryz.func47, Tryz.ntmps47
    go_wp2_with fail
    refine (refwcheck_any A B ca cb s t cap false f n _ (hs.ab abA) (ht.ab abA) hca hcb ls lt (some rs) hi).mono ?_
    rintro e w1 ⟨r, hr, rfl, hw1⟩
    obtain rfl : r = 0 := hr.out
    clear hr
    have z1 := hw1.size
    simp at z1
    obtain ⟨bq0, bq1, bq2, bq3, bq4, bq5⟩ := cells6 hw1 (b := w.heap.size) (v0 := .slice A s.length ca) (v1 := .slice B t.length cb) (v2 := .int .i64 cap) (v3 := .bool false) (v4 := .int .i64 f) (v5 := .int .i64 n) (by first | (simp [go_sem]; done) | (refine ⟨?_, ?_, ?_, ?_, ?_, ?_⟩ <;> assumption))
    go_upto_region 7 with fail
    go_cut [7, 8] (fun v7 v8 wx => DevCut w ((w.alloc (.cells #[.slice A s.length ca, .slice B t.length cb, .int .i64 cap, .bool false, .int .i64 f, .int .i64 n] 29)).alloc (.cells #[.slice none 0 0, .slice none 0 0, .int .i64 0, .bool false, .int .i64 0, .int .i64 0] 29)) (Disk.append ⟨s, t, cap, false⟩ (Frame.enc ⟨n, b⟩)) v7 v8 wx)
    case first =>
      refine wp_region_held_drew (by kernel_rfl) (S := fun w' => w'.cell? ⟨w.heap.size, 0, none⟩ = some (.slice A s.length ca) ∧ w'.cell? ⟨w.heap.size, 1, none⟩ = some (.slice B t.length cb) ∧ w'.cell? ⟨w.heap.size, 2, none⟩ = some (.int .i64 cap) ∧ w'.cell? ⟨w.heap.size, 3, none⟩ = some (.bool false) ∧ w'.cell? ⟨w.heap.size, 4, none⟩ = some (.int .i64 f) ∧ w'.cell? ⟨w.heap.size, 5, none⟩ = some (.int .i64 n)) ?_ (fun hHeld => ?_)
      · (refine ⟨?_, ?_, ?_, ?_, ?_, ?_⟩ <;> (exact ckA))
      (refine wpAnyH_take (i := 0) (v := ?_) rfl (by kernel_rfl) (by kernel_rfl) (by kernel_rfl) (fun _ _ _ h => h) (Or.inl ⟨by kernel_rfl, ?_⟩) (by assumption) ?_
       rotate_left
       · (intro w hSw; (try dsimp only at hSw); go_simp; (try with_reducible rfl))
       (try simp only [Act.put, stA, st0, st1]))
      (refine wpAnyH_take (i := 1) (v := ?_) rfl (by kernel_rfl) (by kernel_rfl) (by kernel_rfl) (fun _ _ _ h => h) (Or.inl ⟨by kernel_rfl, ?_⟩) (by assumption) ?_
       rotate_left
       · (intro w hSw; (try dsimp only at hSw); go_simp; (try with_reducible rfl))
       (try simp only [Act.put, stA, st0, st1]))
      (refine wpAnyH_take (i := 2) (v := ?_) rfl (by kernel_rfl) (by kernel_rfl) (by kernel_rfl) (fun _ _ _ h => h) (Or.inl ⟨by kernel_rfl, ?_⟩) (by assumption) ?_
       rotate_left
       · (intro w hSw; (try dsimp only at hSw); go_simp; (try with_reducible rfl))
       (try simp only [Act.put, stA, st0, st1]))
      (refine wpAnyH_take (i := 3) (v := ?_) rfl (by kernel_rfl) (by kernel_rfl) (by kernel_rfl) (fun _ _ _ h => h) (Or.inl ⟨by kernel_rfl, ?_⟩) (by assumption) ?_
       rotate_left
       · (intro w hSw; (try dsimp only at hSw); go_simp; (try with_reducible rfl))
       (try simp only [Act.put, stA, st0, st1]))
      (refine wpAnyH_take (i := 4) (v := ?_) rfl (by kernel_rfl) (by kernel_rfl) (by kernel_rfl) (fun _ _ _ h => h) (Or.inl ⟨by kernel_rfl, ?_⟩) (by assumption) ?_
       rotate_left
       · (intro w hSw; (try dsimp only at hSw); go_simp; (try with_reducible rfl))
       (try simp only [Act.put, stA, st0, st1]))
      (refine wpAnyH_take (i := 5) (v := ?_) rfl (by kernel_rfl) (by kernel_rfl) (by kernel_rfl) (fun _ _ _ h => h) (Or.inl ⟨by kernel_rfl, ?_⟩) (by assumption) ?_
       rotate_left
       · (intro w hSw; (try dsimp only at hSw); go_simp; (try with_reducible rfl))
       (try simp only [Act.put, stA, st0, st1]))
      (refine wpAnyH_ready (rs := [6, 11]) (by kernel_rfl) (by simp) ?_)
      refine AllReadyH.cons rfl (fun K hK => ?_) (AllReadyH.cons rfl (fun K hK => ?_) AllReadyH.nil)
      · (go_simp
         ((go_at_call 81)
          refine (bytes_any n C b cc _ HV.out (hb.ab abA) hcc).mono ?_
          rintro e w2 ⟨D0, c0, L, hL, rfl, o0, hb2⟩
          have hLl : L.length ≤ 1012 := by have h9 := congrArg List.length hL.out; rw [Frame.enc_length] at h9; simp only at h9; omega
          have z2 := hb2.size
          (try simp at z2))
         (try go_wp2_with fail)
         (refine hK.out _ _ ?_ (fun hHeld => ?_)
          · (try dsimp only); (refine ⟨?_, ?_, ?_, ?_, ?_, ?_⟩ <;> (exact ckA))
          clear hK K
          (try simp only [Act.put, stA, st0, st1])))
        (refine wpAnyH_ready (rs := [7, 11]) (by kernel_rfl) (by simp) ?_)
        refine AllReadyH.cons rfl (fun K hK => ?_) (AllReadyH.cons rfl (fun K hK => ?_) AllReadyH.nil)
        · (go_simp
           ((go_at_call 80)
            refine (refAppend_any A B ca cb s t cap false _ (hs.ab abA) (ht.ab abA) hca hcb ls lt D0 c0 L (o0.rb.zero.ab abA) o0.le (by omega)).mono ?_
            rintro e w3 ⟨r, er, D, E, cd, ce, hr, rfl, o1, o2, hb3⟩
            have z3 := hb3.size
            (try simp at z3)
            have hr := Lib.hid (show (r, er) = Disk.append ⟨s, t, cap, false⟩ (Frame.enc ⟨n, b⟩) by rw [← hL.out]; exact hr.out)
            have o1 : OR 5 (w2.heap.size) w3 D cd r.s := OR.mono o1 wnA
            have o2 : OR 5 (w2.heap.size) w3 E ce r.t := OR.mono o2 wnA
            skip)
           (try go_wp2_with fail)
           (refine hK.out _ _ ?_ (fun hHeld => ?_)
            · (try dsimp only); (refine ⟨?_, ?_, ?_, ?_, ?_, ?_⟩ <;> (exact ckA))
            clear hK K
            (try simp only [Act.put, stA, st0, st1])))
          (refine wpAnyH_take (i := 8) (v := ?_) rfl (by kernel_rfl) (by kernel_rfl) (by kernel_rfl) (fun _ _ _ h => h) (Or.inl ⟨by kernel_rfl, ?_⟩) (by assumption) ?_
           rotate_left
           · (intro w hSw; (try dsimp only at hSw); go_simp; (try with_reducible rfl))
           (try simp only [Act.put, stA, st0, st1]))
          (refine wpAnyH_take (i := 9) (v := ?_) rfl (by kernel_rfl) (by kernel_rfl) (by kernel_rfl) (fun _ _ _ h => h) (Or.inl ⟨by kernel_rfl, ?_⟩) (by assumption) ?_
           rotate_left
           · (intro w hSw; (try dsimp only at hSw); go_simp; (try with_reducible rfl))
           (try simp only [Act.put, stA, st0, st1]))
          (refine wpAnyH_take (i := 10) (v := ?_) rfl (by kernel_rfl) (by kernel_rfl) (by kernel_rfl) (fun _ _ _ h => h) (Or.inl ⟨by kernel_rfl, ?_⟩) (by assumption) ?_
           rotate_left
           · (intro w hSw; (try dsimp only at hSw); go_simp; (try with_reducible rfl))
           (try simp only [Act.put, stA, st0, st1]))
          (refine wpAnyH_ready (rs := [11]) (by kernel_rfl) (by simp) ?_)
          refine AllReadyH.cons rfl (fun K hK => ?_) AllReadyH.nil
          (go_simp
           (refine hK.out _ _ ?_ (fun hHeld => ?_)
            · (try dsimp only); (refine ⟨?_, ?_, ?_, ?_, ?_, ?_⟩ <;> (exact ckA))
            clear hK K
            (try simp only [Act.put, stA, st0, st1])))
          (refine wpAnyH_ready (rs := [12]) (by kernel_rfl) (by simp) ?_)
          refine AllReadyH.cons rfl (fun K hK => ?_) AllReadyH.nil
          (go_simp
           (refine hK.out _ _ ?_ (fun hHeld => ?_)
            · (try dsimp only); (refine ⟨?_, ?_, ?_, ?_, ?_, ?_⟩ <;> (exact ckA))
            clear hK K
            (try simp only [Act.put, stA, st0, st1])))
          (refine wpAnyH_ready (rs := [13]) (by kernel_rfl) (by simp) ?_)
          refine AllReadyH.cons rfl (fun K hK => ?_) AllReadyH.nil
          (go_simp
           (refine hK.out _ _ ?_ (fun hHeld => ?_)
            · (try dsimp only); (refine ⟨?_, ?_, ?_, ?_, ?_, ?_⟩ <;> (exact ckA))
            clear hK K
            (try simp only [Act.put, stA, st0, st1])))
          refine wpAnyH_done (by kernel_rfl) ?_ _
          go_wp2_with fail
          go_meet
          exact ⟨_, r, er, D, E, cd, ce, rfl, rfl, hr, (by first | (simp [go_sem]; done) | (simp [go_sem, *]; done)), (by first | (simp [go_sem]; done) | (simp [go_sem, *]; done)), (by first | (simp [go_sem]; done) | (simp [go_sem, *]; done)), (by first | (simp [go_sem]; done) | (simp [go_sem, *]; done)), OR.mono (lo := w2.heap.size) orA wnA, OR.mono (lo := w2.heap.size) orA wnA, wnA, abA⟩
        · (go_simp
           (refine hK.out _ _ ?_ (fun hHeld => ?_)
            · (try dsimp only); (refine ⟨?_, ?_, ?_, ?_, ?_, ?_⟩ <;> (exact ckA))
            clear hK K
            (try simp only [Act.put, stA, st0, st1])))
          (refine wpAnyH_ready (rs := [7]) (by kernel_rfl) (by simp) ?_)
          refine AllReadyH.cons rfl (fun K hK => ?_) AllReadyH.nil
          (go_simp
           ((go_at_call 80)
            refine (refAppend_any A B ca cb s t cap false _ (hs.ab abA) (ht.ab abA) hca hcb ls lt D0 c0 L (o0.rb.zero.ab abA) o0.le (by omega)).mono ?_
            rintro e w3 ⟨r, er, D, E, cd, ce, hr, rfl, o1, o2, hb3⟩
            have z3 := hb3.size
            (try simp at z3)
            have hr := Lib.hid (show (r, er) = Disk.append ⟨s, t, cap, false⟩ (Frame.enc ⟨n, b⟩) by rw [← hL.out]; exact hr.out)
            have o1 : OR 5 (w2.heap.size + 1) w3 D cd r.s := OR.mono o1 wnA
            have o2 : OR 5 (w2.heap.size + 1) w3 E ce r.t := OR.mono o2 wnA
            have yq0 := hb3.at (p := ⟨w2.heap.size, 0, none⟩) (v := .slice none 0 0) (by simp [go_sem]); have yq1 := hb3.at (p := ⟨w2.heap.size, 1, none⟩) (v := .slice none 0 0) (by simp [go_sem]); have yq2 := hb3.at (p := ⟨w2.heap.size, 2, none⟩) (v := .int .i64 0) (by simp [go_sem]); have yq3 := hb3.at (p := ⟨w2.heap.size, 3, none⟩) (v := .bool false) (by simp [go_sem])
            have yr0 : w3.frozen? ⟨w2.heap.size, 0, none⟩ = false := (hb3.frozen (p := ⟨w2.heap.size, 0, none⟩) (by simp)).trans (by simp [go_sem]); have yr1 : w3.frozen? ⟨w2.heap.size, 1, none⟩ = false := (hb3.frozen (p := ⟨w2.heap.size, 1, none⟩) (by simp)).trans (by simp [go_sem]); have yr2 : w3.frozen? ⟨w2.heap.size, 2, none⟩ = false := (hb3.frozen (p := ⟨w2.heap.size, 2, none⟩) (by simp)).trans (by simp [go_sem]); have yr3 : w3.frozen? ⟨w2.heap.size, 3, none⟩ = false := (hb3.frozen (p := ⟨w2.heap.size, 3, none⟩) (by simp)).trans (by simp [go_sem]))
           (try go_wp2_with fail)
           (refine hK.out _ _ ?_ (fun hHeld => ?_)
            · (try dsimp only); (refine ⟨?_, ?_, ?_, ?_, ?_, ?_⟩ <;> (exact ckA))
            clear hK K
            (try simp only [Act.put, stA, st0, st1])))
          (refine wpAnyH_take (i := 8) (v := ?_) rfl (by kernel_rfl) (by kernel_rfl) (by kernel_rfl) (fun _ _ _ h => h) (Or.inl ⟨by kernel_rfl, ?_⟩) (by assumption) ?_
           rotate_left
           · (intro w hSw; (try dsimp only at hSw); go_simp; (try with_reducible rfl))
           (try simp only [Act.put, stA, st0, st1]))
          (refine wpAnyH_take (i := 9) (v := ?_) rfl (by kernel_rfl) (by kernel_rfl) (by kernel_rfl) (fun _ _ _ h => h) (Or.inl ⟨by kernel_rfl, ?_⟩) (by assumption) ?_
           rotate_left
           · (intro w hSw; (try dsimp only at hSw); go_simp; (try with_reducible rfl))
           (try simp only [Act.put, stA, st0, st1]))
          (refine wpAnyH_take (i := 10) (v := ?_) rfl (by kernel_rfl) (by kernel_rfl) (by kernel_rfl) (fun _ _ _ h => h) (Or.inl ⟨by kernel_rfl, ?_⟩) (by assumption) ?_
           rotate_left
           · (intro w hSw; (try dsimp only at hSw); go_simp; (try with_reducible rfl))
           (try simp only [Act.put, stA, st0, st1]))
          (refine wpAnyH_ready (rs := [12]) (by kernel_rfl) (by simp) ?_)
          refine AllReadyH.cons rfl (fun K hK => ?_) AllReadyH.nil
          (go_simp
           (refine hK.out _ _ ?_ (fun hHeld => ?_)
            · (try dsimp only); (refine ⟨?_, ?_, ?_, ?_, ?_, ?_⟩ <;> (exact ckA))
            clear hK K
            (try simp only [Act.put, stA, st0, st1])))
          (refine wpAnyH_ready (rs := [13]) (by kernel_rfl) (by simp) ?_)
          refine AllReadyH.cons rfl (fun K hK => ?_) AllReadyH.nil
          (go_simp
           (refine hK.out _ _ ?_ (fun hHeld => ?_)
            · (try dsimp only); (refine ⟨?_, ?_, ?_, ?_, ?_, ?_⟩ <;> (exact ckA))
            clear hK K
            (try simp only [Act.put, stA, st0, st1])))
          refine wpAnyH_done (by kernel_rfl) ?_ _
          go_wp2_with fail
          go_meet
          exact ⟨_, r, er, D, E, cd, ce, rfl, rfl, hr, (by first | (simp [go_sem]; done) | (simp [go_sem, *]; done)), (by first | (simp [go_sem]; done) | (simp [go_sem, *]; done)), (by first | (simp [go_sem]; done) | (simp [go_sem, *]; done)), (by first | (simp [go_sem]; done) | (simp [go_sem, *]; done)), OR.mono (lo := w2.heap.size + 1) orA wnA, OR.mono (lo := w2.heap.size + 1) orA wnA, wnA, abA⟩
      · (go_simp
         (refine hK.out _ _ ?_ (fun hHeld => ?_)
          · (try dsimp only); (refine ⟨?_, ?_, ?_, ?_, ?_, ?_⟩ <;> (exact ckA))
          clear hK K
          (try simp only [Act.put, stA, st0, st1])))
        (refine wpAnyH_ready (rs := [6]) (by kernel_rfl) (by simp) ?_)
        refine AllReadyH.cons rfl (fun K hK => ?_) AllReadyH.nil
        (go_simp
         ((go_at_call 81)
          refine (bytes_any n C b cc _ HV.out (hb.ab abA) hcc).mono ?_
          rintro e w2 ⟨D0, c0, L, hL, rfl, o0, hb2⟩
          have hLl : L.length ≤ 1012 := by have h9 := congrArg List.length hL.out; rw [Frame.enc_length] at h9; simp only at h9; omega
          have z2 := hb2.size
          (try simp at z2))
         (try go_wp2_with fail)
         (refine hK.out _ _ ?_ (fun hHeld => ?_)
          · (try dsimp only); (refine ⟨?_, ?_, ?_, ?_, ?_, ?_⟩ <;> (exact ckA))
          clear hK K
          (try simp only [Act.put, stA, st0, st1])))
        (refine wpAnyH_ready (rs := [7]) (by kernel_rfl) (by simp) ?_)
        refine AllReadyH.cons rfl (fun K hK => ?_) AllReadyH.nil
        (go_simp
         ((go_at_call 80)
          refine (refAppend_any A B ca cb s t cap false _ (hs.ab abA) (ht.ab abA) hca hcb ls lt D0 c0 L (o0.rb.zero.ab abA) o0.le (by omega)).mono ?_
          rintro e w3 ⟨r, er, D, E, cd, ce, hr, rfl, o1, o2, hb3⟩
          have z3 := hb3.size
          (try simp at z3)
          have hr := Lib.hid (show (r, er) = Disk.append ⟨s, t, cap, false⟩ (Frame.enc ⟨n, b⟩) by rw [← hL.out]; exact hr.out)
          have o1 : OR 5 (w2.heap.size) w3 D cd r.s := OR.mono o1 wnA
          have o2 : OR 5 (w2.heap.size) w3 E ce r.t := OR.mono o2 wnA
          have hbb := hb2.trans hb3
          have yq0 := hbb.at (p := ⟨w1.heap.size, 0, none⟩) (v := .slice none 0 0) (by simp [go_sem]); have yq1 := hbb.at (p := ⟨w1.heap.size, 1, none⟩) (v := .slice none 0 0) (by simp [go_sem]); have yq2 := hbb.at (p := ⟨w1.heap.size, 2, none⟩) (v := .int .i64 0) (by simp [go_sem]); have yq3 := hbb.at (p := ⟨w1.heap.size, 3, none⟩) (v := .bool false) (by simp [go_sem])
          have yr0 : w3.frozen? ⟨w1.heap.size, 0, none⟩ = false := (hbb.frozen (p := ⟨w1.heap.size, 0, none⟩) (by simp)).trans (by simp [go_sem]); have yr1 : w3.frozen? ⟨w1.heap.size, 1, none⟩ = false := (hbb.frozen (p := ⟨w1.heap.size, 1, none⟩) (by simp)).trans (by simp [go_sem]); have yr2 : w3.frozen? ⟨w1.heap.size, 2, none⟩ = false := (hbb.frozen (p := ⟨w1.heap.size, 2, none⟩) (by simp)).trans (by simp [go_sem]); have yr3 : w3.frozen? ⟨w1.heap.size, 3, none⟩ = false := (hbb.frozen (p := ⟨w1.heap.size, 3, none⟩) (by simp)).trans (by simp [go_sem]))
         (try go_wp2_with fail)
         (refine hK.out _ _ ?_ (fun hHeld => ?_)
          · (try dsimp only); (refine ⟨?_, ?_, ?_, ?_, ?_, ?_⟩ <;> (exact ckA))
          clear hK K
          (try simp only [Act.put, stA, st0, st1])))
        (refine wpAnyH_take (i := 8) (v := ?_) rfl (by kernel_rfl) (by kernel_rfl) (by kernel_rfl) (fun _ _ _ h => h) (Or.inl ⟨by kernel_rfl, ?_⟩) (by assumption) ?_
         rotate_left
         · (intro w hSw; (try dsimp only at hSw); go_simp; (try with_reducible rfl))
         (try simp only [Act.put, stA, st0, st1]))
        (refine wpAnyH_take (i := 9) (v := ?_) rfl (by kernel_rfl) (by kernel_rfl) (by kernel_rfl) (fun _ _ _ h => h) (Or.inl ⟨by kernel_rfl, ?_⟩) (by assumption) ?_
         rotate_left
         · (intro w hSw; (try dsimp only at hSw); go_simp; (try with_reducible rfl))
         (try simp only [Act.put, stA, st0, st1]))
        (refine wpAnyH_take (i := 10) (v := ?_) rfl (by kernel_rfl) (by kernel_rfl) (by kernel_rfl) (fun _ _ _ h => h) (Or.inl ⟨by kernel_rfl, ?_⟩) (by assumption) ?_
         rotate_left
         · (intro w hSw; (try dsimp only at hSw); go_simp; (try with_reducible rfl))
         (try simp only [Act.put, stA, st0, st1]))
        (refine wpAnyH_ready (rs := [12]) (by kernel_rfl) (by simp) ?_)
        refine AllReadyH.cons rfl (fun K hK => ?_) AllReadyH.nil
        (go_simp
         (refine hK.out _ _ ?_ (fun hHeld => ?_)
          · (try dsimp only); (refine ⟨?_, ?_, ?_, ?_, ?_, ?_⟩ <;> (exact ckA))
          clear hK K
          (try simp only [Act.put, stA, st0, st1])))
        (refine wpAnyH_ready (rs := [13]) (by kernel_rfl) (by simp) ?_)
        refine AllReadyH.cons rfl (fun K hK => ?_) AllReadyH.nil
        (go_simp
         (refine hK.out _ _ ?_ (fun hHeld => ?_)
          · (try dsimp only); (refine ⟨?_, ?_, ?_, ?_, ?_, ?_⟩ <;> (exact ckA))
          clear hK K
          (try simp only [Act.put, stA, st0, st1])))
        refine wpAnyH_done (by kernel_rfl) ?_ _
        go_wp2_with fail
        go_meet
        exact ⟨_, r, er, D, E, cd, ce, rfl, rfl, hr, (by first | (simp [go_sem]; done) | (simp [go_sem, *]; done)), (by first | (simp [go_sem]; done) | (simp [go_sem, *]; done)), (by first | (simp [go_sem]; done) | (simp [go_sem, *]; done)), (by first | (simp [go_sem]; done) | (simp [go_sem, *]; done)), OR.mono (lo := w2.heap.size) orA wnA, OR.mono (lo := w2.heap.size) orA wnA, wnA, abA⟩
    obtain ⟨P, r, er, D, E, cd, ce, rfl, rfl, hr, x0, x1, x2, x3, o1, o2, hPw, hbc⟩ := hcut
    have zq0 := hbc.at (p := ⟨w.heap.size + 1, 0, none⟩) (v := .slice none 0 0) (by simp [go_sem]); have zq1 := hbc.at (p := ⟨w.heap.size + 1, 1, none⟩) (v := .slice none 0 0) (by simp [go_sem]); have zq2 := hbc.at (p := ⟨w.heap.size + 1, 2, none⟩) (v := .int .i64 0) (by simp [go_sem]); have zq3 := hbc.at (p := ⟨w.heap.size + 1, 3, none⟩) (v := .bool false) (by simp [go_sem]); have zq4 := hbc.at (p := ⟨w.heap.size + 1, 4, none⟩) (v := .int .i64 0) (by simp [go_sem]); have zq5 := hbc.at (p := ⟨w.heap.size + 1, 5, none⟩) (v := .int .i64 0) (by simp [go_sem])
    have zr0 : wc.frozen? ⟨w.heap.size + 1, 0, none⟩ = false := (hbc.frozen (p := ⟨w.heap.size + 1, 0, none⟩) (by simp)).trans (by simp [go_sem]); have zr1 : wc.frozen? ⟨w.heap.size + 1, 1, none⟩ = false := (hbc.frozen (p := ⟨w.heap.size + 1, 1, none⟩) (by simp)).trans (by simp [go_sem]); have zr2 : wc.frozen? ⟨w.heap.size + 1, 2, none⟩ = false := (hbc.frozen (p := ⟨w.heap.size + 1, 2, none⟩) (by simp)).trans (by simp [go_sem]); have zr3 : wc.frozen? ⟨w.heap.size + 1, 3, none⟩ = false := (hbc.frozen (p := ⟨w.heap.size + 1, 3, none⟩) (by simp)).trans (by simp [go_sem]); have zr4 : wc.frozen? ⟨w.heap.size + 1, 4, none⟩ = false := (hbc.frozen (p := ⟨w.heap.size + 1, 4, none⟩) (by simp)).trans (by simp [go_sem]); have zr5 : wc.frozen? ⟨w.heap.size + 1, 5, none⟩ = false := (hbc.frozen (p := ⟨w.heap.size + 1, 5, none⟩) (by simp)).trans (by simp [go_sem])
    obtain ⟨bq0, bq1, bq2, bq3, bq4, bq5⟩ := cells6 hbc (b := w.heap.size) (v0 := .slice A s.length ca) (v1 := .slice B t.length cb) (v2 := .int .i64 cap) (v3 := .bool false) (v4 := .int .i64 f) (v5 := .int .i64 n) (by first | (simp [go_sem]; done) | (refine ⟨?_, ?_, ?_, ?_, ?_, ?_⟩ <;> assumption))
    have HE := Lib.hid (show Wal.append ⟨⟨s, t, cap, false⟩, f, n⟩ b (some rs) = (if er ≠ 0 then (Wal.zero, 0, er) else (⟨r, f, n + 1⟩, n, 0)) by rw [HD.out, ← hr.out])
    by_cases he : er = 0
    · subst he
      have HM := Lib.hid (HE.out.trans (if_neg (by simp)))
      clear hr HE
      go_wp2_with fail
      go_region_held3 (fun w' => (w'.cell? ⟨P, 0, none⟩ = some (.slice D r.s.length cd) ∧ w'.cell? ⟨P, 1, none⟩ = some (.slice E r.t.length ce) ∧ w'.cell? ⟨P, 2, none⟩ = some (.int .i64 r.cap) ∧
          w'.cell? ⟨P, 3, none⟩ = some (.bool r.down)) ∧ w'.cell? ⟨w.heap.size, 4, none⟩ = some (.int .i64 f) ∧ w'.cell? ⟨w.heap.size, 5, none⟩ = some (.int .i64 n))
        ((refine ⟨⟨?_, ?_, ?_, ?_⟩, ?_, ?_⟩ <;> (first | (simp [go_sem, *]; done) | (exact ckA))))
        (fail)
      all_goals go_wp2
      all_goals refine bodyPost_ret (v := .tuple #[.agg #[.slice D (⟨r, f, n + 1⟩ : Wal.Log).dev.s.length cd, .slice E (⟨r, f, n + 1⟩ : Wal.Log).dev.t.length ce, .int .i64 (⟨r, f, n + 1⟩ : Wal.Log).dev.cap, .bool (⟨r, f, n + 1⟩ : Wal.Log).dev.down, .int .i64 (⟨r, f, n + 1⟩ : Wal.Log).first, .int .i64 (⟨r, f, n + 1⟩ : Wal.Log).next], .int .i64 n, .int .i64 0]) (by simp [results, Tryz.results47, go_sem, *]) rfl ?_
      all_goals exact ⟨⟨r, f, n + 1⟩, n, 0, D, E, cd, ce, Lib.hid (by rw [HM.out]), rfl, OR.mono (lo := w.heap.size + 1 + 1) orA wnA, OR.mono (lo := w.heap.size + 1 + 1) orA wnA, abA⟩
    · have HM := Lib.hid (HE.out.trans (if_pos he))
      have hne : (er != 0) = true := by simpa using he
      clear he hr HE
      go_wp2
      refine bodyPost_ret (v := .tuple #[.agg #[.slice none 0 0, .slice none 0 0, .int .i64 0, .bool false, .int .i64 0, .int .i64 0], .int .i64 0, .int .i64 er]) (by simp [results, Tryz.results47, go_sem, *]) rfl ?_
      exact RetLog3.zero HM.out.symm abA
end Go.Proofs.YthgcfjhnnhigoaaGreat

/- Open and Drop of the reference of layer 4, walked. Own work. -/
namespace Go.Proofs.YthgcfjhnnhigoaaGreat
open Go.RowKit

/-- How far the loop of the reference's Drop has come. -/
def DropRel (zb : World) (rs : List Frame.Rec) (j : Nat) (v8 v9 : Value) (wr : World) : Prop :=
  ∃ k : Nat, k ≤ j ∧ v9 = .int .i64 (k : Int) ∧ v8 = .int .i64 ((Frame.all (rs.take k)).length : Int) ∧ wr = zb

set_option maxHeartbeats 3200000 in
theorem refwdrop_any (A B : Option Addr) (ca cb : Nat) (s t : List UInt8) (cap : Int) (dn : Bool) (f n : Int) (w : World) (hs : RB w 0 A s) (ht : RB w 0 B t) (hca : s.length ≤ ca) (hcb : t.length ≤ cb) (ls : s.length ≤ 1000000) (lt : t.length ≤ 1000000) (g : Option (List Frame.Rec)) (hi : Wal.Is ⟨⟨s, t, cap, dn⟩, f, n⟩ g) (m : Int) :
    Calls Tryz.prog 57 #[.agg #[.slice A s.length ca, .slice B t.length cb, .int .i64 cap, .bool dn, .int .i64 f, .int .i64 n], .int .i64 m] w (RetLogE w (Wal.drop ⟨⟨s, t, cap, dn⟩, f, n⟩ m g)) := by
  cases g with
  | none =>
    go_enter Tryz.func57, Tryz.ntmps57
    go_wp2_with fail
    refine (refwcheck_any A B ca cb s t cap dn f n _ (hs.ab abA) (ht.ab abA) hca hcb ls lt none hi).mono ?_
    rintro e w1 ⟨r, hr, rfl, hw1⟩
    obtain rfl : r = 8 := hr.out
    clear hr
    have zq0 := hw1.at (p := ⟨w.heap.size + 1, 0, none⟩) (v := .slice none 0 0) (by simp [go_sem]); have zq1 := hw1.at (p := ⟨w.heap.size + 1, 1, none⟩) (v := .slice none 0 0) (by simp [go_sem]); have zq2 := hw1.at (p := ⟨w.heap.size + 1, 2, none⟩) (v := .int .i64 0) (by simp [go_sem]); have zq3 := hw1.at (p := ⟨w.heap.size + 1, 3, none⟩) (v := .bool false) (by simp [go_sem]); have zq4 := hw1.at (p := ⟨w.heap.size + 1, 4, none⟩) (v := .int .i64 0) (by simp [go_sem]); have zq5 := hw1.at (p := ⟨w.heap.size + 1, 5, none⟩) (v := .int .i64 0) (by simp [go_sem])
    have zr0 : w1.frozen? ⟨w.heap.size + 1, 0, none⟩ = false := (hw1.frozen (p := ⟨w.heap.size + 1, 0, none⟩) (by simp)).trans (by simp [go_sem]); have zr1 : w1.frozen? ⟨w.heap.size + 1, 1, none⟩ = false := (hw1.frozen (p := ⟨w.heap.size + 1, 1, none⟩) (by simp)).trans (by simp [go_sem]); have zr2 : w1.frozen? ⟨w.heap.size + 1, 2, none⟩ = false := (hw1.frozen (p := ⟨w.heap.size + 1, 2, none⟩) (by simp)).trans (by simp [go_sem]); have zr3 : w1.frozen? ⟨w.heap.size + 1, 3, none⟩ = false := (hw1.frozen (p := ⟨w.heap.size + 1, 3, none⟩) (by simp)).trans (by simp [go_sem]); have zr4 : w1.frozen? ⟨w.heap.size + 1, 4, none⟩ = false := (hw1.frozen (p := ⟨w.heap.size + 1, 4, none⟩) (by simp)).trans (by simp [go_sem]); have zr5 : w1.frozen? ⟨w.heap.size + 1, 5, none⟩ = false := (hw1.frozen (p := ⟨w.heap.size + 1, 5, none⟩) (by simp)).trans (by simp [go_sem])
    obtain ⟨bq0, bq1, bq2, bq3, bq4, bq5⟩ := cells6 hw1 (b := w.heap.size) (v0 := .slice A s.length ca) (v1 := .slice B t.length cb) (v2 := .int .i64 cap) (v3 := .bool dn) (v4 := .int .i64 f) (v5 := .int .i64 n) (by first | (simp [go_sem]; done) | (refine ⟨?_, ?_, ?_, ?_, ?_, ?_⟩ <;> assumption))
    go_wp2_with fail
    refine (refwcheck_any A B ca cb s t cap dn f n _ (hs.ab abA) (ht.ab abA) hca hcb ls lt none hi).mono ?_
    rintro e w2 ⟨r, hr, rfl, hw2⟩
    obtain rfl : r = 8 := hr.out
    clear hr
    have hz2 : Ab ((w.alloc (.cells #[.slice A s.length ca, .slice B t.length cb, .int .i64 cap, .bool dn, .int .i64 f, .int .i64 n] 29)).alloc (.cells #[.slice none 0 0, .slice none 0 0, .int .i64 0, .bool false, .int .i64 0, .int .i64 0] 29)) w2 := abA
    have zq0 := hz2.at (p := ⟨w.heap.size + 1, 0, none⟩) (v := .slice none 0 0) (by simp [go_sem]); have zq1 := hz2.at (p := ⟨w.heap.size + 1, 1, none⟩) (v := .slice none 0 0) (by simp [go_sem]); have zq2 := hz2.at (p := ⟨w.heap.size + 1, 2, none⟩) (v := .int .i64 0) (by simp [go_sem]); have zq3 := hz2.at (p := ⟨w.heap.size + 1, 3, none⟩) (v := .bool false) (by simp [go_sem]); have zq4 := hz2.at (p := ⟨w.heap.size + 1, 4, none⟩) (v := .int .i64 0) (by simp [go_sem]); have zq5 := hz2.at (p := ⟨w.heap.size + 1, 5, none⟩) (v := .int .i64 0) (by simp [go_sem])
    have zr0 : w2.frozen? ⟨w.heap.size + 1, 0, none⟩ = false := (hz2.frozen (p := ⟨w.heap.size + 1, 0, none⟩) (by simp)).trans (by simp [go_sem]); have zr1 : w2.frozen? ⟨w.heap.size + 1, 1, none⟩ = false := (hz2.frozen (p := ⟨w.heap.size + 1, 1, none⟩) (by simp)).trans (by simp [go_sem]); have zr2 : w2.frozen? ⟨w.heap.size + 1, 2, none⟩ = false := (hz2.frozen (p := ⟨w.heap.size + 1, 2, none⟩) (by simp)).trans (by simp [go_sem]); have zr3 : w2.frozen? ⟨w.heap.size + 1, 3, none⟩ = false := (hz2.frozen (p := ⟨w.heap.size + 1, 3, none⟩) (by simp)).trans (by simp [go_sem]); have zr4 : w2.frozen? ⟨w.heap.size + 1, 4, none⟩ = false := (hz2.frozen (p := ⟨w.heap.size + 1, 4, none⟩) (by simp)).trans (by simp [go_sem]); have zr5 : w2.frozen? ⟨w.heap.size + 1, 5, none⟩ = false := (hz2.frozen (p := ⟨w.heap.size + 1, 5, none⟩) (by simp)).trans (by simp [go_sem])
    go_wp2
    refine bodyPost_ret (v := .tuple #[.agg #[.slice none 0 0, .slice none 0 0, .int .i64 0, .bool false, .int .i64 0, .int .i64 0], .int .i64 8]) (by simp [results, Tryz.results57, go_sem, zq0, zq1, zq2, zq3, zq4, zq5]) rfl ?_
    exact RetLogE.zero rfl abA
  | some rs =>
    obtain rfl : dn = false := hi.isUp
    by_cases hm : m < f ∨ n < m
    · have HM := Lib.hid (show Wal.drop ⟨⟨s, t, cap, false⟩, f, n⟩ m (some rs) = (Wal.zero, 2) from if_pos hm)
      rcases hm with hm | hm
      all_goals
        go_enter Tryz.func57, Tryz.ntmps57
        go_wp2_with fail
        refine (refwcheck_any A B ca cb s t cap false f n _ (hs.ab abA) (ht.ab abA) hca hcb ls lt (some rs) hi).mono ?_
        rintro e w1 ⟨r, hr, rfl, hw1⟩
        obtain rfl : r = 0 := hr.out
        clear hr
        have z1 := hw1.size
        simp at z1
        obtain ⟨bq0, bq1, bq2, bq3, bq4, bq5⟩ := cells6 hw1 (b := w.heap.size) (v0 := .slice A s.length ca) (v1 := .slice B t.length cb) (v2 := .int .i64 cap) (v3 := .bool false) (v4 := .int .i64 f) (v5 := .int .i64 n) (by first | (simp [go_sem]; done) | (refine ⟨?_, ?_, ?_, ?_, ?_, ?_⟩ <;> assumption))
        have zq0 := hw1.at (p := ⟨w.heap.size + 1, 0, none⟩) (v := .slice none 0 0) (by simp [go_sem]); have zq1 := hw1.at (p := ⟨w.heap.size + 1, 1, none⟩) (v := .slice none 0 0) (by simp [go_sem]); have zq2 := hw1.at (p := ⟨w.heap.size + 1, 2, none⟩) (v := .int .i64 0) (by simp [go_sem]); have zq3 := hw1.at (p := ⟨w.heap.size + 1, 3, none⟩) (v := .bool false) (by simp [go_sem]); have zq4 := hw1.at (p := ⟨w.heap.size + 1, 4, none⟩) (v := .int .i64 0) (by simp [go_sem]); have zq5 := hw1.at (p := ⟨w.heap.size + 1, 5, none⟩) (v := .int .i64 0) (by simp [go_sem])
        have zr0 : w1.frozen? ⟨w.heap.size + 1, 0, none⟩ = false := (hw1.frozen (p := ⟨w.heap.size + 1, 0, none⟩) (by simp)).trans (by simp [go_sem]); have zr1 : w1.frozen? ⟨w.heap.size + 1, 1, none⟩ = false := (hw1.frozen (p := ⟨w.heap.size + 1, 1, none⟩) (by simp)).trans (by simp [go_sem]); have zr2 : w1.frozen? ⟨w.heap.size + 1, 2, none⟩ = false := (hw1.frozen (p := ⟨w.heap.size + 1, 2, none⟩) (by simp)).trans (by simp [go_sem]); have zr3 : w1.frozen? ⟨w.heap.size + 1, 3, none⟩ = false := (hw1.frozen (p := ⟨w.heap.size + 1, 3, none⟩) (by simp)).trans (by simp [go_sem]); have zr4 : w1.frozen? ⟨w.heap.size + 1, 4, none⟩ = false := (hw1.frozen (p := ⟨w.heap.size + 1, 4, none⟩) (by simp)).trans (by simp [go_sem]); have zr5 : w1.frozen? ⟨w.heap.size + 1, 5, none⟩ = false := (hw1.frozen (p := ⟨w.heap.size + 1, 5, none⟩) (by simp)).trans (by simp [go_sem])
        go_wp2
        all_goals first | (exfalso; omega) | skip
        all_goals refine bodyPost_ret (v := .tuple #[.agg #[.slice none 0 0, .slice none 0 0, .int .i64 0, .bool false, .int .i64 0, .int .i64 0], .int .i64 2]) (by simp [results, Tryz.results57, go_sem, zq0, zq1, zq2, zq3, zq4, zq5]) rfl ?_
        all_goals exact RetLogE.zero HM.out.symm abA
    have hrg := hi.rng
    simp only at hrg
    have hnl := hi.2.2.2.1
    simp only at hnl
    have h1 : ¬ m < f := by omega
    have h2 : ¬ n < m := by omega
    obtain ⟨kk, hkk⟩ : ∃ kk, Wal.cut rs s.length = kk := ⟨_, rfl⟩
    by_cases h3 : f + kk < m
    · have HM := Lib.hid (show Wal.drop ⟨⟨s, t, cap, false⟩, f, n⟩ m (some rs) = (Wal.zero, 32) from (if_neg hm).trans (if_pos (by rw [hkk]; exact h3)))
      have HK := Lib.hid hkk
      clear hm hkk hnl
      go_enter Tryz.func57, Tryz.ntmps57
      go_wp2_with fail
      refine (refwcheck_any A B ca cb s t cap false f n _ (hs.ab abA) (ht.ab abA) hca hcb ls lt (some rs) hi).mono ?_
      rintro e w1 ⟨r, hr, rfl, hw1⟩
      obtain rfl : r = 0 := hr.out
      clear hr
      have z1 := hw1.size
      simp at z1
      obtain ⟨bq0, bq1, bq2, bq3, bq4, bq5⟩ := cells6 hw1 (b := w.heap.size) (v0 := .slice A s.length ca) (v1 := .slice B t.length cb) (v2 := .int .i64 cap) (v3 := .bool false) (v4 := .int .i64 f) (v5 := .int .i64 n) (by first | (simp [go_sem]; done) | (refine ⟨?_, ?_, ?_, ?_, ?_, ?_⟩ <;> assumption))
      go_wp2_with fail
      refine (rsynced_any A B ca cb s t cap f n _ (hs.ab abA) (ht.ab abA) hca hcb rs hi).mono ?_
      rintro e w2 ⟨r2, hr2, rfl, hb2⟩
      obtain rfl : r2 = f + kk := by rw [hr2.out, HK.out]
      have hz2 : Ab ((w.alloc (.cells #[.slice A s.length ca, .slice B t.length cb, .int .i64 cap, .bool false, .int .i64 f, .int .i64 n] 29)).alloc (.cells #[.slice none 0 0, .slice none 0 0, .int .i64 0, .bool false, .int .i64 0, .int .i64 0] 29)) w2 := abA
      have zq0 := hz2.at (p := ⟨w.heap.size + 1, 0, none⟩) (v := .slice none 0 0) (by simp [go_sem]); have zq1 := hz2.at (p := ⟨w.heap.size + 1, 1, none⟩) (v := .slice none 0 0) (by simp [go_sem]); have zq2 := hz2.at (p := ⟨w.heap.size + 1, 2, none⟩) (v := .int .i64 0) (by simp [go_sem]); have zq3 := hz2.at (p := ⟨w.heap.size + 1, 3, none⟩) (v := .bool false) (by simp [go_sem]); have zq4 := hz2.at (p := ⟨w.heap.size + 1, 4, none⟩) (v := .int .i64 0) (by simp [go_sem]); have zq5 := hz2.at (p := ⟨w.heap.size + 1, 5, none⟩) (v := .int .i64 0) (by simp [go_sem])
      have zr0 : w2.frozen? ⟨w.heap.size + 1, 0, none⟩ = false := (hz2.frozen (p := ⟨w.heap.size + 1, 0, none⟩) (by simp)).trans (by simp [go_sem]); have zr1 : w2.frozen? ⟨w.heap.size + 1, 1, none⟩ = false := (hz2.frozen (p := ⟨w.heap.size + 1, 1, none⟩) (by simp)).trans (by simp [go_sem]); have zr2 : w2.frozen? ⟨w.heap.size + 1, 2, none⟩ = false := (hz2.frozen (p := ⟨w.heap.size + 1, 2, none⟩) (by simp)).trans (by simp [go_sem]); have zr3 : w2.frozen? ⟨w.heap.size + 1, 3, none⟩ = false := (hz2.frozen (p := ⟨w.heap.size + 1, 3, none⟩) (by simp)).trans (by simp [go_sem]); have zr4 : w2.frozen? ⟨w.heap.size + 1, 4, none⟩ = false := (hz2.frozen (p := ⟨w.heap.size + 1, 4, none⟩) (by simp)).trans (by simp [go_sem]); have zr5 : w2.frozen? ⟨w.heap.size + 1, 5, none⟩ = false := (hz2.frozen (p := ⟨w.heap.size + 1, 5, none⟩) (by simp)).trans (by simp [go_sem])
      clear hr2
      go_wp2
      refine bodyPost_ret (v := .tuple #[.agg #[.slice none 0 0, .slice none 0 0, .int .i64 0, .bool false, .int .i64 0, .int .i64 0], .int .i64 32]) (by simp [results, Tryz.results57, go_sem, *]) rfl ?_
      exact RetLogE.zero HM.out.symm abA
    · obtain ⟨j, hj⟩ : ∃ j : Nat, m - f = (j : Int) := ⟨(m - f).toNat, by omega⟩
      obtain ⟨v, hv⟩ : ∃ v, (Frame.all (rs.take j)).length = v := ⟨_, rfl⟩
      have hjk : j ≤ kk := by omega
      have hkr : kk ≤ rs.length := by rw [← hkk]; exact Wal.cut_le _ _
      have hvs : v ≤ s.length := by rw [← hv]; exact Nat.le_trans (Wal.take_mono rs (by rw [hkk]; exact hjk)) (Wal.cut_in rs s.length)
      have HDD := Lib.hid (show Disk.drop ⟨s, t, cap, false⟩ (v : Int) = (⟨s.drop v, t, cap, false⟩, 0) by
        unfold Disk.drop; rw [if_neg (by simpa using hi.1), if_neg (by simp only; omega)]; simp)
      have HM := Lib.hid (show Wal.drop ⟨⟨s, t, cap, false⟩, f, n⟩ m (some rs) = (⟨⟨s.drop v, t, cap, false⟩, m, n⟩, 0) by
        refine (if_neg hm).trans ((if_neg (by rw [hkk]; exact h3)).trans ?_)
        simp only [hj, Int.toNat_natCast, hv])
      have hrm := hi.room
      simp only [Disk.Dev.size] at hrm
      have hl20 : s.length + t.length ≤ 20000 := by omega
      have hsub : IntKind.i64.wrap (m - f) = (j : Int) := by rw [IntWalk.i64_in _ (by omega)]; exact hj
      have HK := Lib.hid hkk
      have HV := Lib.hid hv
      have HSC := Lib.hid hi.scan
      have hjr : j ≤ rs.length := by omega
      clear hm hkk hnl hv hrm
      go_enter Tryz.func57, Tryz.ntmps57
      go_wp2_with fail
      refine (refwcheck_any A B ca cb s t cap false f n _ (hs.ab abA) (ht.ab abA) hca hcb ls lt (some rs) hi).mono ?_
      rintro e w1 ⟨r, hr, rfl, hw1⟩
      obtain rfl : r = 0 := hr.out
      clear hr
      have z1 := hw1.size
      simp at z1
      obtain ⟨bq0, bq1, bq2, bq3, bq4, bq5⟩ := cells6 hw1 (b := w.heap.size) (v0 := .slice A s.length ca) (v1 := .slice B t.length cb) (v2 := .int .i64 cap) (v3 := .bool false) (v4 := .int .i64 f) (v5 := .int .i64 n) (by first | (simp [go_sem]; done) | (refine ⟨?_, ?_, ?_, ?_, ?_, ?_⟩ <;> assumption))
      go_wp2_with fail
      refine (rsynced_any A B ca cb s t cap f n _ (hs.ab abA) (ht.ab abA) hca hcb rs hi).mono ?_
      rintro e w2 ⟨r2, hr2, rfl, hb2⟩
      obtain rfl : r2 = f + kk := by rw [hr2.out, HK.out]
      clear hr2
      have hz2 : Ab ((w.alloc (.cells #[.slice A s.length ca, .slice B t.length cb, .int .i64 cap, .bool false, .int .i64 f, .int .i64 n] 29)).alloc (.cells #[.slice none 0 0, .slice none 0 0, .int .i64 0, .bool false, .int .i64 0, .int .i64 0] 29)) w2 := abA
      obtain ⟨bq0, bq1, bq2, bq3, bq4, bq5⟩ := cells6 hz2 (b := w.heap.size) (v0 := .slice A s.length ca) (v1 := .slice B t.length cb) (v2 := .int .i64 cap) (v3 := .bool false) (v4 := .int .i64 f) (v5 := .int .i64 n) (by first | (simp [go_sem]; done) | (refine ⟨?_, ?_, ?_, ?_, ?_, ?_⟩ <;> assumption))
      go_wp2_with fail
      refine (has_any A B ca cb s t cap false _ (hs.ab abA) (ht.ab abA) hca hcb hl20).mono ?_
      rintro e w3 ⟨X, d, xs, u', hS, rfl, hX, hd, hx, hb3⟩
      have HR := Lib.hid (Frame.scan_unique hS.out HSC.out).1
      clear hS
      have hz3 : Ab ((w.alloc (.cells #[.slice A s.length ca, .slice B t.length cb, .int .i64 cap, .bool false, .int .i64 f, .int .i64 n] 29)).alloc (.cells #[.slice none 0 0, .slice none 0 0, .int .i64 0, .bool false, .int .i64 0, .int .i64 0] 29)) w3 := abA
      have zq0 := hz3.at (p := ⟨w.heap.size + 1, 0, none⟩) (v := .slice none 0 0) (by simp [go_sem]); have zq1 := hz3.at (p := ⟨w.heap.size + 1, 1, none⟩) (v := .slice none 0 0) (by simp [go_sem]); have zq2 := hz3.at (p := ⟨w.heap.size + 1, 2, none⟩) (v := .int .i64 0) (by simp [go_sem]); have zq3 := hz3.at (p := ⟨w.heap.size + 1, 3, none⟩) (v := .bool false) (by simp [go_sem]); have zq4 := hz3.at (p := ⟨w.heap.size + 1, 4, none⟩) (v := .int .i64 0) (by simp [go_sem]); have zq5 := hz3.at (p := ⟨w.heap.size + 1, 5, none⟩) (v := .int .i64 0) (by simp [go_sem])
      have zr0 : w3.frozen? ⟨w.heap.size + 1, 0, none⟩ = false := (hz3.frozen (p := ⟨w.heap.size + 1, 0, none⟩) (by simp)).trans (by simp [go_sem]); have zr1 : w3.frozen? ⟨w.heap.size + 1, 1, none⟩ = false := (hz3.frozen (p := ⟨w.heap.size + 1, 1, none⟩) (by simp)).trans (by simp [go_sem]); have zr2 : w3.frozen? ⟨w.heap.size + 1, 2, none⟩ = false := (hz3.frozen (p := ⟨w.heap.size + 1, 2, none⟩) (by simp)).trans (by simp [go_sem]); have zr3 : w3.frozen? ⟨w.heap.size + 1, 3, none⟩ = false := (hz3.frozen (p := ⟨w.heap.size + 1, 3, none⟩) (by simp)).trans (by simp [go_sem]); have zr4 : w3.frozen? ⟨w.heap.size + 1, 4, none⟩ = false := (hz3.frozen (p := ⟨w.heap.size + 1, 4, none⟩) (by simp)).trans (by simp [go_sem]); have zr5 : w3.frozen? ⟨w.heap.size + 1, 5, none⟩ = false := (hz3.frozen (p := ⟨w.heap.size + 1, 5, none⟩) (by simp)).trans (by simp [go_sem])
      obtain ⟨bq0, bq1, bq2, bq3, bq4, bq5⟩ := cells6 hz3 (b := w.heap.size) (v0 := .slice A s.length ca) (v1 := .slice B t.length cb) (v2 := .int .i64 cap) (v3 := .bool false) (v4 := .int .i64 f) (v5 := .int .i64 n) (by first | (simp [go_sem]; done) | (refine ⟨?_, ?_, ?_, ?_, ?_, ?_⟩ <;> assumption))
      have hjx : j ≤ xs.length := by rw [← recs_length, HR.out]; exact hjr
      go_wp2_with fail
      go_loopw [8, 9] (fun v8 v9 wr => DropRel w3 rs j v8 v9 wr) (fun _ i _ => j - (intOf i).toNat)
      case atStart => exact ⟨0, Nat.zero_le _, rfl, rfl, rfl⟩
      case round =>
        obtain ⟨k, hk, rfl, rfl, rfl⟩ := hrel
        by_cases hlt : k < j
        · have hkx : k < xs.length := by omega
          obtain ⟨a, hXa, -, c0, c1, -⟩ := hX.at_ hkx
          have hstep := Wal.take_step rs k (by omega)
          have hle := Wal.take_mono rs (show k + 1 ≤ j from hlt)
          rw [HV.out] at hle
          have hlen : rs[k].data.length = xs[k].b.length := by
            have h9 := recs_get xs k hkx
            simp only [HR.out] at h9
            rw [h9]; rfl
          rw [hlen] at hstep
          have HST := Lib.hid hstep
          subst hXa
          generalize xs[k] = x at *
          obtain ⟨p, hp⟩ : ∃ p, (Frame.all (rs.take k)).length = p := ⟨_, rfl⟩
          rw [hp] at hstep
          have HP := Lib.hid hp
          have hpx : p + (12 + x.b.length) ≤ 20000 := by omega
          rw [hp]
          have hki : (k : Int) < (j : Int) := by omega
          have hk0 : (0 : Int) ≤ (k : Int) := by omega
          have hkx2 : (k : Int) < (xs.length : Int) := by omega
          clear hstep hle hlen hp
          go_wp2
          go_roundw
          case rel => exact ⟨k + 1, by omega, by go_num, by rw [HST.out, HP.out]; go_num, rfl⟩
          case measure => simp [intOf]; omega
        · obtain rfl : k = j := by omega
          rw [HV.out]
          go_wp2_with fail
          refine (refDrop_any A B ca cb s t cap false _ (hs.ab abA) (ht.ab abA) hca hcb ls lt (v : Int)).mono ?_
          rintro e w4 ⟨r, er, D, E, cd, ce, hr, rfl, o1, o2, hb4⟩
          have hr1 := Lib.hid (Prod.mk.inj (hr.out.trans HDD.out)).1
          obtain rfl : er = 0 := (Prod.mk.inj (hr.out.trans HDD.out)).2
          clear hr
          have hz4 : Ab ((w.alloc (.cells #[.slice A s.length ca, .slice B t.length cb, .int .i64 cap, .bool false, .int .i64 f, .int .i64 n] 29)).alloc (.cells #[.slice none 0 0, .slice none 0 0, .int .i64 0, .bool false, .int .i64 0, .int .i64 0] 29)) w4 := abA
          have zq0 := hz4.at (p := ⟨w.heap.size + 1, 0, none⟩) (v := .slice none 0 0) (by simp [go_sem]); have zq1 := hz4.at (p := ⟨w.heap.size + 1, 1, none⟩) (v := .slice none 0 0) (by simp [go_sem]); have zq2 := hz4.at (p := ⟨w.heap.size + 1, 2, none⟩) (v := .int .i64 0) (by simp [go_sem]); have zq3 := hz4.at (p := ⟨w.heap.size + 1, 3, none⟩) (v := .bool false) (by simp [go_sem]); have zq4 := hz4.at (p := ⟨w.heap.size + 1, 4, none⟩) (v := .int .i64 0) (by simp [go_sem]); have zq5 := hz4.at (p := ⟨w.heap.size + 1, 5, none⟩) (v := .int .i64 0) (by simp [go_sem])
          have zr0 : w4.frozen? ⟨w.heap.size + 1, 0, none⟩ = false := (hz4.frozen (p := ⟨w.heap.size + 1, 0, none⟩) (by simp)).trans (by simp [go_sem]); have zr1 : w4.frozen? ⟨w.heap.size + 1, 1, none⟩ = false := (hz4.frozen (p := ⟨w.heap.size + 1, 1, none⟩) (by simp)).trans (by simp [go_sem]); have zr2 : w4.frozen? ⟨w.heap.size + 1, 2, none⟩ = false := (hz4.frozen (p := ⟨w.heap.size + 1, 2, none⟩) (by simp)).trans (by simp [go_sem]); have zr3 : w4.frozen? ⟨w.heap.size + 1, 3, none⟩ = false := (hz4.frozen (p := ⟨w.heap.size + 1, 3, none⟩) (by simp)).trans (by simp [go_sem]); have zr4 : w4.frozen? ⟨w.heap.size + 1, 4, none⟩ = false := (hz4.frozen (p := ⟨w.heap.size + 1, 4, none⟩) (by simp)).trans (by simp [go_sem]); have zr5 : w4.frozen? ⟨w.heap.size + 1, 5, none⟩ = false := (hz4.frozen (p := ⟨w.heap.size + 1, 5, none⟩) (by simp)).trans (by simp [go_sem])
          obtain ⟨bq0, bq1, bq2, bq3, bq4, bq5⟩ := cells6 hz4 (b := w.heap.size) (v0 := .slice A s.length ca) (v1 := .slice B t.length cb) (v2 := .int .i64 cap) (v3 := .bool false) (v4 := .int .i64 f) (v5 := .int .i64 n) (by first | (simp [go_sem]; done) | (refine ⟨?_, ?_, ?_, ?_, ?_, ?_⟩ <;> assumption))
          have z3 := hz3.size
          simp at z3
          have z4 := hz4.size
          simp at z4
          have nw4a := fun (o : Obj) (j : Nat) => World.cell?_alloc_lt w4 o ⟨w.heap.size, j, none⟩ (by simp; omega)
          have nw4c := fun (o : Obj) (j : Nat) => World.cell?_alloc_lt w4 o ⟨w.heap.size + 1, j, none⟩ (by simp; omega)
          have nw4b := fun (o : Obj) (j : Nat) => ((Ab.refl w4).alloc o).frozen (p := ⟨w.heap.size, j, none⟩) (by simp; omega)
          have nw4d := fun (o : Obj) (j : Nat) => ((Ab.refl w4).alloc o).frozen (p := ⟨w.heap.size + 1, j, none⟩) (by simp; omega)
          go_wp2
          refine bodyPost_ret (v := .tuple #[.agg #[.slice D (⟨r, m, n⟩ : Wal.Log).dev.s.length cd, .slice E (⟨r, m, n⟩ : Wal.Log).dev.t.length ce, .int .i64 (⟨r, m, n⟩ : Wal.Log).dev.cap, .bool (⟨r, m, n⟩ : Wal.Log).dev.down, .int .i64 (⟨r, m, n⟩ : Wal.Log).first, .int .i64 (⟨r, m, n⟩ : Wal.Log).next], .int .i64 0]) (by simp [results, Tryz.results57, go_sem, *]) rfl ?_
          exact ⟨⟨r, m, n⟩, 0, D, E, cd, ce, Lib.hid (by rw [hr1.out, HM.out]), rfl, OR.mono (lo := wr.heap.size) orA wnA, OR.mono (lo := wr.heap.size) orA wnA, abA⟩
end Go.Proofs.YthgcfjhnnhigoaaGreat
