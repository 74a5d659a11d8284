/- The texts WRefA, WRefB, WRefC, WRefD, one behind the other. Own work. -/
import Derived.Test.YthgcfjhnnhigoaaGreatGW
import Derived.Test.YthgcfjhnnhigoaaGreatGF
import Derived.Test.YthgcfjhnnhigoaaGreatGC
set_option linter.unusedVariables false
set_option linter.unusedSimpArgs false
/- Has, Check, synced and Synced of the reference of layer 4, walked. Own work. -/
namespace Go.Proofs.YthgcfjhnnhigoaaGreat
open Go.RowKit

/-- It returns the records of b, and how many bytes they have. -/
def HasP (b : List UInt8) (w : World) (e : Ending) (w' : World) : Prop :=
  ∃ (X : Option Addr) (d : Nat) (xs : List RecM) (u : Nat), Hid (Frame.IsScan b (recs xs) u) ∧ e = .returned (.tuple #[.slice X xs.length d, .int .i64 (u : Int)]) ∧ Recs w' w.heap.size X xs ∧ xs.length ≤ d ∧ xs.length ≤ 20000 ∧ Ab w w'
theorem OwnRecs.le {lo : Nat} {w : World} {A : Option Addr} {c : Nat} {xs : List RecM} (h : OwnRecs lo w A c xs) : xs.length ≤ c := by
  have h1 := h.1
  unfold OV at h1
  rcases h1.2 with ⟨hv, h0⟩ | ⟨g, cap, cur, hv, _, _, hn, _⟩
  · injection hv; omega
  · injection hv; omega
theorem has_any (A B : Option Addr) (ca cb : Nat) (s t : List UInt8) (cap : Int) (dn : Bool) (w : World) (hs : RB w 0 A s) (ht : RB w 0 B t) (hca : s.length ≤ ca) (hcb : t.length ≤ cb) (hl : s.length + t.length ≤ 20000) :
    Calls Tryz.prog 92 #[.agg #[.slice A s.length ca, .slice B t.length cb, .int .i64 cap, .bool dn]] w (HasP (s ++ t) w) := by
  go_enter Tryz.func92, Tryz.ntmps92
  go_wp2_with fail
  refine (whole_any A B ca cb s t cap dn _ (hs.ab abA) (ht.ab abA) hca hcb (by omega) (by omega)).mono ?_
  rintro e w1 ⟨L, D, c, hL, rfl, o1, hb1⟩
  have hLl : L.length ≤ 20000 := by rw [hL.out, List.length_append]; omega
  go_wp2_with fail
  refine (found_any D L c _ (o1.rb.zero.ab abA) o1.le hLl).mono ?_
  rintro e w2 ⟨X, d, xs, u, hS, rfl, ho, hb2⟩
  have hc := Wal.scan_count hS.out (recs_length xs) hLl
  have z1 := hb1.size
  simp at z1
  go_wp2
  go_ret2
  exact ⟨X, d, xs, u, Lib.hid (by rw [← hL.out]; exact hS.out), rfl, ((ho.recs.mono (by omega)).ab abA), ho.le, hc, abA⟩

theorem refc_down (A B : Option Addr) (ca cb : Nat) (s t : List UInt8) (cap : Int) (dn : Bool) (f n : Int) (w : World) (ls : s.length ≤ 1000000) (lt : t.length ≤ 1000000) (hu : Disk.up ⟨s, t, cap, dn⟩ ≠ 0) :
    Calls Tryz.prog 60 #[.agg #[.slice A s.length ca, .slice B t.length cb, .int .i64 cap, .bool dn, .int .i64 f, .int .i64 n]] w (RetInt w 8) := by
  generalize hv : Disk.up ⟨s, t, cap, dn⟩ = u at hu
  have HV := Lib.hid hv
  have hne : (u != 0) = true := by simpa using hu
  clear hu hv
  go_enter Tryz.func60, Tryz.ntmps60
  go_wp2_with fail
  refine (refUp_any A B ca cb s t cap dn _ ls lt).mono ?_
  rintro e w1 ⟨r, hr, rfl, hb1⟩
  obtain rfl : r = u := hr.out.trans HV.out
  go_wp2
  go_ret
  exact RetInt.mk rfl abA

set_option maxHeartbeats 1600000 in
theorem refc_some (A B : Option Addr) (ca cb : Nat) (s t : List UInt8) (cap f n : Int) (w : World) (hs : RB w 0 A s) (ht : RB w 0 B t) (hca : s.length ≤ ca) (hcb : t.length ≤ cb) (hu : Disk.up ⟨s, t, cap, false⟩ = 0) (rs : List Frame.Rec) (u : Nat) (hsc : Frame.IsScan (s ++ t) rs u) (m : Int)
    (hm : m = if u = s.length + t.length ∧ fitsB rs f n = true then 0 else 8) :
    Calls Tryz.prog 60 #[.agg #[.slice A s.length ca, .slice B t.length cb, .int .i64 cap, .bool false, .int .i64 f, .int .i64 n]] w (RetInt w m) := by
  have hnb := (Disk.up_zero hu).1
  have hsz := Disk.size_le hnb
  simp only [Disk.Dev.size] at hsz
  have hle := Frame.scan_le hsc
  rw [List.length_append] at hle
  have hl : s.length + t.length ≤ 20000 := by omega
  have ls : s.length ≤ 20000 := by omega
  have lt : t.length ≤ 20000 := by omega
  have HU := Lib.hid hu
  have HSC := Lib.hid hsc
  clear hnb hsz hu hsc
  by_cases huN : u = s.length + t.length
  · have HN := Lib.hid huN
    clear huN
    by_cases hr0 : rs.length = 0
    · have hrs : rs = [] := List.eq_nil_of_length_eq_zero hr0
      subst hrs
      by_cases h1 : f = n
      · have hfn : (f != n) = false := by simp [h1]
        by_cases h2 : 0 ≤ f
        · by_cases h3 : f ≤ 1000000001
          · obtain rfl : m = 0 := by rw [hm]; exact if_pos ⟨HN.out, fitsB_true.2 (fits_nil.2 ⟨h1, h2, h3⟩)⟩
            clear hm hr0 h1
            have h4 : ¬ 1000000001 < f := by omega
            go_enter Tryz.func60, Tryz.ntmps60
            go_wp2_with fail
            refine (refUp_any A B ca cb s t cap false _ (by omega) (by omega)).mono ?_
            rintro e w1 ⟨r, hr, rfl, hb1⟩
            obtain rfl : r = 0 := hr.out.trans HU.out
            obtain ⟨bq0, bq1, bq2, bq3, bq4, bq5⟩ := cells6 hb1 (b := w.heap.size) (v0 := .slice A s.length ca) (v1 := .slice B t.length cb) (v2 := .int .i64 cap) (v3 := .bool false) (v4 := .int .i64 f) (v5 := .int .i64 n) (by first | (simp [go_sem]; done) | (refine ⟨?_, ?_, ?_, ?_, ?_, ?_⟩ <;> assumption))
            go_wp2_with fail
            refine (has_any A B ca cb s t cap false _ (hs.ab abA) (ht.ab abA) hca hcb hl).mono ?_
            rintro e w2 ⟨X, d, xs, u', hS, rfl, hX, hd, hx, hb2⟩
            obtain ⟨h1, h2⟩ := Frame.scan_unique HSC.out hS.out
            subst h2
            have HR := Lib.hid h1
            clear h1 hS hr
            have hz2 : Ab (w.alloc (.cells #[.slice A s.length ca, .slice B t.length cb, .int .i64 cap, .bool false, .int .i64 f, .int .i64 n] 29)) w2 := abA
            obtain ⟨bq0, bq1, bq2, bq3, bq4, bq5⟩ := cells6 hz2 (b := w.heap.size) (v0 := .slice A s.length ca) (v1 := .slice B t.length cb) (v2 := .int .i64 cap) (v3 := .bool false) (v4 := .int .i64 f) (v5 := .int .i64 n) (by first | (simp [go_sem]; done) | (refine ⟨?_, ?_, ?_, ?_, ?_, ?_⟩ <;> assumption))
            go_wp2_with fail
            refine (whole_any A B ca cb s t cap false _ (hs.ab abA) (ht.ab abA) hca hcb (by omega) (by omega)).mono ?_
            rintro e w3 ⟨L, D, c, hL, rfl, o1, hb3⟩
            have hq : ((u : Int) != (L.length : Int)) = false := by have := HN.out; rw [hL.out, List.length_append]; simp; omega
            obtain rfl : xs = [] := by have := HR.out; exact List.eq_nil_of_length_eq_zero (by rw [← recs_length, ← this]; rfl)
            have hz3 : Ab (w.alloc (.cells #[.slice A s.length ca, .slice B t.length cb, .int .i64 cap, .bool false, .int .i64 f, .int .i64 n] 29)) w3 := abA
            obtain ⟨bq0, bq1, bq2, bq3, bq4, bq5⟩ := cells6 hz3 (b := w.heap.size) (v0 := .slice A s.length ca) (v1 := .slice B t.length cb) (v2 := .int .i64 cap) (v3 := .bool false) (v4 := .int .i64 f) (v5 := .int .i64 n) (by first | (simp [go_sem]; done) | (refine ⟨?_, ?_, ?_, ?_, ?_, ?_⟩ <;> assumption))
            go_wp2
            go_ret
            exact RetInt.mk rfl abA
          · obtain rfl : m = 8 := by rw [hm]; exact if_neg (fun h => h3 (fits_nil.1 (fitsB_true.1 h.2)).2.2)
            clear hm hr0 h1
            have h4 : 1000000001 < f := by omega
            go_enter Tryz.func60, Tryz.ntmps60
            go_wp2_with fail
            refine (refUp_any A B ca cb s t cap false _ (by omega) (by omega)).mono ?_
            rintro e w1 ⟨r, hr, rfl, hb1⟩
            obtain rfl : r = 0 := hr.out.trans HU.out
            obtain ⟨bq0, bq1, bq2, bq3, bq4, bq5⟩ := cells6 hb1 (b := w.heap.size) (v0 := .slice A s.length ca) (v1 := .slice B t.length cb) (v2 := .int .i64 cap) (v3 := .bool false) (v4 := .int .i64 f) (v5 := .int .i64 n) (by first | (simp [go_sem]; done) | (refine ⟨?_, ?_, ?_, ?_, ?_, ?_⟩ <;> assumption))
            go_wp2_with fail
            refine (has_any A B ca cb s t cap false _ (hs.ab abA) (ht.ab abA) hca hcb hl).mono ?_
            rintro e w2 ⟨X, d, xs, u', hS, rfl, hX, hd, hx, hb2⟩
            obtain ⟨h1, h2⟩ := Frame.scan_unique HSC.out hS.out
            subst h2
            have HR := Lib.hid h1
            clear h1 hS hr
            have hz2 : Ab (w.alloc (.cells #[.slice A s.length ca, .slice B t.length cb, .int .i64 cap, .bool false, .int .i64 f, .int .i64 n] 29)) w2 := abA
            obtain ⟨bq0, bq1, bq2, bq3, bq4, bq5⟩ := cells6 hz2 (b := w.heap.size) (v0 := .slice A s.length ca) (v1 := .slice B t.length cb) (v2 := .int .i64 cap) (v3 := .bool false) (v4 := .int .i64 f) (v5 := .int .i64 n) (by first | (simp [go_sem]; done) | (refine ⟨?_, ?_, ?_, ?_, ?_, ?_⟩ <;> assumption))
            go_wp2_with fail
            refine (whole_any A B ca cb s t cap false _ (hs.ab abA) (ht.ab abA) hca hcb (by omega) (by omega)).mono ?_
            rintro e w3 ⟨L, D, c, hL, rfl, o1, hb3⟩
            have hq : ((u : Int) != (L.length : Int)) = false := by have := HN.out; rw [hL.out, List.length_append]; simp; omega
            obtain rfl : xs = [] := by have := HR.out; exact List.eq_nil_of_length_eq_zero (by rw [← recs_length, ← this]; rfl)
            have hz3 : Ab (w.alloc (.cells #[.slice A s.length ca, .slice B t.length cb, .int .i64 cap, .bool false, .int .i64 f, .int .i64 n] 29)) w3 := abA
            obtain ⟨bq0, bq1, bq2, bq3, bq4, bq5⟩ := cells6 hz3 (b := w.heap.size) (v0 := .slice A s.length ca) (v1 := .slice B t.length cb) (v2 := .int .i64 cap) (v3 := .bool false) (v4 := .int .i64 f) (v5 := .int .i64 n) (by first | (simp [go_sem]; done) | (refine ⟨?_, ?_, ?_, ?_, ?_, ?_⟩ <;> assumption))
            go_wp2
            go_ret
            exact RetInt.mk rfl abA
        · obtain rfl : m = 8 := by rw [hm]; exact if_neg (fun h => h2 (fits_nil.1 (fitsB_true.1 h.2)).2.1)
          clear hm hr0 h1
          have h4 : f < 0 := by omega
          go_enter Tryz.func60, Tryz.ntmps60
          go_wp2_with fail
          refine (refUp_any A B ca cb s t cap false _ (by omega) (by omega)).mono ?_
          rintro e w1 ⟨r, hr, rfl, hb1⟩
          obtain rfl : r = 0 := hr.out.trans HU.out
          obtain ⟨bq0, bq1, bq2, bq3, bq4, bq5⟩ := cells6 hb1 (b := w.heap.size) (v0 := .slice A s.length ca) (v1 := .slice B t.length cb) (v2 := .int .i64 cap) (v3 := .bool false) (v4 := .int .i64 f) (v5 := .int .i64 n) (by first | (simp [go_sem]; done) | (refine ⟨?_, ?_, ?_, ?_, ?_, ?_⟩ <;> assumption))
          go_wp2_with fail
          refine (has_any A B ca cb s t cap false _ (hs.ab abA) (ht.ab abA) hca hcb hl).mono ?_
          rintro e w2 ⟨X, d, xs, u', hS, rfl, hX, hd, hx, hb2⟩
          obtain ⟨h1, h2⟩ := Frame.scan_unique HSC.out hS.out
          subst h2
          have HR := Lib.hid h1
          clear h1 hS hr
          have hz2 : Ab (w.alloc (.cells #[.slice A s.length ca, .slice B t.length cb, .int .i64 cap, .bool false, .int .i64 f, .int .i64 n] 29)) w2 := abA
          obtain ⟨bq0, bq1, bq2, bq3, bq4, bq5⟩ := cells6 hz2 (b := w.heap.size) (v0 := .slice A s.length ca) (v1 := .slice B t.length cb) (v2 := .int .i64 cap) (v3 := .bool false) (v4 := .int .i64 f) (v5 := .int .i64 n) (by first | (simp [go_sem]; done) | (refine ⟨?_, ?_, ?_, ?_, ?_, ?_⟩ <;> assumption))
          go_wp2_with fail
          refine (whole_any A B ca cb s t cap false _ (hs.ab abA) (ht.ab abA) hca hcb (by omega) (by omega)).mono ?_
          rintro e w3 ⟨L, D, c, hL, rfl, o1, hb3⟩
          have hq : ((u : Int) != (L.length : Int)) = false := by have := HN.out; rw [hL.out, List.length_append]; simp; omega
          obtain rfl : xs = [] := by have := HR.out; exact List.eq_nil_of_length_eq_zero (by rw [← recs_length, ← this]; rfl)
          have hz3 : Ab (w.alloc (.cells #[.slice A s.length ca, .slice B t.length cb, .int .i64 cap, .bool false, .int .i64 f, .int .i64 n] 29)) w3 := abA
          obtain ⟨bq0, bq1, bq2, bq3, bq4, bq5⟩ := cells6 hz3 (b := w.heap.size) (v0 := .slice A s.length ca) (v1 := .slice B t.length cb) (v2 := .int .i64 cap) (v3 := .bool false) (v4 := .int .i64 f) (v5 := .int .i64 n) (by first | (simp [go_sem]; done) | (refine ⟨?_, ?_, ?_, ?_, ?_, ?_⟩ <;> assumption))
          go_wp2
          go_ret
          exact RetInt.mk rfl abA
      · obtain rfl : m = 8 := by rw [hm]; exact if_neg (fun h => h1 (fits_nil.1 (fitsB_true.1 h.2)).1)
        have hfn : (f != n) = true := by simpa using h1
        clear hm hr0 h1
        go_enter Tryz.func60, Tryz.ntmps60
        go_wp2_with fail
        refine (refUp_any A B ca cb s t cap false _ (by omega) (by omega)).mono ?_
        rintro e w1 ⟨r, hr, rfl, hb1⟩
        obtain rfl : r = 0 := hr.out.trans HU.out
        obtain ⟨bq0, bq1, bq2, bq3, bq4, bq5⟩ := cells6 hb1 (b := w.heap.size) (v0 := .slice A s.length ca) (v1 := .slice B t.length cb) (v2 := .int .i64 cap) (v3 := .bool false) (v4 := .int .i64 f) (v5 := .int .i64 n) (by first | (simp [go_sem]; done) | (refine ⟨?_, ?_, ?_, ?_, ?_, ?_⟩ <;> assumption))
        go_wp2_with fail
        refine (has_any A B ca cb s t cap false _ (hs.ab abA) (ht.ab abA) hca hcb hl).mono ?_
        rintro e w2 ⟨X, d, xs, u', hS, rfl, hX, hd, hx, hb2⟩
        obtain ⟨h1, h2⟩ := Frame.scan_unique HSC.out hS.out
        subst h2
        have HR := Lib.hid h1
        clear h1 hS hr
        have hz2 : Ab (w.alloc (.cells #[.slice A s.length ca, .slice B t.length cb, .int .i64 cap, .bool false, .int .i64 f, .int .i64 n] 29)) w2 := abA
        obtain ⟨bq0, bq1, bq2, bq3, bq4, bq5⟩ := cells6 hz2 (b := w.heap.size) (v0 := .slice A s.length ca) (v1 := .slice B t.length cb) (v2 := .int .i64 cap) (v3 := .bool false) (v4 := .int .i64 f) (v5 := .int .i64 n) (by first | (simp [go_sem]; done) | (refine ⟨?_, ?_, ?_, ?_, ?_, ?_⟩ <;> assumption))
        go_wp2_with fail
        refine (whole_any A B ca cb s t cap false _ (hs.ab abA) (ht.ab abA) hca hcb (by omega) (by omega)).mono ?_
        rintro e w3 ⟨L, D, c, hL, rfl, o1, hb3⟩
        have hq : ((u : Int) != (L.length : Int)) = false := by have := HN.out; rw [hL.out, List.length_append]; simp; omega
        obtain rfl : xs = [] := by have := HR.out; exact List.eq_nil_of_length_eq_zero (by rw [← recs_length, ← this]; rfl)
        have hz3 : Ab (w.alloc (.cells #[.slice A s.length ca, .slice B t.length cb, .int .i64 cap, .bool false, .int .i64 f, .int .i64 n] 29)) w3 := abA
        obtain ⟨bq0, bq1, bq2, bq3, bq4, bq5⟩ := cells6 hz3 (b := w.heap.size) (v0 := .slice A s.length ca) (v1 := .slice B t.length cb) (v2 := .int .i64 cap) (v3 := .bool false) (v4 := .int .i64 f) (v5 := .int .i64 n) (by first | (simp [go_sem]; done) | (refine ⟨?_, ?_, ?_, ?_, ?_, ?_⟩ <;> assumption))
        go_wp2
        go_ret
        exact RetInt.mk rfl abA
    · have hF := HSC.out.1
      have hfs := fits_some (f := f) (n := n) hF (by omega)
      have hrg := Wal.base_rng hF (by omega)
      obtain ⟨bs, hbs⟩ : ∃ bs, Wal.base rs = bs := ⟨_, rfl⟩
      obtain ⟨k, hk⟩ : ∃ k, rs.length = k + 1 := ⟨rs.length - 1, by omega⟩
      rw [hbs, hk] at hfs hrg
      have HBS := Lib.hid hbs
      have HK := Lib.hid hk
      have hsum : IntKind.i64.wrap (bs + (k : Int) + 1) = bs + (k : Int) + 1 := IntWalk.i64_in _ (by omega)
      by_cases h1 : f = bs
      · have hq1 : (f != bs) = false := by simp [h1]
        by_cases h2 : n = bs + k + 1
        · have hq2 : (n != bs + (k : Int) + 1) = false := by simp [h2]
          obtain rfl : m = 0 := by rw [hm]; exact if_pos ⟨HN.out, fitsB_true.2 (hfs.2 ⟨h1, by omega⟩)⟩
          clear hm hr0 h1 h2 hfs hbs hk hF
          go_enter Tryz.func60, Tryz.ntmps60
          go_wp2_with fail
          refine (refUp_any A B ca cb s t cap false _ (by omega) (by omega)).mono ?_
          rintro e w1 ⟨r, hr, rfl, hb1⟩
          obtain rfl : r = 0 := hr.out.trans HU.out
          obtain ⟨bq0, bq1, bq2, bq3, bq4, bq5⟩ := cells6 hb1 (b := w.heap.size) (v0 := .slice A s.length ca) (v1 := .slice B t.length cb) (v2 := .int .i64 cap) (v3 := .bool false) (v4 := .int .i64 f) (v5 := .int .i64 n) (by first | (simp [go_sem]; done) | (refine ⟨?_, ?_, ?_, ?_, ?_, ?_⟩ <;> assumption))
          go_wp2_with fail
          refine (has_any A B ca cb s t cap false _ (hs.ab abA) (ht.ab abA) hca hcb hl).mono ?_
          rintro e w2 ⟨X, d, xs, u', hS, rfl, hX, hd, hx, hb2⟩
          obtain ⟨h1, h2⟩ := Frame.scan_unique HSC.out hS.out
          subst h2
          have HR := Lib.hid h1
          clear h1 hS hr
          have hz2 : Ab (w.alloc (.cells #[.slice A s.length ca, .slice B t.length cb, .int .i64 cap, .bool false, .int .i64 f, .int .i64 n] 29)) w2 := abA
          obtain ⟨bq0, bq1, bq2, bq3, bq4, bq5⟩ := cells6 hz2 (b := w.heap.size) (v0 := .slice A s.length ca) (v1 := .slice B t.length cb) (v2 := .int .i64 cap) (v3 := .bool false) (v4 := .int .i64 f) (v5 := .int .i64 n) (by first | (simp [go_sem]; done) | (refine ⟨?_, ?_, ?_, ?_, ?_, ?_⟩ <;> assumption))
          go_wp2_with fail
          refine (whole_any A B ca cb s t cap false _ (hs.ab abA) (ht.ab abA) hca hcb (by omega) (by omega)).mono ?_
          rintro e w3 ⟨L, D, c, hL, rfl, o1, hb3⟩
          have hq : ((u : Int) != (L.length : Int)) = false := by have := HN.out; rw [hL.out, List.length_append]; simp; omega
          have hz3 : Ab (w.alloc (.cells #[.slice A s.length ca, .slice B t.length cb, .int .i64 cap, .bool false, .int .i64 f, .int .i64 n] 29)) w3 := abA
          obtain ⟨bq0, bq1, bq2, bq3, bq4, bq5⟩ := cells6 hz3 (b := w.heap.size) (v0 := .slice A s.length ca) (v1 := .slice B t.length cb) (v2 := .int .i64 cap) (v3 := .bool false) (v4 := .int .i64 f) (v5 := .int .i64 n) (by first | (simp [go_sem]; done) | (refine ⟨?_, ?_, ?_, ?_, ?_, ?_⟩ <;> assumption))
          have hxl : xs.length = k + 1 := by rw [← recs_length, ← HR.out]; exact HK.out
          have hX3 := hX.ab hb3
          obtain ⟨a, hXa, -, c0, -⟩ := hX3.at_ (k := 0) (by omega)
          obtain ⟨a', hXa', -, c1, -⟩ := hX3.at_ (k := k) (by omega)
          rw [hXa] at hXa'
          obtain rfl := Option.some.inj hXa'
          have e0 : xs[0].num = bs := by
            have h8 := Wal.num_at HSC.out.1 0 (by have := HK.out; omega)
            have h9 := recs_get xs 0 (by omega)
            simp only [HR.out] at h8
            rw [h9] at h8
            rw [← HBS.out, HR.out]
            simpa [RecM.r] using h8
          have e1 : xs[k].num = bs + k := by
            have h8 := Wal.num_at HSC.out.1 k (by have := HK.out; omega)
            have h9 := recs_get xs k (by omega)
            simp only [HR.out] at h8
            rw [h9] at h8
            rw [← HBS.out, HR.out]
            simpa [RecM.r] using h8
          rw [e0] at c0
          rw [e1] at c1
          have c0' : w3.cell? a = some (.int .i64 bs) := c0
          have hidx : IntKind.i64.wrap ((xs.length : Int) - 1) = (k : Int) := by rw [IntWalk.i64_in _ (by omega)]; omega
          have hp0 : (0 : Int) < (xs.length : Int) := by omega
          have hp2 : 0 < xs.length := by omega
          have hp1 : (k : Int) < (xs.length : Int) := by omega
          have hp3 : (0 : Int) ≤ (k : Int) := by omega
          have hne0 : ((xs.length : Int) == 0) = false := by rw [beq_eq_false_iff_ne]; omega
          clear e0 e1 c0 hXa' hX3 hX
          subst hXa
          have HXL := Lib.hid hxl
          clear hxl
          go_wp2_with fail
          go_quiet (fail)
          go_wp2
          go_ret
          exact RetInt.mk rfl abA
        · have hq2 : (n != bs + (k : Int) + 1) = true := by simpa using h2
          obtain rfl : m = 8 := by rw [hm]; exact if_neg (fun h => h2 (by have := (hfs.1 (fitsB_true.1 h.2)).2; omega))
          clear hm hr0 h1 h2 hfs hbs hk hF
          go_enter Tryz.func60, Tryz.ntmps60
          go_wp2_with fail
          refine (refUp_any A B ca cb s t cap false _ (by omega) (by omega)).mono ?_
          rintro e w1 ⟨r, hr, rfl, hb1⟩
          obtain rfl : r = 0 := hr.out.trans HU.out
          obtain ⟨bq0, bq1, bq2, bq3, bq4, bq5⟩ := cells6 hb1 (b := w.heap.size) (v0 := .slice A s.length ca) (v1 := .slice B t.length cb) (v2 := .int .i64 cap) (v3 := .bool false) (v4 := .int .i64 f) (v5 := .int .i64 n) (by first | (simp [go_sem]; done) | (refine ⟨?_, ?_, ?_, ?_, ?_, ?_⟩ <;> assumption))
          go_wp2_with fail
          refine (has_any A B ca cb s t cap false _ (hs.ab abA) (ht.ab abA) hca hcb hl).mono ?_
          rintro e w2 ⟨X, d, xs, u', hS, rfl, hX, hd, hx, hb2⟩
          obtain ⟨h1, h2⟩ := Frame.scan_unique HSC.out hS.out
          subst h2
          have HR := Lib.hid h1
          clear h1 hS hr
          have hz2 : Ab (w.alloc (.cells #[.slice A s.length ca, .slice B t.length cb, .int .i64 cap, .bool false, .int .i64 f, .int .i64 n] 29)) w2 := abA
          obtain ⟨bq0, bq1, bq2, bq3, bq4, bq5⟩ := cells6 hz2 (b := w.heap.size) (v0 := .slice A s.length ca) (v1 := .slice B t.length cb) (v2 := .int .i64 cap) (v3 := .bool false) (v4 := .int .i64 f) (v5 := .int .i64 n) (by first | (simp [go_sem]; done) | (refine ⟨?_, ?_, ?_, ?_, ?_, ?_⟩ <;> assumption))
          go_wp2_with fail
          refine (whole_any A B ca cb s t cap false _ (hs.ab abA) (ht.ab abA) hca hcb (by omega) (by omega)).mono ?_
          rintro e w3 ⟨L, D, c, hL, rfl, o1, hb3⟩
          have hq : ((u : Int) != (L.length : Int)) = false := by have := HN.out; rw [hL.out, List.length_append]; simp; omega
          have hz3 : Ab (w.alloc (.cells #[.slice A s.length ca, .slice B t.length cb, .int .i64 cap, .bool false, .int .i64 f, .int .i64 n] 29)) w3 := abA
          obtain ⟨bq0, bq1, bq2, bq3, bq4, bq5⟩ := cells6 hz3 (b := w.heap.size) (v0 := .slice A s.length ca) (v1 := .slice B t.length cb) (v2 := .int .i64 cap) (v3 := .bool false) (v4 := .int .i64 f) (v5 := .int .i64 n) (by first | (simp [go_sem]; done) | (refine ⟨?_, ?_, ?_, ?_, ?_, ?_⟩ <;> assumption))
          have hxl : xs.length = k + 1 := by rw [← recs_length, ← HR.out]; exact HK.out
          have hX3 := hX.ab hb3
          obtain ⟨a, hXa, -, c0, -⟩ := hX3.at_ (k := 0) (by omega)
          obtain ⟨a', hXa', -, c1, -⟩ := hX3.at_ (k := k) (by omega)
          rw [hXa] at hXa'
          obtain rfl := Option.some.inj hXa'
          have e0 : xs[0].num = bs := by
            have h8 := Wal.num_at HSC.out.1 0 (by have := HK.out; omega)
            have h9 := recs_get xs 0 (by omega)
            simp only [HR.out] at h8
            rw [h9] at h8
            rw [← HBS.out, HR.out]
            simpa [RecM.r] using h8
          have e1 : xs[k].num = bs + k := by
            have h8 := Wal.num_at HSC.out.1 k (by have := HK.out; omega)
            have h9 := recs_get xs k (by omega)
            simp only [HR.out] at h8
            rw [h9] at h8
            rw [← HBS.out, HR.out]
            simpa [RecM.r] using h8
          rw [e0] at c0
          rw [e1] at c1
          have c0' : w3.cell? a = some (.int .i64 bs) := c0
          have hidx : IntKind.i64.wrap ((xs.length : Int) - 1) = (k : Int) := by rw [IntWalk.i64_in _ (by omega)]; omega
          have hp0 : (0 : Int) < (xs.length : Int) := by omega
          have hp2 : 0 < xs.length := by omega
          have hp1 : (k : Int) < (xs.length : Int) := by omega
          have hp3 : (0 : Int) ≤ (k : Int) := by omega
          have hne0 : ((xs.length : Int) == 0) = false := by rw [beq_eq_false_iff_ne]; omega
          clear e0 e1 c0 hXa' hX3 hX
          subst hXa
          have HXL := Lib.hid hxl
          clear hxl
          go_wp2_with fail
          go_quiet (fail)
          go_wp2
          go_ret
          exact RetInt.mk rfl abA
      · have hq1 : (f != bs) = true := by simpa using h1
        obtain rfl : m = 8 := by rw [hm]; exact if_neg (fun h => h1 (hfs.1 (fitsB_true.1 h.2)).1)
        clear hm hr0 h1 hfs hbs hk hF
        go_enter Tryz.func60, Tryz.ntmps60
        go_wp2_with fail
        refine (refUp_any A B ca cb s t cap false _ (by omega) (by omega)).mono ?_
        rintro e w1 ⟨r, hr, rfl, hb1⟩
        obtain rfl : r = 0 := hr.out.trans HU.out
        obtain ⟨bq0, bq1, bq2, bq3, bq4, bq5⟩ := cells6 hb1 (b := w.heap.size) (v0 := .slice A s.length ca) (v1 := .slice B t.length cb) (v2 := .int .i64 cap) (v3 := .bool false) (v4 := .int .i64 f) (v5 := .int .i64 n) (by first | (simp [go_sem]; done) | (refine ⟨?_, ?_, ?_, ?_, ?_, ?_⟩ <;> assumption))
        go_wp2_with fail
        refine (has_any A B ca cb s t cap false _ (hs.ab abA) (ht.ab abA) hca hcb hl).mono ?_
        rintro e w2 ⟨X, d, xs, u', hS, rfl, hX, hd, hx, hb2⟩
        obtain ⟨h1, h2⟩ := Frame.scan_unique HSC.out hS.out
        subst h2
        have HR := Lib.hid h1
        clear h1 hS hr
        have hz2 : Ab (w.alloc (.cells #[.slice A s.length ca, .slice B t.length cb, .int .i64 cap, .bool false, .int .i64 f, .int .i64 n] 29)) w2 := abA
        obtain ⟨bq0, bq1, bq2, bq3, bq4, bq5⟩ := cells6 hz2 (b := w.heap.size) (v0 := .slice A s.length ca) (v1 := .slice B t.length cb) (v2 := .int .i64 cap) (v3 := .bool false) (v4 := .int .i64 f) (v5 := .int .i64 n) (by first | (simp [go_sem]; done) | (refine ⟨?_, ?_, ?_, ?_, ?_, ?_⟩ <;> assumption))
        go_wp2_with fail
        refine (whole_any A B ca cb s t cap false _ (hs.ab abA) (ht.ab abA) hca hcb (by omega) (by omega)).mono ?_
        rintro e w3 ⟨L, D, c, hL, rfl, o1, hb3⟩
        have hq : ((u : Int) != (L.length : Int)) = false := by have := HN.out; rw [hL.out, List.length_append]; simp; omega
        have hz3 : Ab (w.alloc (.cells #[.slice A s.length ca, .slice B t.length cb, .int .i64 cap, .bool false, .int .i64 f, .int .i64 n] 29)) w3 := abA
        obtain ⟨bq0, bq1, bq2, bq3, bq4, bq5⟩ := cells6 hz3 (b := w.heap.size) (v0 := .slice A s.length ca) (v1 := .slice B t.length cb) (v2 := .int .i64 cap) (v3 := .bool false) (v4 := .int .i64 f) (v5 := .int .i64 n) (by first | (simp [go_sem]; done) | (refine ⟨?_, ?_, ?_, ?_, ?_, ?_⟩ <;> assumption))
        have hxl : xs.length = k + 1 := by rw [← recs_length, ← HR.out]; exact HK.out
        have hX3 := hX.ab hb3
        obtain ⟨a, hXa, -, c0, -⟩ := hX3.at_ (k := 0) (by omega)
        obtain ⟨a', hXa', -, c1, -⟩ := hX3.at_ (k := k) (by omega)
        rw [hXa] at hXa'
        obtain rfl := Option.some.inj hXa'
        have e0 : xs[0].num = bs := by
          have h8 := Wal.num_at HSC.out.1 0 (by have := HK.out; omega)
          have h9 := recs_get xs 0 (by omega)
          simp only [HR.out] at h8
          rw [h9] at h8
          rw [← HBS.out, HR.out]
          simpa [RecM.r] using h8
        have e1 : xs[k].num = bs + k := by
          have h8 := Wal.num_at HSC.out.1 k (by have := HK.out; omega)
          have h9 := recs_get xs k (by omega)
          simp only [HR.out] at h8
          rw [h9] at h8
          rw [← HBS.out, HR.out]
          simpa [RecM.r] using h8
        rw [e0] at c0
        rw [e1] at c1
        have c0' : w3.cell? a = some (.int .i64 bs) := c0
        have hidx : IntKind.i64.wrap ((xs.length : Int) - 1) = (k : Int) := by rw [IntWalk.i64_in _ (by omega)]; omega
        have hp0 : (0 : Int) < (xs.length : Int) := by omega
        have hp2 : 0 < xs.length := by omega
        have hp1 : (k : Int) < (xs.length : Int) := by omega
        have hp3 : (0 : Int) ≤ (k : Int) := by omega
        have hne0 : ((xs.length : Int) == 0) = false := by rw [beq_eq_false_iff_ne]; omega
        clear e0 e1 c0 hXa' hX3 hX
        subst hXa
        have HXL := Lib.hid hxl
        clear hxl
        go_wp2_with fail
        go_quiet (fail)
        go_wp2
        go_ret
        exact RetInt.mk rfl abA
  · obtain rfl : m = 8 := by rw [hm]; exact if_neg (fun h => huN h.1)
    clear hm
    go_enter Tryz.func60, Tryz.ntmps60
    go_wp2_with fail
    refine (refUp_any A B ca cb s t cap false _ (by omega) (by omega)).mono ?_
    rintro e w1 ⟨r, hr, rfl, hb1⟩
    obtain rfl : r = 0 := hr.out.trans HU.out
    obtain ⟨bq0, bq1, bq2, bq3, bq4, bq5⟩ := cells6 hb1 (b := w.heap.size) (v0 := .slice A s.length ca) (v1 := .slice B t.length cb) (v2 := .int .i64 cap) (v3 := .bool false) (v4 := .int .i64 f) (v5 := .int .i64 n) (by first | (simp [go_sem]; done) | (refine ⟨?_, ?_, ?_, ?_, ?_, ?_⟩ <;> assumption))
    go_wp2_with fail
    refine (has_any A B ca cb s t cap false _ (hs.ab abA) (ht.ab abA) hca hcb hl).mono ?_
    rintro e w2 ⟨X, d, xs, u', hS, rfl, hX, hd, hx, hb2⟩
    obtain ⟨h1, h2⟩ := Frame.scan_unique HSC.out hS.out
    subst h2
    have HR := Lib.hid h1
    clear h1 hS hr
    have hz2 : Ab (w.alloc (.cells #[.slice A s.length ca, .slice B t.length cb, .int .i64 cap, .bool false, .int .i64 f, .int .i64 n] 29)) w2 := abA
    obtain ⟨bq0, bq1, bq2, bq3, bq4, bq5⟩ := cells6 hz2 (b := w.heap.size) (v0 := .slice A s.length ca) (v1 := .slice B t.length cb) (v2 := .int .i64 cap) (v3 := .bool false) (v4 := .int .i64 f) (v5 := .int .i64 n) (by first | (simp [go_sem]; done) | (refine ⟨?_, ?_, ?_, ?_, ?_, ?_⟩ <;> assumption))
    go_wp2_with fail
    refine (whole_any A B ca cb s t cap false _ (hs.ab abA) (ht.ab abA) hca hcb (by omega) (by omega)).mono ?_
    rintro e w3 ⟨L, D, c, hL, rfl, o1, hb3⟩
    have hq : ((u : Int) != (L.length : Int)) = true := by rw [hL.out, List.length_append]; simp; omega
    go_wp2
    go_ret
    exact RetInt.mk rfl abA
end Go.Proofs.YthgcfjhnnhigoaaGreat

/- The reference of layer 4, second part, walked. Own work. -/
namespace Go.Proofs.YthgcfjhnnhigoaaGreat
open Go.RowKit

theorem refwcheck_any (A B : Option Addr) (ca cb : Nat) (s t : List UInt8) (cap : Int) (dn : Bool) (f n : Int) (w : World) (hs : RB w 0 A s) (ht : RB w 0 B t) (hca : s.length ≤ ca) (hcb : t.length ≤ cb) (ls : s.length ≤ 1000000) (lt : t.length ≤ 1000000) (g : Option (List Frame.Rec)) (hi : Wal.Is ⟨⟨s, t, cap, dn⟩, f, n⟩ g) :
    Calls Tryz.prog 60 #[.agg #[.slice A s.length ca, .slice B t.length cb, .int .i64 cap, .bool dn, .int .i64 f, .int .i64 n]] w (RetInt w (Wal.check g)) := by
  by_cases hu : Disk.up ⟨s, t, cap, dn⟩ = 0
  · obtain rfl : dn = false := (Disk.up_zero hu).2
    obtain ⟨rs, u, hsc⟩ := Wal.scan_exists (s ++ t)
    refine refc_some A B ca cb s t cap f n w hs ht hca hcb hu rs u hsc _ ?_
    cases g with
    | none =>
      symm
      refine if_neg (fun h => ?_)
      exact hi rs (Wal.good_of hsc hu (by rw [List.length_append]; exact h.1) (fitsB_true.1 h.2))
    | some rs' =>
      have hg : Wal.Good ⟨⟨s, t, cap, false⟩, f, n⟩ rs' := hi
      obtain ⟨h1, h2⟩ := Frame.scan_unique hsc hg.scan
      subst h1
      symm
      exact if_pos ⟨by rw [h2, List.length_append], fitsB_true.2 hg.2.2.2⟩
  · have : Wal.check g = 8 := by
      cases g with
      | none => rfl
      | some rs => exact absurd (show Disk.up ⟨s, t, cap, dn⟩ = 0 from (show Wal.Good ⟨⟨s, t, cap, dn⟩, f, n⟩ rs from hi).1) hu
    rw [this]
    exact refc_down A B ca cb s t cap dn f n w ls lt hu

def great4B (a b : Nat) : Bool := decide (2000 < a) || decide (2000 < b)
theorem great4B_false {a b : Nat} (h : great4B a b = false) : a ≤ 2000 ∧ b ≤ 2000 := by unfold great4B at h; simp at h; omega
theorem great4_any (A B : Option Addr) (ca cb : Nat) (s t : List UInt8) (cap : Int) (dn : Bool) (w : World) (ls : s.length ≤ 9223372036854775807) (lt : t.length ≤ 9223372036854775807) :
    Calls Tryz.prog 33 #[.agg #[.slice A s.length ca, .slice B t.length cb, .int .i64 cap, .bool dn]] w fun e w' => e = .returned (.bool (great4B s.length t.length)) ∧ Ab w w' := by
  by_cases h1 : 2000 < s.length
  · have hv := Lib.hid (show great4B s.length t.length = true by unfold great4B; simp; omega)
    go_enter Tryz.func33, Tryz.ntmps33
    go_wp2
    go_ret
    exact ⟨ret_bool (by first | (rw [hv.out]; done) | (rw [hv.out]; simp; done) | (rw [hv.out]; simp; omega)), abA⟩
  · by_cases h2 : 2000 < t.length
    · have hv := Lib.hid (show great4B s.length t.length = true by unfold great4B; simp; omega)
      go_enter Tryz.func33, Tryz.ntmps33
      go_wp2
      go_ret
      exact ⟨ret_bool (by first | (rw [hv.out]; done) | (rw [hv.out]; simp; done) | (rw [hv.out]; simp; omega)), abA⟩
    · have hv := Lib.hid (show great4B s.length t.length = false by unfold great4B; simp; omega)
      go_enter Tryz.func33, Tryz.ntmps33
      go_wp2
      go_ret
      exact ⟨ret_bool (by first | (rw [hv.out]; done) | (rw [hv.out]; simp; done) | (rw [hv.out]; simp; omega)), abA⟩

theorem lsame_true (A B C D : Option Addr) (ca cb cc cd : Nat) (s t : List UInt8) (cap : Int) (dn : Bool) (f n : Int) (w : World) (hs : RB w 0 A s) (ht : RB w 0 B t) (hs' : RB w 0 C s) (ht' : RB w 0 D t) (ls : s.length ≤ 4000000) (lt : t.length ≤ 4000000) :
    Calls Tryz.prog 29 #[.agg #[.slice A s.length ca, .slice B t.length cb, .int .i64 cap, .bool dn, .int .i64 f, .int .i64 n], .agg #[.slice C s.length cc, .slice D t.length cd, .int .i64 cap, .bool dn, .int .i64 f, .int .i64 n]] w fun e w' => e = .returned (.bool true) ∧ Ab w w' := by
  go_enter Tryz.func29, Tryz.ntmps29
  go_wp2_with fail
  refine (same_true A B C D ca cb cc cd s t cap dn _ (hs.ab abA) (ht.ab abA) (hs'.ab abA) (ht'.ab abA) ls lt).mono ?_
  rintro e w1 ⟨rfl, hb1⟩
  go_wp2
  go_ret
  exact ⟨rfl, abA⟩

end Go.Proofs.YthgcfjhnnhigoaaGreat

/- Append and Drop of the reference of layer 4, walked. Own work. -/
namespace Go.Proofs.YthgcfjhnnhigoaaGreat
open Go.RowKit

end Go.Proofs.YthgcfjhnnhigoaaGreat

/- Open and Drop of the reference of layer 4, walked. Own work. -/
namespace Go.Proofs.YthgcfjhnnhigoaaGreat
open Go.RowKit

/-- How far the loop of the reference's Drop has come. -/
def DropRel (zb : World) (rs : List Frame.Rec) (j : Nat) (v8 v9 : Value) (wr : World) : Prop :=
  ∃ k : Nat, k ≤ j ∧ v9 = .int .i64 (k : Int) ∧ v8 = .int .i64 ((Frame.all (rs.take k)).length : Int) ∧ wr = zb

end Go.Proofs.YthgcfjhnnhigoaaGreat
