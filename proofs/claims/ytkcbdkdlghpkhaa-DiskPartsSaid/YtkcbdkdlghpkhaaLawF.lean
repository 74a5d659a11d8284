import Derived.Test.YtkcbdkdlghpkhaaLawD
import Derived.Test.YtkcbdkdlghpkhaaLawC
set_option linter.unusedVariables false
set_option linter.unusedSimpArgs false
namespace Go.Proofs.Ytkcbdkdlghpkhaa
open Go.RowKit Disk

/-- Behind a call of Run whose device goes into a variable of its own. -/
def PartRel (w : World) (m : Dev × Int × Int) (v10 v11 v12 : Value) (wx : World) : Prop :=
  ∃ (r : Dev) (n er : Int) (h : Nat) (D E : Option Addr) (cd ce : Nat), Hid ((r, n, er) = m) ∧ v10 = .pointer (some ⟨h, 0, none⟩) ∧ v11 = .int .i64 n ∧ v12 = .int .i64 er ∧
    (wx.cell? ⟨h, 0, none⟩ = some (.slice D r.s.length cd) ∧ wx.cell? ⟨h, 1, none⟩ = some (.slice E r.t.length ce) ∧ wx.cell? ⟨h, 2, none⟩ = some (.int .i64 r.cap) ∧ wx.cell? ⟨h, 3, none⟩ = some (.bool r.down)) ∧
    RB wx 0 D r.s ∧ RB wx 0 E r.t ∧ r.s.length ≤ cd ∧ r.t.length ≤ ce ∧ Ab w wx

theorem ops_take {w : World} {A : Option Addr} {n : Nat} {xs : List OpM} (h : Ops w A n xs) {k : Nat} (hk : k ≤ n) : Ops w A k (xs.take k) := by
  refine ⟨by rw [List.length_take, h.1]; omega, fun hk0 => ?_⟩
  obtain ⟨a, ha, ho⟩ := h.2 (by omega)
  exact ⟨a, ha, ho.take k⟩

theorem infoOp : (Try.prog.info? 39).map (fun i => (i.zero, i.size, i.bytes)) = some (some (.agg #[.int .u8 0, .slice none 0 0, .int .i64 0]), 3, 40) := by kernel_rfl
def cutO (a : Option Addr) (cap k : Nat) : Option Addr := if cap = k then a else a.map (·.add (k * 3))
theorem run_cutO (k : Nat) (kd : IntKind) (a : Option Addr) (len cap : Nat) (w : World) (h : k ≤ len) :
    (Instr.slice 40 (.slice a len cap) (some (.int kd (k : Int))) none none).run Try.prog w = .ok (.slice (cutO a cap k) (len - k) (cap - k)) w := by
  have hu : Try.prog.underlying 40 = some (.slice (Try.prog.elem 40)) := by kernel_rfl
  obtain ⟨i0, hi0, _, hz1, _⟩ := info_parts infoOp
  have he : Try.prog.elem 40 = 39 := by kernel_rfl
  rw [run_slice_l w 40 a len cap hu kd (k : Int) (by omega) (by omega), he]
  simp only [sizeOf, typeInfo, sliced, Int.toNat_natCast, cutO, Sem.run_bind, Sem.run_pure]
  simp [hi0, hz1]
theorem ops_drop {w : World} {A : Option Addr} {n c : Nat} {xs : List OpM} (h : Ops w A n xs) (k : Nat) (hc : n ≤ c) : Ops w (cutO A c k) (n - k) (xs.drop k) := by
  refine ⟨by rw [List.length_drop, h.1], fun hk0 => ?_⟩
  obtain ⟨a, rfl, ho⟩ := h.2 (by omega)
  unfold cutO
  rw [if_neg (by omega)]
  exact ⟨_, rfl, ho.drop k⟩

set_option maxRecDepth 100000 in
set_option maxHeartbeats 6400000 in
theorem parts_walk (A B : Option Addr) (ca cb : Nat) (s t : List UInt8) (cap : Int) (dn : Bool) (w : World) (hs : RB w 0 A s) (ht : RB w 0 B t) (hca : s.length ≤ ca) (hcb : t.length ≤ cb) (ls : s.length ≤ 9223372036854775807) (lt : t.length ≤ 9223372036854775807) (C : Option Addr) (n c : Nat) (xs : List OpM) (hx : Ops w C n xs) (hnc : n ≤ c) (hn : n ≤ 9223372036854775807) (at_ : Int) :
    Calls Try.prog 9 #[.agg #[.slice A s.length ca, .slice B t.length cb, .int .i64 cap, .bool dn], .slice C n c, .int .i64 at_] w fun e w' => e = .returned (.bool true) ∧ Ab w w' := by
  by_cases hg : 3000 < s.length ∨ 3000 < t.length
  · have HG := Lib.hid hg; clear hg
    go_enter Try.func9, Try.ntmps9
    go_wp2_with fail
    refine (great_yes A B ca cb s t cap dn _ HG.out).mono ?_
    rintro e w1 ⟨rfl, hb1⟩
    go_wp2_with fail
    refine (alive_true _).mono ?_
    rintro e w9 ⟨rfl, hw9⟩
    go_wp2
    go_ret
    exact ⟨rfl, (by repeat (first | with_reducible exact Ab.refl _ | with_reducible assumption | with_reducible refine Ab.drew ?_ | with_reducible refine Ab.drewN ?_ _ | with_reducible refine Ab.alloc ?_ _ | with_reducible refine Ab.trans ?_ (by assumption) | with_reducible refine Ab.set ?_ (by first | (simp; done) | omega | (simp; omega)) _))⟩
  have ls : s.length ≤ 3000 := by omega
  have lt : t.length ≤ 3000 := by omega
  clear hg
  by_cases hbad : bad ⟨s, t, cap, dn⟩
  · have HK := Lib.hid (check_bad hbad); clear hbad
    go_enter Try.func9, Try.ntmps9
    go_wp2_with fail
    refine (great_no A B ca cb s t cap dn _ ls lt).mono ?_
    rintro e w1 ⟨rfl, hb1⟩
    have bq0 := hb1.at (p := ⟨w.heap.size, 0, none⟩) (v := .slice A s.length ca) (by (repeat (first | with_reducible assumption | (simp [go_sem]; done) | with_reducible apply cell_alloc | with_reducible apply cell_drew | with_reducible apply cell_drewN | (with_reducible apply Ab.at; with_reducible assumption) | (with_reducible refine cell_set ?_ ?_; rotate_left; focus (first | (simp; done) | (simp; omega))) | (with_reducible refine cell_setb ?_ ?_; rotate_left; focus (first | omega | (simp only; omega) | (simp; omega)))))); have bq1 := hb1.at (p := ⟨w.heap.size, 1, none⟩) (v := .slice B t.length cb) (by (repeat (first | with_reducible assumption | (simp [go_sem]; done) | with_reducible apply cell_alloc | with_reducible apply cell_drew | with_reducible apply cell_drewN | (with_reducible apply Ab.at; with_reducible assumption) | (with_reducible refine cell_set ?_ ?_; rotate_left; focus (first | (simp; done) | (simp; omega))) | (with_reducible refine cell_setb ?_ ?_; rotate_left; focus (first | omega | (simp only; omega) | (simp; omega)))))); have bq2 := hb1.at (p := ⟨w.heap.size, 2, none⟩) (v := .int .i64 cap) (by (repeat (first | with_reducible assumption | (simp [go_sem]; done) | with_reducible apply cell_alloc | with_reducible apply cell_drew | with_reducible apply cell_drewN | (with_reducible apply Ab.at; with_reducible assumption) | (with_reducible refine cell_set ?_ ?_; rotate_left; focus (first | (simp; done) | (simp; omega))) | (with_reducible refine cell_setb ?_ ?_; rotate_left; focus (first | omega | (simp only; omega) | (simp; omega)))))); have bq3 := hb1.at (p := ⟨w.heap.size, 3, none⟩) (v := .bool dn) (by (repeat (first | with_reducible assumption | (simp [go_sem]; done) | with_reducible apply cell_alloc | with_reducible apply cell_drew | with_reducible apply cell_drewN | (with_reducible apply Ab.at; with_reducible assumption) | (with_reducible refine cell_set ?_ ?_; rotate_left; focus (first | (simp; done) | (simp; omega))) | (with_reducible refine cell_setb ?_ ?_; rotate_left; focus (first | omega | (simp only; omega) | (simp; omega))))))
    go_wp2_with fail
    refine (refCheck_any A B ca cb s t cap dn _ (by omega) (by omega)).mono ?_
    rintro e w2 ⟨r2, hr2, rfl, hb2⟩
    obtain rfl : r2 = 8 := hr2.out.trans HK.out
    go_wp2_with fail
    refine (alive_true _).mono ?_
    rintro e w9 ⟨rfl, hw9⟩
    go_wp2
    go_ret
    exact ⟨rfl, (by repeat (first | with_reducible exact Ab.refl _ | with_reducible assumption | with_reducible refine Ab.drew ?_ | with_reducible refine Ab.drewN ?_ _ | with_reducible refine Ab.alloc ?_ _ | with_reducible refine Ab.trans ?_ (by assumption) | with_reducible refine Ab.set ?_ (by first | (simp; done) | omega | (simp; omega)) _))⟩
  have HK := Lib.hid (check_ok hbad)
  have HB := Lib.hid hbad; clear hbad
  by_cases h60 : 60 < n
  · go_enter Try.func9, Try.ntmps9
    go_wp2_with fail
    refine (great_no A B ca cb s t cap dn _ ls lt).mono ?_
    rintro e w1 ⟨rfl, hb1⟩
    have bq0 := hb1.at (p := ⟨w.heap.size, 0, none⟩) (v := .slice A s.length ca) (by (repeat (first | with_reducible assumption | (simp [go_sem]; done) | with_reducible apply cell_alloc | with_reducible apply cell_drew | with_reducible apply cell_drewN | (with_reducible apply Ab.at; with_reducible assumption) | (with_reducible refine cell_set ?_ ?_; rotate_left; focus (first | (simp; done) | (simp; omega))) | (with_reducible refine cell_setb ?_ ?_; rotate_left; focus (first | omega | (simp only; omega) | (simp; omega)))))); have bq1 := hb1.at (p := ⟨w.heap.size, 1, none⟩) (v := .slice B t.length cb) (by (repeat (first | with_reducible assumption | (simp [go_sem]; done) | with_reducible apply cell_alloc | with_reducible apply cell_drew | with_reducible apply cell_drewN | (with_reducible apply Ab.at; with_reducible assumption) | (with_reducible refine cell_set ?_ ?_; rotate_left; focus (first | (simp; done) | (simp; omega))) | (with_reducible refine cell_setb ?_ ?_; rotate_left; focus (first | omega | (simp only; omega) | (simp; omega)))))); have bq2 := hb1.at (p := ⟨w.heap.size, 2, none⟩) (v := .int .i64 cap) (by (repeat (first | with_reducible assumption | (simp [go_sem]; done) | with_reducible apply cell_alloc | with_reducible apply cell_drew | with_reducible apply cell_drewN | (with_reducible apply Ab.at; with_reducible assumption) | (with_reducible refine cell_set ?_ ?_; rotate_left; focus (first | (simp; done) | (simp; omega))) | (with_reducible refine cell_setb ?_ ?_; rotate_left; focus (first | omega | (simp only; omega) | (simp; omega)))))); have bq3 := hb1.at (p := ⟨w.heap.size, 3, none⟩) (v := .bool dn) (by (repeat (first | with_reducible assumption | (simp [go_sem]; done) | with_reducible apply cell_alloc | with_reducible apply cell_drew | with_reducible apply cell_drewN | (with_reducible apply Ab.at; with_reducible assumption) | (with_reducible refine cell_set ?_ ?_; rotate_left; focus (first | (simp; done) | (simp; omega))) | (with_reducible refine cell_setb ?_ ?_; rotate_left; focus (first | omega | (simp only; omega) | (simp; omega))))))
    go_wp2_with fail
    refine (refCheck_any A B ca cb s t cap dn _ (by omega) (by omega)).mono ?_
    rintro e w2 ⟨r2, hr2, rfl, hb2⟩
    obtain rfl : r2 = 0 := hr2.out.trans HK.out
    go_wp2_with fail
    refine (alive_true _).mono ?_
    rintro e w9 ⟨rfl, hw9⟩
    go_wp2
    go_ret
    exact ⟨rfl, (by repeat (first | with_reducible exact Ab.refl _ | with_reducible assumption | with_reducible refine Ab.drew ?_ | with_reducible refine Ab.drewN ?_ _ | with_reducible refine Ab.alloc ?_ _ | with_reducible refine Ab.trans ?_ (by assumption) | with_reducible refine Ab.set ?_ (by first | (simp; done) | omega | (simp; omega)) _))⟩
  cases hlong : long xs with
  | true =>
    have HL := Lib.hid hlong; clear hlong
    go_enter Try.func9, Try.ntmps9
    go_wp2_with fail
    refine (great_no A B ca cb s t cap dn _ ls lt).mono ?_
    rintro e w1 ⟨rfl, hb1⟩
    have bq0 := hb1.at (p := ⟨w.heap.size, 0, none⟩) (v := .slice A s.length ca) (by (repeat (first | with_reducible assumption | (simp [go_sem]; done) | with_reducible apply cell_alloc | with_reducible apply cell_drew | with_reducible apply cell_drewN | (with_reducible apply Ab.at; with_reducible assumption) | (with_reducible refine cell_set ?_ ?_; rotate_left; focus (first | (simp; done) | (simp; omega))) | (with_reducible refine cell_setb ?_ ?_; rotate_left; focus (first | omega | (simp only; omega) | (simp; omega)))))); have bq1 := hb1.at (p := ⟨w.heap.size, 1, none⟩) (v := .slice B t.length cb) (by (repeat (first | with_reducible assumption | (simp [go_sem]; done) | with_reducible apply cell_alloc | with_reducible apply cell_drew | with_reducible apply cell_drewN | (with_reducible apply Ab.at; with_reducible assumption) | (with_reducible refine cell_set ?_ ?_; rotate_left; focus (first | (simp; done) | (simp; omega))) | (with_reducible refine cell_setb ?_ ?_; rotate_left; focus (first | omega | (simp only; omega) | (simp; omega)))))); have bq2 := hb1.at (p := ⟨w.heap.size, 2, none⟩) (v := .int .i64 cap) (by (repeat (first | with_reducible assumption | (simp [go_sem]; done) | with_reducible apply cell_alloc | with_reducible apply cell_drew | with_reducible apply cell_drewN | (with_reducible apply Ab.at; with_reducible assumption) | (with_reducible refine cell_set ?_ ?_; rotate_left; focus (first | (simp; done) | (simp; omega))) | (with_reducible refine cell_setb ?_ ?_; rotate_left; focus (first | omega | (simp only; omega) | (simp; omega)))))); have bq3 := hb1.at (p := ⟨w.heap.size, 3, none⟩) (v := .bool dn) (by (repeat (first | with_reducible assumption | (simp [go_sem]; done) | with_reducible apply cell_alloc | with_reducible apply cell_drew | with_reducible apply cell_drewN | (with_reducible apply Ab.at; with_reducible assumption) | (with_reducible refine cell_set ?_ ?_; rotate_left; focus (first | (simp; done) | (simp; omega))) | (with_reducible refine cell_setb ?_ ?_; rotate_left; focus (first | omega | (simp only; omega) | (simp; omega))))))
    go_wp2_with fail
    refine (refCheck_any A B ca cb s t cap dn _ (by omega) (by omega)).mono ?_
    rintro e w2 ⟨r2, hr2, rfl, hb2⟩
    obtain rfl : r2 = 0 := hr2.out.trans HK.out
    go_wp2_with fail
    refine (long_any C n c xs _ (hx.ab (by repeat (first | with_reducible exact Ab.refl _ | with_reducible assumption | with_reducible refine Ab.drew ?_ | with_reducible refine Ab.drewN ?_ _ | with_reducible refine Ab.alloc ?_ _ | with_reducible refine Ab.trans ?_ (by assumption) | with_reducible refine Ab.set ?_ (by first | (simp; done) | omega | (simp; omega)) _))) (by omega)).mono ?_
    rintro e w3 ⟨rfl, hb3⟩
    rw [HL.out]
    go_wp2_with fail
    refine (alive_true _).mono ?_
    rintro e w9 ⟨rfl, hw9⟩
    go_wp2
    go_ret
    exact ⟨rfl, (by repeat (first | with_reducible exact Ab.refl _ | with_reducible assumption | with_reducible refine Ab.drew ?_ | with_reducible refine Ab.drewN ?_ _ | with_reducible refine Ab.alloc ?_ _ | with_reducible refine Ab.trans ?_ (by assumption) | with_reducible refine Ab.set ?_ (by first | (simp; done) | omega | (simp; omega)) _))⟩
  | false =>
    obtain ⟨hd, _⟩ := long_no hlong
    have HL := Lib.hid hlong; clear hlong
    by_cases hat : at_ < 0 ∨ (n : Int) < at_
    · rcases hat with hat | hat
      all_goals
        go_enter Try.func9, Try.ntmps9
        go_wp2_with fail
        refine (great_no A B ca cb s t cap dn _ ls lt).mono ?_
        rintro e w1 ⟨rfl, hb1⟩
        have bq0 := hb1.at (p := ⟨w.heap.size, 0, none⟩) (v := .slice A s.length ca) (by (repeat (first | with_reducible assumption | (simp [go_sem]; done) | with_reducible apply cell_alloc | with_reducible apply cell_drew | with_reducible apply cell_drewN | (with_reducible apply Ab.at; with_reducible assumption) | (with_reducible refine cell_set ?_ ?_; rotate_left; focus (first | (simp; done) | (simp; omega))) | (with_reducible refine cell_setb ?_ ?_; rotate_left; focus (first | omega | (simp only; omega) | (simp; omega)))))); have bq1 := hb1.at (p := ⟨w.heap.size, 1, none⟩) (v := .slice B t.length cb) (by (repeat (first | with_reducible assumption | (simp [go_sem]; done) | with_reducible apply cell_alloc | with_reducible apply cell_drew | with_reducible apply cell_drewN | (with_reducible apply Ab.at; with_reducible assumption) | (with_reducible refine cell_set ?_ ?_; rotate_left; focus (first | (simp; done) | (simp; omega))) | (with_reducible refine cell_setb ?_ ?_; rotate_left; focus (first | omega | (simp only; omega) | (simp; omega)))))); have bq2 := hb1.at (p := ⟨w.heap.size, 2, none⟩) (v := .int .i64 cap) (by (repeat (first | with_reducible assumption | (simp [go_sem]; done) | with_reducible apply cell_alloc | with_reducible apply cell_drew | with_reducible apply cell_drewN | (with_reducible apply Ab.at; with_reducible assumption) | (with_reducible refine cell_set ?_ ?_; rotate_left; focus (first | (simp; done) | (simp; omega))) | (with_reducible refine cell_setb ?_ ?_; rotate_left; focus (first | omega | (simp only; omega) | (simp; omega)))))); have bq3 := hb1.at (p := ⟨w.heap.size, 3, none⟩) (v := .bool dn) (by (repeat (first | with_reducible assumption | (simp [go_sem]; done) | with_reducible apply cell_alloc | with_reducible apply cell_drew | with_reducible apply cell_drewN | (with_reducible apply Ab.at; with_reducible assumption) | (with_reducible refine cell_set ?_ ?_; rotate_left; focus (first | (simp; done) | (simp; omega))) | (with_reducible refine cell_setb ?_ ?_; rotate_left; focus (first | omega | (simp only; omega) | (simp; omega))))))
        go_wp2_with fail
        refine (refCheck_any A B ca cb s t cap dn _ (by omega) (by omega)).mono ?_
        rintro e w2 ⟨r2, hr2, rfl, hb2⟩
        obtain rfl : r2 = 0 := hr2.out.trans HK.out
        go_wp2_with fail
        refine (long_any C n c xs _ (hx.ab (by repeat (first | with_reducible exact Ab.refl _ | with_reducible assumption | with_reducible refine Ab.drew ?_ | with_reducible refine Ab.drewN ?_ _ | with_reducible refine Ab.alloc ?_ _ | with_reducible refine Ab.trans ?_ (by assumption) | with_reducible refine Ab.set ?_ (by first | (simp; done) | omega | (simp; omega)) _))) (by omega)).mono ?_
        rintro e w3 ⟨rfl, hb3⟩
        rw [HL.out]
        go_wp2_with fail
        refine (alive_true _).mono ?_
        rintro e w9 ⟨rfl, hw9⟩
        go_wp2
        go_ret
        exact ⟨rfl, (by repeat (first | with_reducible exact Ab.refl _ | with_reducible assumption | with_reducible refine Ab.drew ?_ | with_reducible refine Ab.drewN ?_ _ | with_reducible refine Ab.alloc ?_ _ | with_reducible refine Ab.trans ?_ (by assumption) | with_reducible refine Ab.set ?_ (by first | (simp; done) | omega | (simp; omega)) _))⟩
    obtain ⟨k, rfl⟩ := Int.eq_ofNat_of_zero_le (by omega : 0 ≤ at_)
    have hkn : k ≤ n := by omega
    clear hat
    have hk0 : (0 : Int) ≤ (k : Int) := by omega
    have hk1 : (k : Int) ≤ (n : Int) := by omega
    have hk2 : (k : Int) ≤ (c : Int) := by omega
    have hxt := ops_take hx hkn
    have hxl := hx.1
    have HX := Lib.hid hxl; clear hxl
    have hd2 : ∀ o ∈ xs.take k, o.b.length ≤ 3000 := fun o ho => hd o (List.mem_of_mem_take ho)
    go_enter Try.func9, Try.ntmps9
    go_wp2_with fail
    refine (great_no A B ca cb s t cap dn _ ls lt).mono ?_
    rintro e w1 ⟨rfl, hb1⟩
    have bq0 := hb1.at (p := ⟨w.heap.size, 0, none⟩) (v := .slice A s.length ca) (by (repeat (first | with_reducible assumption | (simp [go_sem]; done) | with_reducible apply cell_alloc | with_reducible apply cell_drew | with_reducible apply cell_drewN | (with_reducible apply Ab.at; with_reducible assumption) | (with_reducible refine cell_set ?_ ?_; rotate_left; focus (first | (simp; done) | (simp; omega))) | (with_reducible refine cell_setb ?_ ?_; rotate_left; focus (first | omega | (simp only; omega) | (simp; omega)))))); have bq1 := hb1.at (p := ⟨w.heap.size, 1, none⟩) (v := .slice B t.length cb) (by (repeat (first | with_reducible assumption | (simp [go_sem]; done) | with_reducible apply cell_alloc | with_reducible apply cell_drew | with_reducible apply cell_drewN | (with_reducible apply Ab.at; with_reducible assumption) | (with_reducible refine cell_set ?_ ?_; rotate_left; focus (first | (simp; done) | (simp; omega))) | (with_reducible refine cell_setb ?_ ?_; rotate_left; focus (first | omega | (simp only; omega) | (simp; omega)))))); have bq2 := hb1.at (p := ⟨w.heap.size, 2, none⟩) (v := .int .i64 cap) (by (repeat (first | with_reducible assumption | (simp [go_sem]; done) | with_reducible apply cell_alloc | with_reducible apply cell_drew | with_reducible apply cell_drewN | (with_reducible apply Ab.at; with_reducible assumption) | (with_reducible refine cell_set ?_ ?_; rotate_left; focus (first | (simp; done) | (simp; omega))) | (with_reducible refine cell_setb ?_ ?_; rotate_left; focus (first | omega | (simp only; omega) | (simp; omega)))))); have bq3 := hb1.at (p := ⟨w.heap.size, 3, none⟩) (v := .bool dn) (by (repeat (first | with_reducible assumption | (simp [go_sem]; done) | with_reducible apply cell_alloc | with_reducible apply cell_drew | with_reducible apply cell_drewN | (with_reducible apply Ab.at; with_reducible assumption) | (with_reducible refine cell_set ?_ ?_; rotate_left; focus (first | (simp; done) | (simp; omega))) | (with_reducible refine cell_setb ?_ ?_; rotate_left; focus (first | omega | (simp only; omega) | (simp; omega))))))
    go_wp2_with fail
    refine (refCheck_any A B ca cb s t cap dn _ (by omega) (by omega)).mono ?_
    rintro e w2 ⟨r2, hr2, rfl, hb2⟩
    obtain rfl : r2 = 0 := hr2.out.trans HK.out
    clear hr2
    go_wp2_with fail
    refine (long_any C n c xs _ (hx.ab (by repeat (first | with_reducible exact Ab.refl _ | with_reducible assumption | with_reducible refine Ab.drew ?_ | with_reducible refine Ab.drewN ?_ _ | with_reducible refine Ab.alloc ?_ _ | with_reducible refine Ab.trans ?_ (by assumption) | with_reducible refine Ab.set ?_ (by first | (simp; done) | omega | (simp; omega)) _))) (by omega)).mono ?_
    rintro e w3 ⟨rfl, hb3⟩
    rw [HL.out]
    have kq0 : w3.cell? ⟨w.heap.size, 0, none⟩ = some (.slice A s.length ca) := by (repeat (first | with_reducible assumption | (simp [go_sem]; done) | with_reducible apply cell_alloc | with_reducible apply cell_drew | with_reducible apply cell_drewN | (with_reducible apply Ab.at; with_reducible assumption) | (with_reducible refine cell_set ?_ ?_; rotate_left; focus (first | (simp; done) | (simp; omega))) | (with_reducible refine cell_setb ?_ ?_; rotate_left; focus (first | omega | (simp only; omega) | (simp; omega)))))
    have kq1 : w3.cell? ⟨w.heap.size, 1, none⟩ = some (.slice B t.length cb) := by (repeat (first | with_reducible assumption | (simp [go_sem]; done) | with_reducible apply cell_alloc | with_reducible apply cell_drew | with_reducible apply cell_drewN | (with_reducible apply Ab.at; with_reducible assumption) | (with_reducible refine cell_set ?_ ?_; rotate_left; focus (first | (simp; done) | (simp; omega))) | (with_reducible refine cell_setb ?_ ?_; rotate_left; focus (first | omega | (simp only; omega) | (simp; omega)))))
    have kq2 : w3.cell? ⟨w.heap.size, 2, none⟩ = some (.int .i64 cap) := by (repeat (first | with_reducible assumption | (simp [go_sem]; done) | with_reducible apply cell_alloc | with_reducible apply cell_drew | with_reducible apply cell_drewN | (with_reducible apply Ab.at; with_reducible assumption) | (with_reducible refine cell_set ?_ ?_; rotate_left; focus (first | (simp; done) | (simp; omega))) | (with_reducible refine cell_setb ?_ ?_; rotate_left; focus (first | omega | (simp only; omega) | (simp; omega)))))
    have kq3 : w3.cell? ⟨w.heap.size, 3, none⟩ = some (.bool dn) := by (repeat (first | with_reducible assumption | (simp [go_sem]; done) | with_reducible apply cell_alloc | with_reducible apply cell_drew | with_reducible apply cell_drewN | (with_reducible apply Ab.at; with_reducible assumption) | (with_reducible refine cell_set ?_ ?_; rotate_left; focus (first | (simp; done) | (simp; omega))) | (with_reducible refine cell_setb ?_ ?_; rotate_left; focus (first | omega | (simp only; omega) | (simp; omega)))))
    have kz : w.heap.size < w3.heap.size := cell_lt kq0
    go_wp2_with fail
    refine (run_any A B ca cb s t cap dn _ (RB.ab hs (by repeat (first | with_reducible exact Ab.refl _ | with_reducible assumption | with_reducible refine Ab.drew ?_ | with_reducible refine Ab.drewN ?_ _ | with_reducible refine Ab.alloc ?_ _ | with_reducible refine Ab.trans ?_ (by assumption) | with_reducible refine Ab.set ?_ (by first | (simp; done) | omega | (simp; omega)) _))) (RB.ab ht (by repeat (first | with_reducible exact Ab.refl _ | with_reducible assumption | with_reducible refine Ab.drew ?_ | with_reducible refine Ab.drewN ?_ _ | with_reducible refine Ab.alloc ?_ _ | with_reducible refine Ab.trans ?_ (by assumption) | with_reducible refine Ab.set ?_ (by first | (simp; done) | omega | (simp; omega)) _))) hca hcb (by omega) (by omega) C n c xs (hx.ab (by repeat (first | with_reducible exact Ab.refl _ | with_reducible assumption | with_reducible refine Ab.drew ?_ | with_reducible refine Ab.drewN ?_ _ | with_reducible refine Ab.alloc ?_ _ | with_reducible refine Ab.trans ?_ (by assumption) | with_reducible refine Ab.set ?_ (by first | (simp; done) | omega | (simp; omega)) _))) (by omega) hd).mono ?_
    rintro e w4 ⟨r4, n4, f4, D4, E4, cd4, ce4, h4, rfl, p4, q4, hb4⟩
    have mq0 : w4.cell? ⟨w.heap.size, 0, none⟩ = some (.slice A s.length ca) := by (repeat (first | with_reducible assumption | (simp [go_sem]; done) | with_reducible apply cell_alloc | with_reducible apply cell_drew | with_reducible apply cell_drewN | (with_reducible apply Ab.at; with_reducible assumption) | (with_reducible refine cell_set ?_ ?_; rotate_left; focus (first | (simp; done) | (simp; omega))) | (with_reducible refine cell_setb ?_ ?_; rotate_left; focus (first | omega | (simp only; omega) | (simp; omega)))))
    have mq1 : w4.cell? ⟨w.heap.size, 1, none⟩ = some (.slice B t.length cb) := by (repeat (first | with_reducible assumption | (simp [go_sem]; done) | with_reducible apply cell_alloc | with_reducible apply cell_drew | with_reducible apply cell_drewN | (with_reducible apply Ab.at; with_reducible assumption) | (with_reducible refine cell_set ?_ ?_; rotate_left; focus (first | (simp; done) | (simp; omega))) | (with_reducible refine cell_setb ?_ ?_; rotate_left; focus (first | omega | (simp only; omega) | (simp; omega)))))
    have mq2 : w4.cell? ⟨w.heap.size, 2, none⟩ = some (.int .i64 cap) := by (repeat (first | with_reducible assumption | (simp [go_sem]; done) | with_reducible apply cell_alloc | with_reducible apply cell_drew | with_reducible apply cell_drewN | (with_reducible apply Ab.at; with_reducible assumption) | (with_reducible refine cell_set ?_ ?_; rotate_left; focus (first | (simp; done) | (simp; omega))) | (with_reducible refine cell_setb ?_ ?_; rotate_left; focus (first | omega | (simp only; omega) | (simp; omega)))))
    have mq3 : w4.cell? ⟨w.heap.size, 3, none⟩ = some (.bool dn) := by (repeat (first | with_reducible assumption | (simp [go_sem]; done) | with_reducible apply cell_alloc | with_reducible apply cell_drew | with_reducible apply cell_drewN | (with_reducible apply Ab.at; with_reducible assumption) | (with_reducible refine cell_set ?_ ?_; rotate_left; focus (first | (simp; done) | (simp; omega))) | (with_reducible refine cell_setb ?_ ?_; rotate_left; focus (first | omega | (simp only; omega) | (simp; omega)))))
    have mz : w.heap.size < w4.heap.size := cell_lt mq0
    go_wp2_with fail
    generalize hw5 : w4.alloc (.cells #[.slice D4 r4.s.length cd4, .slice E4 r4.t.length ce4, .int .i64 r4.cap, .bool r4.down] 26) = w5
    have hb5 : Ab w4 w5 := by rw [← hw5]; exact (Ab.refl _).alloc _
    have u0 : w5.cell? ⟨w4.heap.size, 0, none⟩ = some (.slice D4 r4.s.length cd4) := by rw [← hw5]; simp [go_sem]
    have u1 : w5.cell? ⟨w4.heap.size, 1, none⟩ = some (.slice E4 r4.t.length ce4) := by rw [← hw5]; simp [go_sem]
    have u2 : w5.cell? ⟨w4.heap.size, 2, none⟩ = some (.int .i64 r4.cap) := by rw [← hw5]; simp [go_sem]
    have u3 : w5.cell? ⟨w4.heap.size, 3, none⟩ = some (.bool r4.down) := by rw [← hw5]; simp [go_sem]
    have hz5 : w5.heap.size = w4.heap.size + 1 := by rw [← hw5]; simp
    clear hw5
    have hz5' := Nat.le_of_eq hz5.symm; clear hz5
    have oq0 : w5.cell? ⟨w.heap.size, 0, none⟩ = some (.slice A s.length ca) := by (repeat (first | with_reducible assumption | (simp [go_sem]; done) | with_reducible apply cell_alloc | with_reducible apply cell_drew | with_reducible apply cell_drewN | (with_reducible apply Ab.at; with_reducible assumption) | (with_reducible refine cell_set ?_ ?_; rotate_left; focus (first | (simp; done) | (simp; omega))) | (with_reducible refine cell_setb ?_ ?_; rotate_left; focus (first | omega | (simp only; omega) | (simp; omega)))))
    have oq1 : w5.cell? ⟨w.heap.size, 1, none⟩ = some (.slice B t.length cb) := by (repeat (first | with_reducible assumption | (simp [go_sem]; done) | with_reducible apply cell_alloc | with_reducible apply cell_drew | with_reducible apply cell_drewN | (with_reducible apply Ab.at; with_reducible assumption) | (with_reducible refine cell_set ?_ ?_; rotate_left; focus (first | (simp; done) | (simp; omega))) | (with_reducible refine cell_setb ?_ ?_; rotate_left; focus (first | omega | (simp only; omega) | (simp; omega)))))
    have oq2 : w5.cell? ⟨w.heap.size, 2, none⟩ = some (.int .i64 cap) := by (repeat (first | with_reducible assumption | (simp [go_sem]; done) | with_reducible apply cell_alloc | with_reducible apply cell_drew | with_reducible apply cell_drewN | (with_reducible apply Ab.at; with_reducible assumption) | (with_reducible refine cell_set ?_ ?_; rotate_left; focus (first | (simp; done) | (simp; omega))) | (with_reducible refine cell_setb ?_ ?_; rotate_left; focus (first | omega | (simp only; omega) | (simp; omega)))))
    have oq3 : w5.cell? ⟨w.heap.size, 3, none⟩ = some (.bool dn) := by (repeat (first | with_reducible assumption | (simp [go_sem]; done) | with_reducible apply cell_alloc | with_reducible apply cell_drew | with_reducible apply cell_drewN | (with_reducible apply Ab.at; with_reducible assumption) | (with_reducible refine cell_set ?_ ?_; rotate_left; focus (first | (simp; done) | (simp; omega))) | (with_reducible refine cell_setb ?_ ?_; rotate_left; focus (first | omega | (simp only; omega) | (simp; omega)))))
    have oz : w.heap.size < w5.heap.size := cell_lt oq0
    go_upto_region 5 with fail
    go_cut [10, 11, 12] (fun s10 s11 s12 wx => PartRel w5 (Disk.run ⟨s, t, cap, dn⟩ ((xs.take k).map OpM.op)) s10 s11 s12 wx)
    case first =>
      go_region_held3 (fun w' => w'.cell? ⟨w.heap.size, 0, none⟩ = some (.slice A s.length ca) ∧ w'.cell? ⟨w.heap.size, 1, none⟩ = some (.slice B t.length cb) ∧ w'.cell? ⟨w.heap.size, 2, none⟩ = some (.int .i64 cap) ∧ w'.cell? ⟨w.heap.size, 3, none⟩ = some (.bool dn))
        ((refine ⟨?_, ?_, ?_, ?_⟩ <;> (repeat (first | with_reducible assumption | (simp [go_sem]; done) | with_reducible apply cell_alloc | with_reducible apply cell_drew | with_reducible apply cell_drewN | (with_reducible apply Ab.at; with_reducible assumption) | (with_reducible refine cell_set ?_ ?_; rotate_left; focus (first | (simp; done) | (simp; omega))) | (with_reducible refine cell_setb ?_ ?_; rotate_left; focus (first | omega | (simp only; omega) | (simp; omega)))))))
        ((go_at_call 22
          refine (run_any A B ca cb s t cap dn _ (RB.ab hs (by repeat (first | with_reducible exact Ab.refl _ | with_reducible assumption | with_reducible refine Ab.drew ?_ | with_reducible refine Ab.drewN ?_ _ | with_reducible refine Ab.alloc ?_ _ | with_reducible refine Ab.trans ?_ (by assumption) | with_reducible refine Ab.set ?_ (by first | (simp; done) | omega | (simp; omega)) _))) (RB.ab ht (by repeat (first | with_reducible exact Ab.refl _ | with_reducible assumption | with_reducible refine Ab.drew ?_ | with_reducible refine Ab.drewN ?_ _ | with_reducible refine Ab.alloc ?_ _ | with_reducible refine Ab.trans ?_ (by assumption) | with_reducible refine Ab.set ?_ (by first | (simp; done) | omega | (simp; omega)) _))) hca hcb (by omega) (by omega) C k c (xs.take k) (hxt.ab (by repeat (first | with_reducible exact Ab.refl _ | with_reducible assumption | with_reducible refine Ab.drew ?_ | with_reducible refine Ab.drewN ?_ _ | with_reducible refine Ab.alloc ?_ _ | with_reducible refine Ab.trans ?_ (by assumption) | with_reducible refine Ab.set ?_ (by first | (simp; done) | omega | (simp; omega)) _))) (by omega) hd2).mono ?_
          rintro e w2 ⟨r', n', er, D', E', cd', ce', hr', rfl, p1, p2, hb2⟩
          (try (refine bring (p := Ab (w5.alloc (.cells #[.slice none 0 0, .slice none 0 0, .int .i64 0, .bool false] 26)) w2) ?_ (fun hzz => ?_)
                · ((repeat (first | with_reducible exact Ab.refl _ | with_reducible assumption | with_reducible refine Ab.drew ?_ | with_reducible refine Ab.drewN ?_ _ | with_reducible refine Ab.alloc ?_ _ | with_reducible refine Ab.trans ?_ (by assumption) | with_reducible refine Ab.set ?_ (by first | (simp; done) | omega | (simp; omega)) _)); done)
                have vq0 := hzz.at (p := ⟨w5.heap.size, 0, none⟩) (v := .slice none 0 0) (by simp [go_sem]); have vq1 := hzz.at (p := ⟨w5.heap.size, 1, none⟩) (v := .slice none 0 0) (by simp [go_sem]); have vq2 := hzz.at (p := ⟨w5.heap.size, 2, none⟩) (v := .int .i64 0) (by simp [go_sem]); have vq3 := hzz.at (p := ⟨w5.heap.size, 3, none⟩) (v := .bool false) (by simp [go_sem])
                have vr0 : w2.frozen? ⟨w5.heap.size, 0, none⟩ = false := (hzz.frozen (p := ⟨w5.heap.size, 0, none⟩) (by simp)).trans (by simp [go_sem]); have vr1 : w2.frozen? ⟨w5.heap.size, 1, none⟩ = false := (hzz.frozen (p := ⟨w5.heap.size, 1, none⟩) (by simp)).trans (by simp [go_sem]); have vr2 : w2.frozen? ⟨w5.heap.size, 2, none⟩ = false := (hzz.frozen (p := ⟨w5.heap.size, 2, none⟩) (by simp)).trans (by simp [go_sem]); have vr3 : w2.frozen? ⟨w5.heap.size, 3, none⟩ = false := (hzz.frozen (p := ⟨w5.heap.size, 3, none⟩) (by simp)).trans (by simp [go_sem])))))
      all_goals (go_wp2_with fail; go_meet)
      · have p1 : OR 5 w5.heap.size w2 D' cd' r'.s := OR.mono p1 (by first | (simp; done) | omega | (simp; omega))
        have p2 : OR 5 w5.heap.size w2 E' ce' r'.t := OR.mono p2 (by first | (simp; done) | omega | (simp; omega))
        exact ⟨r', n', er, _, D', E', cd', ce', hr', rfl, rfl, rfl, ⟨(by simp [go_sem, *]), (by simp [go_sem, *]), (by simp [go_sem, *]), (by simp [go_sem, *])⟩, RB.zero (OR.rb (c := cd') (show OR 5 w5.heap.size _ D' cd' r'.s from (by (repeat (first | with_reducible exact OR.none_ | with_reducible assumption | with_reducible refine OR.drew ?_ | with_reducible refine OR.drewN ?_ _ | with_reducible refine OR.alloc ?_ _ | (with_reducible refine OR.setNew ?_ _ ?_ _; rotate_left; focus (first | (simp; done) | omega | (simp; omega))) | with_reducible refine OR.set ?_ (by first | (simp; done) | omega | (simp; omega)) _ | (with_reducible refine OR.keep ?_ (by assumption))))))), RB.zero (OR.rb (c := ce') (show OR 5 w5.heap.size _ E' ce' r'.t from (by (repeat (first | with_reducible exact OR.none_ | with_reducible assumption | with_reducible refine OR.drew ?_ | with_reducible refine OR.drewN ?_ _ | with_reducible refine OR.alloc ?_ _ | (with_reducible refine OR.setNew ?_ _ ?_ _; rotate_left; focus (first | (simp; done) | omega | (simp; omega))) | with_reducible refine OR.set ?_ (by first | (simp; done) | omega | (simp; omega)) _ | (with_reducible refine OR.keep ?_ (by assumption))))))), p1.le, p2.le, (by repeat (first | with_reducible exact Ab.refl _ | with_reducible assumption | with_reducible refine Ab.drew ?_ | with_reducible refine Ab.drewN ?_ _ | with_reducible refine Ab.alloc ?_ _ | with_reducible refine Ab.trans ?_ (by assumption) | with_reducible refine Ab.set ?_ (by first | (simp; done) | omega | (simp; omega)) _))⟩
      · have p1 : OR 5 (w5.heap.size + 1) w2 D' cd' r'.s := OR.mono p1 (by first | (simp; done) | omega | (simp; omega))
        have p2 : OR 5 (w5.heap.size + 1) w2 E' ce' r'.t := OR.mono p2 (by first | (simp; done) | omega | (simp; omega))
        exact ⟨r', n', er, _, D', E', cd', ce', hr', rfl, rfl, rfl, ⟨(by simp [go_sem, *]), (by simp [go_sem, *]), (by simp [go_sem, *]), (by simp [go_sem, *])⟩, RB.zero (OR.rb (c := cd') (show OR 5 (w5.heap.size + 1) _ D' cd' r'.s from (by (repeat (first | with_reducible exact OR.none_ | with_reducible assumption | with_reducible refine OR.drew ?_ | with_reducible refine OR.drewN ?_ _ | with_reducible refine OR.alloc ?_ _ | (with_reducible refine OR.setNew ?_ _ ?_ _; rotate_left; focus (first | (simp; done) | omega | (simp; omega))) | with_reducible refine OR.set ?_ (by first | (simp; done) | omega | (simp; omega)) _ | (with_reducible refine OR.keep ?_ (by assumption))))))), RB.zero (OR.rb (c := ce') (show OR 5 (w5.heap.size + 1) _ E' ce' r'.t from (by (repeat (first | with_reducible exact OR.none_ | with_reducible assumption | with_reducible refine OR.drew ?_ | with_reducible refine OR.drewN ?_ _ | with_reducible refine OR.alloc ?_ _ | (with_reducible refine OR.setNew ?_ _ ?_ _; rotate_left; focus (first | (simp; done) | omega | (simp; omega))) | with_reducible refine OR.set ?_ (by first | (simp; done) | omega | (simp; omega)) _ | (with_reducible refine OR.keep ?_ (by assumption))))))), p1.le, p2.le, (by repeat (first | with_reducible exact Ab.refl _ | with_reducible assumption | with_reducible refine Ab.drew ?_ | with_reducible refine Ab.drewN ?_ _ | with_reducible refine Ab.alloc ?_ _ | with_reducible refine Ab.trans ?_ (by assumption) | with_reducible refine Ab.set ?_ (by first | (simp; done) | omega | (simp; omega)) _))⟩
    case rest =>
      obtain ⟨r6, n6, f6, g6, D6, E6, cd6, ce6, h6, rfl, rfl, rfl, ⟨c0, c1, c2, c3⟩, p6, q6, l6, l6', hb6⟩ := hcut
      have x0 := hb6.at u0; have x1 := hb6.at u1; have x2 := hb6.at u2; have x3 := hb6.at u3
      have hn60 : n ≤ 200 := by omega
      have HR := Lib.hid (show Disk.run ⟨s, t, cap, dn⟩ (xs.map OpM.op) = steps ⟨s, t, cap, dn⟩ 0 (xs.map OpM.op) from run_ok HB.out (by simp; rw [HX.out]; omega))
      have HRt := Lib.hid (show Disk.run ⟨s, t, cap, dn⟩ ((xs.take k).map OpM.op) = steps ⟨s, t, cap, dn⟩ 0 ((xs.take k).map OpM.op) from run_ok HB.out (by simp; rw [HX.out]; omega))
      obtain ⟨xl1, xl2⟩ : r6.s.length ≤ 20000 ∧ r6.t.length ≤ 20000 := by
        have := congrArg Prod.fst h6.out
        simp only at this; rw [this]; exact run_len _ _
      obtain ⟨yl1, yl2⟩ : r4.s.length ≤ 20000 ∧ r4.t.length ≤ 20000 := by
        have := congrArg Prod.fst h4.out
        simp only at this; rw [this]; exact run_len _ _
      have HSP := Lib.hid (show steps ⟨s, t, cap, dn⟩ 0 (xs.map OpM.op) = if (steps ⟨s, t, cap, dn⟩ 0 ((xs.take k).map OpM.op)).2.2 ≠ 0 then steps ⟨s, t, cap, dn⟩ 0 ((xs.take k).map OpM.op) else steps (steps ⟨s, t, cap, dn⟩ 0 ((xs.take k).map OpM.op)).1 (0 + ((xs.take k).map OpM.op).length) ((xs.drop k).map OpM.op) by
        rw [← steps_append, ← List.map_append, List.take_append_drop])
      by_cases hf : f6 = 0
      · obtain rfl : f6 = 0 := hf
        have hst : steps ⟨s, t, cap, dn⟩ 0 ((xs.take k).map OpM.op) = (r6, n6, 0) := by rw [← HRt.out, ← h6.out]
        have hlk : ((xs.take k).map OpM.op).length = k := by simp; rw [HX.out]; omega
        have hn6 : n6 = (k : Int) := by
          have := steps_all (d := ⟨s, t, cap, dn⟩) 0 ((xs.take k).map OpM.op) (by rw [hst])
          rw [hst, hlk] at this; simp only at this; omega
        subst hn6
        have hb6' : ¬ bad r6 := by have := steps_valid 0 ((xs.take k).map OpM.op) HB.out; rw [hst] at this; exact this
        have HRd := Lib.hid (show Disk.run r6 ((xs.drop k).map OpM.op) = steps r6 0 ((xs.drop k).map OpM.op) from run_ok hb6' (by simp; rw [HX.out]; omega))
        have HALL := Lib.hid (show (r4, n4, f4) = ((Disk.run r6 ((xs.drop k).map OpM.op)).1, (Disk.run r6 ((xs.drop k).map OpM.op)).2.1 + (k : Int), (Disk.run r6 ((xs.drop k).map OpM.op)).2.2) by
          rw [h4.out, HR.out, HSP.out, hst, if_neg (by simp), hlk, HRd.out, steps_shift])
        have HN4 := Lib.hid (show check r4 = 0 by
          have := congrArg Prod.fst h4.out
          simp only at this; rw [this, HR.out]; exact check_ok (steps_valid 0 _ HB.out))
        clear hst hlk h4 h6 hb6'
        have hsl := fun a len cap w => run_cutO k .i64 a len cap w
        have hxd := ops_drop hx k hnc
        have hd3 : ∀ o ∈ xs.drop k, o.b.length ≤ 3000 := fun o ho => hd o (List.mem_of_mem_drop ho)
        have z6 := cell_lt c0; simp at z6
        go_wp2_with fail
        go_upto_region 8 with fail
        go_cut [13, 14, 15] (fun s10 s11 s12 wx => PartRel wc (Disk.run r6 ((xs.drop k).map OpM.op)) s10 s11 s12 wx)
        case first =>
          go_region_held3 (fun w' => w'.cell? ⟨g6, 0, none⟩ = some (.slice D6 r6.s.length cd6) ∧ w'.cell? ⟨g6, 1, none⟩ = some (.slice E6 r6.t.length ce6) ∧ w'.cell? ⟨g6, 2, none⟩ = some (.int .i64 r6.cap) ∧ w'.cell? ⟨g6, 3, none⟩ = some (.bool r6.down))
            ((refine ⟨?_, ?_, ?_, ?_⟩ <;> (repeat (first | with_reducible assumption | (simp [go_sem]; done) | with_reducible apply cell_alloc | with_reducible apply cell_drew | with_reducible apply cell_drewN | (with_reducible apply Ab.at; with_reducible assumption) | (with_reducible refine cell_set ?_ ?_; rotate_left; focus (first | (simp; done) | (simp; omega))) | (with_reducible refine cell_setb ?_ ?_; rotate_left; focus (first | omega | (simp only; omega) | (simp; omega)))))))
            ((go_at_call 22
              refine (run_any D6 E6 cd6 ce6 r6.s r6.t r6.cap r6.down _ (RB.ab p6 (by repeat (first | with_reducible exact Ab.refl _ | with_reducible assumption | with_reducible refine Ab.drew ?_ | with_reducible refine Ab.drewN ?_ _ | with_reducible refine Ab.alloc ?_ _ | with_reducible refine Ab.trans ?_ (by assumption) | with_reducible refine Ab.set ?_ (by first | (simp; done) | omega | (simp; omega)) _))) (RB.ab q6 (by repeat (first | with_reducible exact Ab.refl _ | with_reducible assumption | with_reducible refine Ab.drew ?_ | with_reducible refine Ab.drewN ?_ _ | with_reducible refine Ab.alloc ?_ _ | with_reducible refine Ab.trans ?_ (by assumption) | with_reducible refine Ab.set ?_ (by first | (simp; done) | omega | (simp; omega)) _))) l6 l6' (by omega) (by omega) (cutO C c k) (n - k) (c - k) (xs.drop k) (hxd.ab (by repeat (first | with_reducible exact Ab.refl _ | with_reducible assumption | with_reducible refine Ab.drew ?_ | with_reducible refine Ab.drewN ?_ _ | with_reducible refine Ab.alloc ?_ _ | with_reducible refine Ab.trans ?_ (by assumption) | with_reducible refine Ab.set ?_ (by first | (simp; done) | omega | (simp; omega)) _))) (by omega) hd3).mono ?_
              rintro e w2 ⟨r', n', er, D', E', cd', ce', hr', rfl, p1, p2, hb2⟩
              (try (refine bring (p := Ab (wc.alloc (.cells #[.slice none 0 0, .slice none 0 0, .int .i64 0, .bool false] 26)) w2) ?_ (fun hzz => ?_)
                    · ((repeat (first | with_reducible exact Ab.refl _ | with_reducible assumption | with_reducible refine Ab.drew ?_ | with_reducible refine Ab.drewN ?_ _ | with_reducible refine Ab.alloc ?_ _ | with_reducible refine Ab.trans ?_ (by assumption) | with_reducible refine Ab.set ?_ (by first | (simp; done) | omega | (simp; omega)) _)); done)
                    have vq0 := hzz.at (p := ⟨wc.heap.size, 0, none⟩) (v := .slice none 0 0) (by simp [go_sem]); have vq1 := hzz.at (p := ⟨wc.heap.size, 1, none⟩) (v := .slice none 0 0) (by simp [go_sem]); have vq2 := hzz.at (p := ⟨wc.heap.size, 2, none⟩) (v := .int .i64 0) (by simp [go_sem]); have vq3 := hzz.at (p := ⟨wc.heap.size, 3, none⟩) (v := .bool false) (by simp [go_sem])
                    have vr0 : w2.frozen? ⟨wc.heap.size, 0, none⟩ = false := (hzz.frozen (p := ⟨wc.heap.size, 0, none⟩) (by simp)).trans (by simp [go_sem]); have vr1 : w2.frozen? ⟨wc.heap.size, 1, none⟩ = false := (hzz.frozen (p := ⟨wc.heap.size, 1, none⟩) (by simp)).trans (by simp [go_sem]); have vr2 : w2.frozen? ⟨wc.heap.size, 2, none⟩ = false := (hzz.frozen (p := ⟨wc.heap.size, 2, none⟩) (by simp)).trans (by simp [go_sem]); have vr3 : w2.frozen? ⟨wc.heap.size, 3, none⟩ = false := (hzz.frozen (p := ⟨wc.heap.size, 3, none⟩) (by simp)).trans (by simp [go_sem])))))
          all_goals (go_wp2_with fail; go_meet)
          · have p1 : OR 5 wc.heap.size w2 D' cd' r'.s := OR.mono p1 (by first | (simp; done) | omega | (simp; omega))
            have p2 : OR 5 wc.heap.size w2 E' ce' r'.t := OR.mono p2 (by first | (simp; done) | omega | (simp; omega))
            exact ⟨r', n', er, _, D', E', cd', ce', hr', rfl, rfl, rfl, ⟨(by simp [go_sem, *]), (by simp [go_sem, *]), (by simp [go_sem, *]), (by simp [go_sem, *])⟩, RB.zero (OR.rb (c := cd') (show OR 5 wc.heap.size _ D' cd' r'.s from (by (repeat (first | with_reducible exact OR.none_ | with_reducible assumption | with_reducible refine OR.drew ?_ | with_reducible refine OR.drewN ?_ _ | with_reducible refine OR.alloc ?_ _ | (with_reducible refine OR.setNew ?_ _ ?_ _; rotate_left; focus (first | (simp; done) | omega | (simp; omega))) | with_reducible refine OR.set ?_ (by first | (simp; done) | omega | (simp; omega)) _ | (with_reducible refine OR.keep ?_ (by assumption))))))), RB.zero (OR.rb (c := ce') (show OR 5 wc.heap.size _ E' ce' r'.t from (by (repeat (first | with_reducible exact OR.none_ | with_reducible assumption | with_reducible refine OR.drew ?_ | with_reducible refine OR.drewN ?_ _ | with_reducible refine OR.alloc ?_ _ | (with_reducible refine OR.setNew ?_ _ ?_ _; rotate_left; focus (first | (simp; done) | omega | (simp; omega))) | with_reducible refine OR.set ?_ (by first | (simp; done) | omega | (simp; omega)) _ | (with_reducible refine OR.keep ?_ (by assumption))))))), p1.le, p2.le, (by repeat (first | with_reducible exact Ab.refl _ | with_reducible assumption | with_reducible refine Ab.drew ?_ | with_reducible refine Ab.drewN ?_ _ | with_reducible refine Ab.alloc ?_ _ | with_reducible refine Ab.trans ?_ (by assumption) | with_reducible refine Ab.set ?_ (by first | (simp; done) | omega | (simp; omega)) _))⟩
          · have p1 : OR 5 (wc.heap.size + 1) w2 D' cd' r'.s := OR.mono p1 (by first | (simp; done) | omega | (simp; omega))
            have p2 : OR 5 (wc.heap.size + 1) w2 E' ce' r'.t := OR.mono p2 (by first | (simp; done) | omega | (simp; omega))
            exact ⟨r', n', er, _, D', E', cd', ce', hr', rfl, rfl, rfl, ⟨(by simp [go_sem, *]), (by simp [go_sem, *]), (by simp [go_sem, *]), (by simp [go_sem, *])⟩, RB.zero (OR.rb (c := cd') (show OR 5 (wc.heap.size + 1) _ D' cd' r'.s from (by (repeat (first | with_reducible exact OR.none_ | with_reducible assumption | with_reducible refine OR.drew ?_ | with_reducible refine OR.drewN ?_ _ | with_reducible refine OR.alloc ?_ _ | (with_reducible refine OR.setNew ?_ _ ?_ _; rotate_left; focus (first | (simp; done) | omega | (simp; omega))) | with_reducible refine OR.set ?_ (by first | (simp; done) | omega | (simp; omega)) _ | (with_reducible refine OR.keep ?_ (by assumption))))))), RB.zero (OR.rb (c := ce') (show OR 5 (wc.heap.size + 1) _ E' ce' r'.t from (by (repeat (first | with_reducible exact OR.none_ | with_reducible assumption | with_reducible refine OR.drew ?_ | with_reducible refine OR.drewN ?_ _ | with_reducible refine OR.alloc ?_ _ | (with_reducible refine OR.setNew ?_ _ ?_ _; rotate_left; focus (first | (simp; done) | omega | (simp; omega))) | with_reducible refine OR.set ?_ (by first | (simp; done) | omega | (simp; omega)) _ | (with_reducible refine OR.keep ?_ (by assumption))))))), p1.le, p2.le, (by repeat (first | with_reducible exact Ab.refl _ | with_reducible assumption | with_reducible refine Ab.drew ?_ | with_reducible refine Ab.drewN ?_ _ | with_reducible refine Ab.alloc ?_ _ | with_reducible refine Ab.trans ?_ (by assumption) | with_reducible refine Ab.set ?_ (by first | (simp; done) | omega | (simp; omega)) _))⟩
        case rest =>
          rename_i wc' _
          obtain ⟨r7, n7, f7, g7, D7, E7, cd7, ce7, h7, rfl, rfl, rfl, ⟨j0, j1, j2, j3⟩, p7, q7, l7, l7', hb7⟩ := hcut
          have hH := HALL.out
          rw [← h7.out] at hH
          obtain ⟨rfl, hH2⟩ := Prod.mk.inj hH
          obtain ⟨hN, rfl⟩ := Prod.mk.inj hH2
          have hnum := steps_num (d := r6) 0 ((xs.drop k).map OpM.op)
          rw [← HRd.out, ← h7.out] at hnum
          simp only [List.length_map, List.length_drop] at hnum
          have hnx := HX.out
          have hn70 : 0 ≤ n7 := by omega
          have hn71 : n7 ≤ 60 := by omega
          simp only at hN
          obtain rfl : n4 = (k : Int) + n7 := by omega
          clear hH hH2 hnum hnx hN HALL h7 HRd HSP HRt HR
          have x0 := hb7.at x0; have x1 := hb7.at x1; have x2 := hb7.at x2; have x3 := hb7.at x3
          go_wp2_with fail
          refine (same_true D4 E4 D7 E7 cd4 ce4 cd7 ce7 r4.s r4.t r4.cap r4.down _ (RB.ab p4.rb.zero (by repeat (first | with_reducible exact Ab.refl _ | with_reducible assumption | with_reducible refine Ab.drew ?_ | with_reducible refine Ab.drewN ?_ _ | with_reducible refine Ab.alloc ?_ _ | with_reducible refine Ab.trans ?_ (by assumption) | with_reducible refine Ab.set ?_ (by first | (simp; done) | omega | (simp; omega)) _))) (RB.ab q4.rb.zero (by repeat (first | with_reducible exact Ab.refl _ | with_reducible assumption | with_reducible refine Ab.drew ?_ | with_reducible refine Ab.drewN ?_ _ | with_reducible refine Ab.alloc ?_ _ | with_reducible refine Ab.trans ?_ (by assumption) | with_reducible refine Ab.set ?_ (by first | (simp; done) | omega | (simp; omega)) _))) (RB.ab p7 (by repeat (first | with_reducible exact Ab.refl _ | with_reducible assumption | with_reducible refine Ab.drew ?_ | with_reducible refine Ab.drewN ?_ _ | with_reducible refine Ab.alloc ?_ _ | with_reducible refine Ab.trans ?_ (by assumption) | with_reducible refine Ab.set ?_ (by first | (simp; done) | omega | (simp; omega)) _))) (RB.ab q7 (by repeat (first | with_reducible exact Ab.refl _ | with_reducible assumption | with_reducible refine Ab.drew ?_ | with_reducible refine Ab.drewN ?_ _ | with_reducible refine Ab.alloc ?_ _ | with_reducible refine Ab.trans ?_ (by assumption) | with_reducible refine Ab.set ?_ (by first | (simp; done) | omega | (simp; omega)) _))) (by omega) (by omega)).mono ?_
          rintro e w8 ⟨rfl, hb8⟩
          have x0 := hb8.at x0; have x1 := hb8.at x1; have x2 := hb8.at x2; have x3 := hb8.at x3
          go_wp2_with fail
          refine (refCheck_any D4 E4 cd4 ce4 r4.s r4.t r4.cap r4.down _ (by omega) (by omega)).mono ?_
          rintro e w10 ⟨r10, hr10, rfl, hb10⟩
          obtain rfl : r10 = 0 := hr10.out.trans HN4.out
          go_wp2_with fail
          refine (alive_true _).mono ?_
          rintro e w9 ⟨rfl, hw9⟩
          go_wp2
          go_ret
          exact ⟨rfl, (by repeat (first | with_reducible exact Ab.refl _ | with_reducible assumption | with_reducible refine Ab.drew ?_ | with_reducible refine Ab.drewN ?_ _ | with_reducible refine Ab.alloc ?_ _ | with_reducible refine Ab.trans ?_ (by assumption) | with_reducible refine Ab.set ?_ (by first | (simp; done) | omega | (simp; omega)) _))⟩
      · have HE := Lib.hid (show (r4, n4, f4) = (r6, n6, f6) by
          rw [h4.out, HR.out, HSP.out, ← HRt.out, ← h6.out, if_pos hf])
        obtain ⟨rfl, he2⟩ := Prod.mk.inj HE.out
        obtain ⟨rfl, rfl⟩ := Prod.mk.inj he2
        clear he2 HE h4 h6
        have hne : (f4 != 0) = true := by simpa using hf
        clear hf
        go_wp2_with fail
        refine (same_true D4 E4 D6 E6 cd4 ce4 cd6 ce6 r4.s r4.t r4.cap r4.down _ (RB.ab p4.rb.zero (by repeat (first | with_reducible exact Ab.refl _ | with_reducible assumption | with_reducible refine Ab.drew ?_ | with_reducible refine Ab.drewN ?_ _ | with_reducible refine Ab.alloc ?_ _ | with_reducible refine Ab.trans ?_ (by assumption) | with_reducible refine Ab.set ?_ (by first | (simp; done) | omega | (simp; omega)) _))) (RB.ab q4.rb.zero (by repeat (first | with_reducible exact Ab.refl _ | with_reducible assumption | with_reducible refine Ab.drew ?_ | with_reducible refine Ab.drewN ?_ _ | with_reducible refine Ab.alloc ?_ _ | with_reducible refine Ab.trans ?_ (by assumption) | with_reducible refine Ab.set ?_ (by first | (simp; done) | omega | (simp; omega)) _))) (RB.ab p6 (by repeat (first | with_reducible exact Ab.refl _ | with_reducible assumption | with_reducible refine Ab.drew ?_ | with_reducible refine Ab.drewN ?_ _ | with_reducible refine Ab.alloc ?_ _ | with_reducible refine Ab.trans ?_ (by assumption) | with_reducible refine Ab.set ?_ (by first | (simp; done) | omega | (simp; omega)) _))) (RB.ab q6 (by repeat (first | with_reducible exact Ab.refl _ | with_reducible assumption | with_reducible refine Ab.drew ?_ | with_reducible refine Ab.drewN ?_ _ | with_reducible refine Ab.alloc ?_ _ | with_reducible refine Ab.trans ?_ (by assumption) | with_reducible refine Ab.set ?_ (by first | (simp; done) | omega | (simp; omega)) _))) (by omega) (by omega)).mono ?_
        rintro e w7 ⟨rfl, hb7⟩
        go_wp2_with fail
        refine (alive_true _).mono ?_
        rintro e w9 ⟨rfl, hw9⟩
        go_wp2
        go_ret
        exact ⟨rfl, (by repeat (first | with_reducible exact Ab.refl _ | with_reducible assumption | with_reducible refine Ab.drew ?_ | with_reducible refine Ab.drewN ?_ _ | with_reducible refine Ab.alloc ?_ _ | with_reducible refine Ab.trans ?_ (by assumption) | with_reducible refine Ab.set ?_ (by first | (simp; done) | omega | (simp; omega)) _))⟩
end Go.Proofs.Ytkcbdkdlghpkhaa
