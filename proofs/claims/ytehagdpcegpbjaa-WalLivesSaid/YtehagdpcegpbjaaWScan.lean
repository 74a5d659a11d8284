/- endOf, behind and scan of package wal, walked. Own work. -/
import Derived.Test.YtehagdpcegpbjaaWEnt
import Derived.Test.YtehagdpcegpbjaaGD
import Derived.Test.YtehagdpcegpbjaaGB
import Derived.Test.YtehagdpcegpbjaaGE
set_option linter.unusedVariables false
set_option linter.unusedSimpArgs false
namespace Go.Proofs.Ytehagdpcegpbjaa
open Go.RowKit

theorem endOf_nil (A : Option Addr) (c : Nat) (w : World) : Calls Try.prog 44 #[.slice A 0 c] w fun e w' => e = .returned (.int .i64 0) ∧ w = w' := by
  go_enter Try.func44, Try.ntmps44
  go_wp2
  go_ret
  exact ⟨rfl, rfl⟩
theorem endOf_some (A : Option Addr) (c k : Nat) (ys : List EntM) (w : World) (hk : k < ys.length) (h : Ents w 0 A ys) (hn : ys.length ≤ 1000000) :
    Calls Try.prog 44 #[.slice A (k + 1) c] w fun e w' => e = .returned (.int .i64 (ys[k].e : Int)) ∧ w = w' := by
  obtain ⟨a, rfl, _, c0, c1, c2, _⟩ := h.at_ hk
  have hk1 : k ≤ 1000000 := by omega
  generalize ys[k] = y at *
  clear c0 c1 h
  have hi0 : (0 : Int) ≤ (k : Int) := by omega
  have hi1 : (k : Int) < (k : Int) + 1 := by omega
  go_enter Try.func44, Try.ntmps44
  go_wp2
  go_ret
  exact ⟨rfl, rfl⟩
theorem behind_some (A : Option Addr) (c k : Nat) (ys : List EntM) (w : World) (hk : k < ys.length) (h : Ents w 0 A ys) (hn : ys.length ≤ 1000000) (h0 : 0 ≤ ys[k].x.num) (h1 : ys[k].x.num ≤ 1000000000) :
    Calls Try.prog 42 #[.slice A (k + 1) c] w fun e w' => e = .returned (.int .i64 (ys[k].x.num + 1)) ∧ w = w' := by
  obtain ⟨a, rfl, _, c0, c1, c2, _⟩ := h.at_ hk
  have hk1 : k ≤ 1000000 := by omega
  generalize ys[k] = y at *
  clear c2 c1 h
  have hi0 : (0 : Int) ≤ (k : Int) := by omega
  have hi1 : (k : Int) < (k : Int) + 1 := by omega
  go_enter Try.func42, Try.ntmps42
  go_wp2
  go_ret
  exact ⟨rfl, rfl⟩

/-- Where the entries end. -/
theorem endOf_any (A : Option Addr) (c u : Nat) (ys : List EntM) (w : World) (h : Ents w 0 A ys) (hE : Ends ys) (hn : ys.length ≤ 1000000) (hu : u = (Frame.all (erecs ys)).length) :
    Calls Try.prog 44 #[.slice A ys.length c] w fun e w' => e = .returned (.int .i64 (u : Int)) ∧ w = w' := by
  rcases Nat.eq_zero_or_pos ys.length with h0 | h0
  · have : ys = [] := List.eq_nil_of_length_eq_zero h0
    subst this
    obtain rfl : u = 0 := hu
    exact endOf_nil A c w
  · obtain ⟨k, hk⟩ : ∃ k, ys.length = k + 1 := ⟨ys.length - 1, by omega⟩
    have he := hE k (by omega)
    rw [List.take_of_length_le (by rw [erecs_length]; omega), ← hu] at he
    have := endOf_some A c k ys w (by omega) h hn
    rw [he] at this
    rw [hk]
    exact this
theorem behind_any (A : Option Addr) (c : Nat) (ys : List EntM) (n : Int) (w : World) (h : Ents w 0 A ys) (hF : Frame.Foll (erecs ys)) (h0 : 0 < ys.length) (hn : ys.length ≤ 1000000) (hm : n = Wal.base (erecs ys) + ys.length) :
    Calls Try.prog 42 #[.slice A ys.length c] w fun e w' => e = .returned (.int .i64 n) ∧ w = w' := by
  obtain ⟨k, hk⟩ : ∃ k, ys.length = k + 1 := ⟨ys.length - 1, by omega⟩
  have hv := (hF k (by rw [erecs_length]; omega)).1
  have hb := Wal.num_at hF k (by rw [erecs_length]; omega)
  rw [erecs_get ys k (by omega)] at hv hb
  have := behind_some A c k ys w (by omega) h hn hv.1 hv.2.1
  have e : ys[k].x.num + 1 = n := by
    have hb' : ys[k].x.num = Wal.base (erecs ys) + k := hb
    omega
  rw [e] at this
  rw [hk]
  exact this
theorem first_num (A : Option Addr) (lo : Nat) (ys : List EntM) (w : World) (h : Ents w lo A ys) (hF : Frame.Foll (erecs ys)) (h0 : 0 < ys.length) : ∃ a, A = some a ∧ w.cell? (a.add (0 * 3)) = some (.int .i64 (Wal.base (erecs ys))) := by
  obtain ⟨a, ha, _, c0, _⟩ := h.at_ h0
  have hb := Wal.num_at hF 0 (by rw [erecs_length]; omega)
  rw [erecs_get ys 0 h0] at hb
  refine ⟨a, ha, ?_⟩
  have hb' : ys[0].x.num = Wal.base (erecs ys) := by rw [show ys[0].x.num = Wal.base (erecs ys) + ((0 : Nat) : Int) from hb]; simp
  rw [← hb']
  exact c0

def ScanP (b : List UInt8) (w : World) (e : Ending) (w' : World) : Prop :=
  ∃ (E : Option Addr) (d : Nat) (ys : List EntM) (u : Nat), Hid (Frame.IsScan b (erecs ys) u) ∧ Hid (Ends ys) ∧ e = .returned (.slice E ys.length d) ∧ Ents w' w.heap.size E ys ∧ ys.length ≤ d ∧ Ab w w'

/-- How far the loop of scan has come. -/
def ScanRel (b : List UInt8) (xs : List RecM) (w3 w : World) (f i : Value) (wr : World) : Prop :=
  ∃ (k : Nat) (E : Option Addr) (d : Nat) (ys : List EntM), k ≤ xs.length ∧ i = .int .i64 (k : Int) ∧ f = .slice E ys.length d ∧ Hid (xsOf ys = xs.take k) ∧ Hid (Ends ys) ∧ ys.length ≤ 20000 ∧ OwnE w3.heap.size wr E d ys ∧ Ab w3 wr
theorem scan_next {b : List UInt8} {xs : List RecM} {ys : List EntM} {k u : Nat} (hs : Frame.IsScan b (recs xs) u) (hx : xsOf ys = xs.take k) (hk : k < xs.length) (hb : b.length ≤ 20000) :
    (Frame.all (erecs ys)).length + (12 + xs[k].b.length) ≤ 20000 ∧ ys.length = k := by
  have h1 : erecs ys = (recs xs).take k := by unfold erecs; rw [hx, recs_take]
  have h2 := Wal.take_step (recs xs) k (by rw [recs_length]; exact hk)
  have h3 := Wal.take_le (recs xs) (k + 1)
  have h4 := hs.2.2.1.length_le
  rw [recs_get xs k hk] at h2
  have h5 : xs[k].r.data.length = xs[k].b.length := rfl
  refine ⟨by rw [h1]; omega, ?_⟩
  have := congrArg List.length hx
  simp [xsOf] at this
  omega

set_option maxHeartbeats 3200000 in
set_option maxRecDepth 100000 in
theorem wscan_any (A B : Option Addr) (ca cb : Nat) (s t : List UInt8) (cap : Int) (w : World) (hs : RB w 0 A s) (ht : RB w 0 B t) (hca : s.length ≤ ca) (hcb : t.length ≤ cb) (hu : Disk.up ⟨s, t, cap, false⟩ = 0) :
    Calls Try.prog 41 #[.agg #[.slice A s.length ca, .slice B t.length cb, .int .i64 cap, .bool false]] w (ScanP (s ++ t) w) := by
  have hnb := (Disk.up_zero hu).1
  have hsz := Disk.size_le hnb
  simp only [Disk.Dev.size] at hsz
  obtain ⟨N, hN⟩ : ∃ N : Nat, s.length + t.length = N := ⟨_, rfl⟩
  have hN1 := Nat.le_of_eq hN
  have hN2 := Nat.le_of_eq hN.symm
  have ls : s.length ≤ 20000 := by omega
  have lt : t.length ≤ 20000 := by omega
  have hN3 : N ≤ 20000 := by omega
  have HS := Lib.hid (show Disk.size ⟨s, t, cap, false⟩ = ((N : Int), 0) by rw [← hN]; exact if_neg hnb)
  have HR := Lib.hid (show Disk.read ⟨s, t, cap, false⟩ 0 (N : Int) = (s ++ t, 0) by
    unfold Disk.read
    rw [if_neg (by simpa using hu), if_neg (by simp only [Disk.Dev.size]; omega)]
    simp only [Disk.Dev.all, Int.toNat_zero, List.drop_zero, Int.toNat_natCast]
    rw [List.take_of_length_le (by simp; omega)])
  clear hnb hsz hN hu
  go_enter Try.func41, Try.ntmps41
  go_wp2_with fail
  refine (size_any A B ca cb s t cap false _ (by omega) (by omega)).mono ?_
  rintro e w1 ⟨r, er, hr, rfl, hb1⟩
  obtain ⟨rfl, rfl⟩ := Prod.mk.inj (hr.out.trans HS.out)
  clear hr
  have bq0 := hb1.at (p := ⟨w.heap.size, 0, none⟩) (v := .slice A s.length ca) (by (repeat (first | with_reducible assumption | (simp [go_sem]; done) | with_reducible apply cell_alloc | with_reducible apply cell_drew | with_reducible apply cell_drewN | (with_reducible apply Ab.at; with_reducible assumption) | (with_reducible refine cell_set ?_ ?_; rotate_left; focus (first | (simp; done) | (simp; omega))) | (with_reducible refine cell_setb ?_ ?_; rotate_left; focus (first | omega | (simp only; omega) | (simp; omega)))))); have bq1 := hb1.at (p := ⟨w.heap.size, 1, none⟩) (v := .slice B t.length cb) (by (repeat (first | with_reducible assumption | (simp [go_sem]; done) | with_reducible apply cell_alloc | with_reducible apply cell_drew | with_reducible apply cell_drewN | (with_reducible apply Ab.at; with_reducible assumption) | (with_reducible refine cell_set ?_ ?_; rotate_left; focus (first | (simp; done) | (simp; omega))) | (with_reducible refine cell_setb ?_ ?_; rotate_left; focus (first | omega | (simp only; omega) | (simp; omega)))))); have bq2 := hb1.at (p := ⟨w.heap.size, 2, none⟩) (v := .int .i64 cap) (by (repeat (first | with_reducible assumption | (simp [go_sem]; done) | with_reducible apply cell_alloc | with_reducible apply cell_drew | with_reducible apply cell_drewN | (with_reducible apply Ab.at; with_reducible assumption) | (with_reducible refine cell_set ?_ ?_; rotate_left; focus (first | (simp; done) | (simp; omega))) | (with_reducible refine cell_setb ?_ ?_; rotate_left; focus (first | omega | (simp only; omega) | (simp; omega)))))); have bq3 := hb1.at (p := ⟨w.heap.size, 3, none⟩) (v := .bool false) (by (repeat (first | with_reducible assumption | (simp [go_sem]; done) | with_reducible apply cell_alloc | with_reducible apply cell_drew | with_reducible apply cell_drewN | (with_reducible apply Ab.at; with_reducible assumption) | (with_reducible refine cell_set ?_ ?_; rotate_left; focus (first | (simp; done) | (simp; omega))) | (with_reducible refine cell_setb ?_ ?_; rotate_left; focus (first | omega | (simp only; omega) | (simp; omega))))))
  go_wp2_with fail
  refine (read_any A B ca cb s t cap false _ (hs.ab (by repeat (first | with_reducible exact Ab.refl _ | with_reducible assumption | with_reducible refine Ab.drew ?_ | with_reducible refine Ab.drewN ?_ _ | with_reducible refine Ab.alloc ?_ _ | with_reducible refine Ab.trans ?_ (by assumption) | with_reducible refine Ab.set ?_ (by first | (simp; done) | omega | (simp; omega)) _))) (ht.ab (by repeat (first | with_reducible exact Ab.refl _ | with_reducible assumption | with_reducible refine Ab.drew ?_ | with_reducible refine Ab.drewN ?_ _ | with_reducible refine Ab.alloc ?_ _ | with_reducible refine Ab.trans ?_ (by assumption) | with_reducible refine Ab.set ?_ (by first | (simp; done) | omega | (simp; omega)) _))) hca hcb (by omega) (by omega) 0 (N : Int) (by omega) (by omega)).mono ?_
  rintro e w2 ⟨b, er, D, cd, hr, rfl, p2, hcd, hb2⟩
  obtain ⟨hb, rfl⟩ := Prod.mk.inj (hr.out.trans HR.out)
  have HB := Lib.hid hb
  have hbl : b.length ≤ 20000 := by rw [hb, List.length_append]; omega
  clear hr hb
  go_wp2_with fail
  refine (scan_any D b cd _ (p2.zero.ab (by repeat (first | with_reducible exact Ab.refl _ | with_reducible assumption | with_reducible refine Ab.drew ?_ | with_reducible refine Ab.drewN ?_ _ | with_reducible refine Ab.alloc ?_ _ | with_reducible refine Ab.trans ?_ (by assumption) | with_reducible refine Ab.set ?_ (by first | (simp; done) | omega | (simp; omega)) _))) hcd (by omega)).mono ?_
  rintro e w3 ⟨X, cx, xs, u, er, hS, rfl, ho, hb3⟩
  have hS' : Hid (er = 0 ∧ ∃ n : Nat, u = n ∧ Frame.IsScan b (recs xs) n) := Lib.hid (by
    rcases hS.out with ⟨h1, _⟩ | ⟨_, h2, h3⟩
    · omega
    · exact ⟨h2, h3⟩)
  obtain ⟨rfl, un, rfl, hSn⟩ := hS'.out
  have HS2 := Lib.hid hSn
  clear hS hS' hSn
  have hrec := ho.recs
  have z3 := hb3.size
  have b3 : Ab w w3 := (by repeat (first | with_reducible exact Ab.refl _ | with_reducible assumption | with_reducible refine Ab.drew ?_ | with_reducible refine Ab.drewN ?_ _ | with_reducible refine Ab.alloc ?_ _ | with_reducible refine Ab.trans ?_ (by assumption) | with_reducible refine Ab.set ?_ (by first | (simp; done) | omega | (simp; omega)) _))
  have zw := b3.size
  have hxl : xs.length ≤ 20000 := by
    have h1 := HS2.out.2.2.1.length_le
    have h2 := Wal.all_len (recs xs)
    rw [recs_length] at h2
    omega
  have hlo : w.heap.size ≤ w2.heap.size := Ab.size (by repeat (first | with_reducible exact Ab.refl _ | with_reducible assumption | with_reducible refine Ab.drew ?_ | with_reducible refine Ab.drewN ?_ _ | with_reducible refine Ab.alloc ?_ _ | with_reducible refine Ab.trans ?_ (by assumption) | with_reducible refine Ab.set ?_ (by first | (simp; done) | omega | (simp; omega)) _))
  clear ho
  go_wp2_with fail
  go_loopw [10, 34] (fun f i wr => ScanRel b xs w3 w f i wr) (fun _ i _ => xs.length - (intOf i).toNat)
  case atStart => exact ⟨0, none, 0, [], Nat.zero_le _, rfl, rfl, Lib.hid rfl, Lib.hid ends_nil, Nat.zero_le _, OwnE.nil, Ab.refl _⟩
  case round =>
    obtain ⟨k, E, d, ys, hk, rfl, rfl, hX, hE, hyl, hO, hbr⟩ := hrel
    by_cases hlt : k < xs.length
    · obtain ⟨hroom, hyk⟩ := scan_next HS2.out hX.out hlt hbl
      obtain ⟨a, hXa, hal, c0, c1, hL⟩ := (hrec.ab hbr).at_ hlt
      have hval := (HS2.out.1 k (by rw [recs_length]; exact hlt)).1
      rw [recs_get xs k hlt] at hval
      have HV := Lib.hid hval
      have HX2 := Lib.hid (show xs.take (k + 1) = xs.take k ++ [xs[k]] from List.take_succ_eq_append_getElem hlt)
      subst hXa
      generalize xs[k] = x at *
      have hYL : ∀ y ∈ ys, Laid w3 w2.heap.size y.x := fun y hy => by
        have h1 : y.x ∈ xs.take k := by rw [← hX.out]; exact List.mem_map_of_mem hy
        have h2 := List.mem_of_mem_take h1
        obtain ⟨i, hi, he⟩ := List.mem_iff_getElem.1 h2
        obtain ⟨_, _, _, _, _, l⟩ := hrec.at_ hi
        rw [he] at l
        exact l
      have HYL := Lib.hid hYL
      have hyk1 := Nat.le_of_eq hyk
      obtain ⟨v, hv⟩ : ∃ v, (Frame.all (erecs ys)).length = v := ⟨_, rfl⟩
      have HV2 := Lib.hid hv.symm
      rw [hv] at hroom
      have zr := hbr.size
      have hsum : IntKind.i64.wrap ((v : Int) + (12 + (x.b.length : Int))) = ((v + (12 + x.b.length) : Nat) : Int) := by rw [IntWalk.i64_in _ (by omega)]; omega
      have hki : (k : Int) < (xs.length : Int) := by omega
      have hk0 : (0 : Int) ≤ (k : Int) := by omega
      clear hval hYL hyk hv
      go_wp2_with fail
      refine (fsize_any x.num x.A x.b x.c _).mono ?_
      rintro e w4 ⟨n4, er4, h4, rfl, hb4⟩
      obtain ⟨rfl, rfl⟩ := SizeE.unique h4.out (show SizeE ⟨x.num, x.b⟩ (12 + (x.b.length : Int)) 0 from .inl ⟨HV.out, rfl, rfl⟩)
      clear h4
      have hfar : ∀ a, E = some a → a.block ≠ wr.heap.size := fun a ha => by have := (OV.rng hO a ha).2; omega
      have xq0 := hb4.at (p := ⟨wr.heap.size, 0, none⟩) (v := .int .i64 x.num) (by simp [go_sem])
      have xq1 := hb4.at (p := ⟨wr.heap.size, 1, none⟩) (v := .slice x.A x.b.length x.c) (by simp [go_sem])
      have hbx : Ab wr w4 := (by repeat (first | with_reducible exact Ab.refl _ | with_reducible assumption | with_reducible refine Ab.drew ?_ | with_reducible refine Ab.drewN ?_ _ | with_reducible refine Ab.alloc ?_ _ | with_reducible refine Ab.trans ?_ (by assumption) | with_reducible refine Ab.set ?_ (by first | (simp; done) | omega | (simp; omega)) _))
      have hb5 : Ab w3 w4 := hbr.trans hbx
      have hO4 := hO.ab hbx
      have hE4 : Ents w4 w.heap.size E ys := hO4.ents (fun y hy => ((HYL.out y hy).ab hb5).mono hlo) (by omega)
      have z4 := hb4.size
      simp at z4
      clear hb4 hO
      go_wp2_with fail
      refine wp_region_held_drew (by kernel_rfl) (S := fun w' => w'.cell? ⟨wr.heap.size, 0, none⟩ = some (.int .i64 x.num) ∧ w'.cell? ⟨wr.heap.size, 1, none⟩ = some (.slice x.A x.b.length x.c)) ?_ (fun hHeld => ?_)
      · exact ⟨(by (repeat (first | with_reducible assumption | (simp [go_sem]; done) | with_reducible apply cell_alloc | with_reducible apply cell_drew | with_reducible apply cell_drewN | (with_reducible apply Ab.at; with_reducible assumption) | (with_reducible refine cell_set ?_ ?_; rotate_left; focus (first | (simp; done) | (simp; omega))) | (with_reducible refine cell_setb ?_ ?_; rotate_left; focus (first | omega | (simp only; omega) | (simp; omega)))))), (by (repeat (first | with_reducible assumption | (simp [go_sem]; done) | with_reducible apply cell_alloc | with_reducible apply cell_drew | with_reducible apply cell_drewN | (with_reducible apply Ab.at; with_reducible assumption) | (with_reducible refine cell_set ?_ ?_; rotate_left; focus (first | (simp; done) | (simp; omega))) | (with_reducible refine cell_setb ?_ ?_; rotate_left; focus (first | omega | (simp only; omega) | (simp; omega))))))⟩
      (refine wpAnyH_take (i := 0) (v := ?_) rfl (by kernel_rfl) (by kernel_rfl) (by kernel_rfl) (fun _ _ _ h => h) (Or.inl ⟨by kernel_rfl, ?_⟩) (by assumption) ?_
       rotate_left
       · (intro w hSw; (try dsimp only at hSw); go_simp; (try with_reducible rfl))
       (try simp only [Act.put, List.setIfInBounds_toArray, List.set_cons_zero, List.set_cons_succ]))
      (refine wpAnyH_take (i := 1) (v := ?_) rfl (by kernel_rfl) (by kernel_rfl) (by kernel_rfl) (fun _ _ _ h => h) (Or.inl ⟨by kernel_rfl, ?_⟩) (by assumption) ?_
       rotate_left
       · (intro w hSw; (try dsimp only at hSw); go_simp; (try with_reducible rfl))
       (try simp only [Act.put, List.setIfInBounds_toArray, List.set_cons_zero, List.set_cons_succ]))
      (refine wpAnyH_take (i := 2) (v := ?_) rfl (by kernel_rfl) (by kernel_rfl) (by kernel_rfl) (fun _ _ _ h => h) (Or.inl ⟨by kernel_rfl, ?_⟩) (by assumption) ?_
       rotate_left
       · (intro w hSw; (try dsimp only at hSw); go_simp; (try with_reducible rfl))
       (try simp only [Act.put, List.setIfInBounds_toArray, List.set_cons_zero, List.set_cons_succ]))
      (refine wpAnyH_take (i := 4) (v := ?_) rfl (by kernel_rfl) (by kernel_rfl) (by kernel_rfl) (fun _ _ _ h => h) (Or.inl ⟨by kernel_rfl, ?_⟩) (by assumption) ?_
       rotate_left
       · (intro w hSw; (try dsimp only at hSw); go_simp; (try with_reducible rfl))
       (try simp only [Act.put, List.setIfInBounds_toArray, List.set_cons_zero, List.set_cons_succ]))
      (refine wpAnyH_ready (rs := [3]) (by kernel_rfl) (by simp) ?_)
      refine AllReadyH.cons rfl (fun K hK => ?_) AllReadyH.nil
      (go_simp
       ((go_at_call 44)
        refine (endOf_any E d v ys _ ((hE4.ab (by repeat (first | with_reducible exact Ab.refl _ | with_reducible assumption | with_reducible refine Ab.drew ?_ | with_reducible refine Ab.drewN ?_ _ | with_reducible refine Ab.alloc ?_ _ | with_reducible refine Ab.trans ?_ (by assumption) | with_reducible refine Ab.set ?_ (by first | (simp; done) | omega | (simp; omega)) _))).mono (Nat.zero_le _)) hE.out (by omega) HV2.out).mono ?_
        rintro e w5 ⟨rfl, rfl⟩)
       (try go_wp2_with fail)
       (refine hK.out _ _ ?_ (fun hHeld => ?_)
        · (try dsimp only); exact ⟨(by (repeat (first | with_reducible assumption | (simp [go_sem]; done) | with_reducible apply cell_alloc | with_reducible apply cell_drew | with_reducible apply cell_drewN | (with_reducible apply Ab.at; with_reducible assumption) | (with_reducible refine cell_set ?_ ?_; rotate_left; focus (first | (simp; done) | (simp; omega))) | (with_reducible refine cell_setb ?_ ?_; rotate_left; focus (first | omega | (simp only; omega) | (simp; omega)))))), (by (repeat (first | with_reducible assumption | (simp [go_sem]; done) | with_reducible apply cell_alloc | with_reducible apply cell_drew | with_reducible apply cell_drewN | (with_reducible apply Ab.at; with_reducible assumption) | (with_reducible refine cell_set ?_ ?_; rotate_left; focus (first | (simp; done) | (simp; omega))) | (with_reducible refine cell_setb ?_ ?_; rotate_left; focus (first | omega | (simp only; omega) | (simp; omega))))))⟩
        clear hK K
        (try simp only [Act.put, List.setIfInBounds_toArray, List.set_cons_zero, List.set_cons_succ])))
      (refine wpAnyH_take (i := 5) (v := ?_) rfl (by kernel_rfl) (by kernel_rfl) (by kernel_rfl) (fun _ _ _ h => h) (Or.inl ⟨by kernel_rfl, ?_⟩) (by assumption) ?_
       rotate_left
       · (intro w hSw; (try dsimp only at hSw); go_simp; (try with_reducible rfl))
       (try simp only [Act.put, List.setIfInBounds_toArray, List.set_cons_zero, List.set_cons_succ]))
      (refine wpAnyH_take (i := 6) (v := ?_) rfl (by kernel_rfl) (by kernel_rfl) (by kernel_rfl) (fun _ _ _ h => h) (Or.inl ⟨by kernel_rfl, ?_⟩) (by assumption) ?_
       rotate_left
       · (intro w hSw; (try dsimp only at hSw); go_simp; (try with_reducible rfl))
       (try simp only [Act.put, List.setIfInBounds_toArray, List.set_cons_zero, List.set_cons_succ]))
      (refine wpAnyH_ready (rs := [7]) (by kernel_rfl) (by simp) ?_)
      refine AllReadyH.cons rfl (fun K hK => ?_) AllReadyH.nil
      (go_simp
       (refine hK.out _ _ ?_ (fun hHeld => ?_)
        · (try dsimp only); exact ⟨(by (repeat (first | with_reducible assumption | (simp [go_sem]; done) | with_reducible apply cell_alloc | with_reducible apply cell_drew | with_reducible apply cell_drewN | (with_reducible apply Ab.at; with_reducible assumption) | (with_reducible refine cell_set ?_ ?_; rotate_left; focus (first | (simp; done) | (simp; omega))) | (with_reducible refine cell_setb ?_ ?_; rotate_left; focus (first | omega | (simp only; omega) | (simp; omega)))))), (by (repeat (first | with_reducible assumption | (simp [go_sem]; done) | with_reducible apply cell_alloc | with_reducible apply cell_drew | with_reducible apply cell_drewN | (with_reducible apply Ab.at; with_reducible assumption) | (with_reducible refine cell_set ?_ ?_; rotate_left; focus (first | (simp; done) | (simp; omega))) | (with_reducible refine cell_setb ?_ ?_; rotate_left; focus (first | omega | (simp only; omega) | (simp; omega))))))⟩
        clear hK K
        (try simp only [Act.put, List.setIfInBounds_toArray, List.set_cons_zero, List.set_cons_succ])))
      (refine wpAnyH_ready (rs := [8]) (by kernel_rfl) (by simp) ?_)
      refine AllReadyH.cons rfl (fun K hK => ?_) AllReadyH.nil
      ((refine stepAppE (y := ⟨x, v + (12 + x.b.length)⟩) (by rfl) _ _ (by rfl) (by rfl) (by rfl) (hO4.ab (by repeat (first | with_reducible exact Ab.refl _ | with_reducible assumption | with_reducible refine Ab.drew ?_ | with_reducible refine Ab.drewN ?_ _ | with_reducible refine Ab.alloc ?_ _ | with_reducible refine Ab.trans ?_ (by assumption) | with_reducible refine Ab.set ?_ (by first | (simp; done) | omega | (simp; omega)) _))) (Ab.size (show Ab w3 _ from (by repeat (first | with_reducible exact Ab.refl _ | with_reducible assumption | with_reducible refine Ab.drew ?_ | with_reducible refine Ab.drewN ?_ _ | with_reducible refine Ab.alloc ?_ _ | with_reducible refine Ab.trans ?_ (by assumption) | with_reducible refine Ab.set ?_ (by first | (simp; done) | omega | (simp; omega)) _)))) (by repeat (first | exact new_plain (by first | (simp; done) | omega | (simp; omega)) | exact new_drewN (by first | (simp; done) | omega | (simp; omega)) | exact new_drew (by first | (simp; done) | omega | (simp; omega)) | with_reducible refine old_alloc ?_ | with_reducible refine old_drew ?_ | with_reducible refine old_drewN ?_ _ | with_reducible refine old_ab (by assumption) ?_)) (by omega) ?_
        intro E6 d6 w6 zs hzs hO6 g6 f6
        have b6 := f6 w3 (by repeat (first | with_reducible exact Ab.refl _ | with_reducible assumption | with_reducible refine Ab.drew ?_ | with_reducible refine Ab.drewN ?_ _ | with_reducible refine Ab.alloc ?_ _ | with_reducible refine Ab.trans ?_ (by assumption) | with_reducible refine Ab.set ?_ (by first | (simp; done) | omega | (simp; omega)) _)) (Nat.le_refl _)
        clear f6)
       (refine hK.out _ _ ?_ (fun hHeld => ?_)
        · (try dsimp only); exact ⟨grown_cell g6 (by (repeat (first | with_reducible assumption | (simp [go_sem]; done) | with_reducible apply cell_alloc | with_reducible apply cell_drew | with_reducible apply cell_drewN | (with_reducible apply Ab.at; with_reducible assumption) | (with_reducible refine cell_set ?_ ?_; rotate_left; focus (first | (simp; done) | (simp; omega))) | (with_reducible refine cell_setb ?_ ?_; rotate_left; focus (first | omega | (simp only; omega) | (simp; omega)))))) hfar, grown_cell g6 (by (repeat (first | with_reducible assumption | (simp [go_sem]; done) | with_reducible apply cell_alloc | with_reducible apply cell_drew | with_reducible apply cell_drewN | (with_reducible apply Ab.at; with_reducible assumption) | (with_reducible refine cell_set ?_ ?_; rotate_left; focus (first | (simp; done) | (simp; omega))) | (with_reducible refine cell_setb ?_ ?_; rotate_left; focus (first | omega | (simp only; omega) | (simp; omega)))))) hfar⟩
        clear hK K
        (try simp only [Act.put, List.setIfInBounds_toArray, List.set_cons_zero, List.set_cons_succ])))
      (refine wpAnyH_ready (rs := [9]) (by kernel_rfl) (by simp) ?_)
      refine AllReadyH.cons rfl (fun K hK => ?_) AllReadyH.nil
      (go_simp
       (refine hK.out _ _ ?_ (fun hHeld => ?_)
        · (try dsimp only); exact hHeld
        clear hK K
        (try simp only [Act.put, List.setIfInBounds_toArray, List.set_cons_zero, List.set_cons_succ])))
      refine wpAnyH_done (by kernel_rfl) ?_ _
      clear hsum
      go_wp2
      go_roundw
      case rel =>
        refine ⟨k + 1, E6, d6, zs, by omega, by go_num, rfl, Lib.hid ?_, Lib.hid ?_, ?_, hO6, (by repeat (first | with_reducible exact Ab.refl _ | with_reducible assumption | with_reducible refine Ab.drew ?_ | with_reducible refine Ab.drewN ?_ _ | with_reducible refine Ab.alloc ?_ _ | with_reducible refine Ab.trans ?_ (by assumption) | with_reducible refine Ab.set ?_ (by first | (simp; done) | omega | (simp; omega)) _))⟩
        · rw [hzs.out, HX2.out, ← hX.out]; unfold xsOf; rw [List.map_append]; rfl
        · rw [hzs.out]; exact ends_snoc hE.out (by have := HV2.out; simp only; omega)
        · have := congrArg List.length hzs.out; simp at this; omega
      case measure => simp [intOf]; omega
    · obtain rfl : k = xs.length := by omega
      go_wp2
      go_ret
      refine ⟨E, d, ys, un, Lib.hid ?_, hE, rfl, ?_, hO.le, b3.trans hbr⟩
      · have h1 := hX.out
        rw [List.take_length] at h1
        rw [← HB.out]
        unfold erecs
        rw [h1]; exact HS2.out
      · refine hO.ents (fun y hy => ?_) zw
        have h1 : y.x ∈ xs := by
          have h2 := hX.out
          rw [List.take_length] at h2
          rw [← h2]; exact List.mem_map_of_mem hy
        obtain ⟨i, hi, he⟩ := List.mem_iff_getElem.1 h1
        obtain ⟨_, _, _, _, _, l⟩ := hrec.at_ hi
        rw [he] at l
        exact (l.ab hbr).mono hlo
end Go.Proofs.Ytehagdpcegpbjaa
