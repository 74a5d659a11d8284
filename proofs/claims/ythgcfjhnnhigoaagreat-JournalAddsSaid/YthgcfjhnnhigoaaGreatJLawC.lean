/- JournalAdds, walked; written by genjadds.py. Own work. -/
import Derived.Test.YthgcfjhnnhigoaaGreatJAddM
import Derived.Test.YthgcfjhnnhigoaaGreatJGiven
set_option linter.unusedVariables false
set_option linter.unusedSimpArgs false
namespace Go.Proofs.YthgcfjhnnhigoaaGreat
open Go.RowKit
open Slots (Sl)

theorem apply_n (c : List Int) (hl : c.length = 8) (A : Option Addr) (cap n : Nat) (ms : List Jour.Move) (hn : ms.length = n) (w : World) (h : Mvs w 0 A ms) (hn' : n ≤ 100000) :
    Calls Tryz.prog 11 #[.agg #[.int .i64 (cx c 0), .int .i64 (cx c 1), .int .i64 (cx c 2), .int .i64 (cx c 3), .int .i64 (cx c 4), .int .i64 (cx c 5), .int .i64 (cx c 6), .int .i64 (cx c 7)], .slice A n cap] w (RetC w (Jour.apply c ms)) := by
  subst hn
  exact apply_any c hl A cap ms w h hn'
theorem Mvs.take {w : World} {lo : Nat} {A : Option Addr} {ms : List Jour.Move} (h : Mvs w lo A ms) (k : Nat) : Mvs w lo A (ms.take k) := fun hn => by
  rw [List.length_take] at hn
  obtain ⟨a, ha, h0, h1⟩ := h (by omega)
  refine ⟨a, ha, h0, fun i hi => ?_⟩
  rw [List.length_take] at hi
  rw [List.getElem_take]
  exact h1 i (by omega)
def cutM (a : Option Addr) (cap k : Nat) : Option Addr := if cap = k then a else a.map (·.add (k * 2))
theorem Mvs.cut {w : World} {lo : Nat} {A : Option Addr} {ms : List Jour.Move} (h : Mvs w lo A ms) (k cap : Nat) (hc : ms.length ≤ cap) : Mvs w lo (cutM A cap k) (ms.drop k) := fun hn => by
  rw [List.length_drop] at hn
  obtain ⟨a, rfl, h1, h2⟩ := h (by omega)
  unfold cutM
  rw [if_neg (by omega)]
  refine ⟨a.add (k * 2), rfl, by rw [addr_add_block]; exact h1, fun i hi => ?_⟩
  rw [List.length_drop] at hi
  have := h2 (k + i) (by omega)
  rw [addr_add_add, addr_add_add, List.getElem_drop, show k * 2 + i * 2 = (k + i) * 2 by omega, show k * 2 + (i * 2 + 1) = (k + i) * 2 + 1 by omega]
  exact this
theorem run_cutM (k : Nat) (kd : IntKind) (a : Option Addr) (len cap : Nat) (w : World) (h : k ≤ len) :
    (Instr.slice 35 (.slice a len cap) (some (.int kd (k : Int))) none none).run Tryz.prog w = .ok (.slice (cutM a cap k) (len - k) (cap - k)) w := by
  have hu : Tryz.prog.underlying 35 = some (.slice (Tryz.prog.elem 35)) := by kernel_rfl
  obtain ⟨i0, hi0, _, hz1, _⟩ := info_parts infoMove
  have he : Tryz.prog.elem 35 = 34 := by kernel_rfl
  rw [run_slice_l w 35 a len cap hu kd (k : Int) (by omega) (by omega), he]
  simp only [sizeOf, typeInfo, sliced, Int.toNat_natCast, cutM, Sem.run_bind, Sem.run_pure]
  simp [hi0, hz1]
section
variable {lo : Nat} {w : World} {A : Option Addr} {c : Nat} {xs : List Jour.Move} {x : Jour.Move} {o : Oper} {a : Act} {g d : Nat} {fr : Nat × Nat} {ops : Array Oper} {rest : List Oper} {Q : Exit → Act → World → Prop}
theorem listAppM (hgd : o.guard = none) (s y : Operand) (ho : o.op = .call { callee := .builtin .append, args := #[s, y], argTypes := #[35, 35] })
    (hs : a.eval s = .slice A xs.length c) (hy : a.eval y = .slice (some ⟨g, 0, none⟩) 1 d) (h : OwnMvs lo w A c xs) (hlo : lo ≤ w.heap.size)
    (hg : w.heap[g]? = some (.cells #[.int .i64 x.cell, .int .i64 x.add] 34 fr)) (hlen : xs.length ≤ 1000000)
    (hK : ∀ g' c' w' ys, Hid (ys = xs ++ [x]) → OwnMvs lo w' (some ⟨g', 0, none⟩) c' ys → w.grownBy w' (A.map (·.block)) → (A.map (·.block) = some g' ∨ g' = w.heap.size) → wpList Tryz.prog ops Q rest (a.put o.dst (.slice (some ⟨g', 0, none⟩) ys.length c')) w') : wpList Tryz.prog ops Q (o :: rest) a w :=
  wpList_plain hgd fun _ hC => wp_appM s y ho hs hy h hlo hg hlen fun g' c' w' ys e o' gr k => hC _ _ (hK g' c' w' ys e o' gr k)
end
theorem apsize {W w' : World} {b : Nat} {vs : List Value} (h : Ab W w') (v : VB w' b vs) : b < w'.heap.size ∧ W.heap.size ≤ w'.heap.size := ⟨v.lt, h.size⟩
/-- Behind a call of Apply whose numbers go into a variable of its own. -/
def ApRel (w : World) (m : List Int × Int) (v1 v2 : Value) (wx : World) : Prop :=
  ∃ (c : List Int) (er : Int) (h : Nat) (W' : World), Hid ((c, er) = m) ∧ v1 = .pointer (some ⟨h, 0, none⟩) ∧ v2 = .int .i64 er ∧ W' = wx ∧ VB wx h [.int .i64 (cx c 0), .int .i64 (cx c 1), .int .i64 (cx c 2), .int .i64 (cx c 3), .int .i64 (cx c 4), .int .i64 (cx c 5), .int .i64 (cx c 6), .int .i64 (cx c 7)] ∧ c.length = 8 ∧ w.heap.size ≤ h ∧ Ab w wx

/-- Behind a call of Do whose journal goes into a variable of its own. -/
def DoRel (w : World) (M : JX × Int × Int) (b : Nat) (vs : List Value) (v1 v2 v3 : Value) (wx : World) : Prop :=
  ∃ (r : JX) (num er : Int) (m : JA) (h : Nat) (W' : World), Hid ((r, num, er) = M) ∧ v1 = .pointer (some ⟨h, 0, none⟩) ∧ v2 = .int .i64 num ∧ v3 = .int .i64 er ∧ W' = wx ∧ VB wx h [.slice m.m.A r.s.a.s.length m.m.ca, .slice m.m.B r.s.a.t.length m.m.cb, .int .i64 r.s.a.cap, .bool r.s.a.down, .slice m.m.C r.s.b.s.length m.m.cc, .slice m.m.D r.s.b.t.length m.m.cd, .int .i64 r.s.b.cap, .bool r.s.b.down, .int .i64 r.s.n, .slice m.A r.l.dev.s.length m.ca, .slice m.B r.l.dev.t.length m.cb, .int .i64 r.l.dev.cap, .bool r.l.dev.down, .int .i64 r.l.first, .int .i64 r.l.next, .int .i64 (cx r.c 0), .int .i64 (cx r.c 1), .int .i64 (cx r.c 2), .int .i64 (cx r.c 3), .int .i64 (cx r.c 4), .int .i64 (cx r.c 5), .int .i64 (cx r.c 6), .int .i64 (cx r.c 7)] ∧ JM wx m r ∧ VB wx b vs ∧ b < h ∧ Ab w wx
set_option maxRecDepth 100000 in
set_option maxHeartbeats 12800000 in
theorem jadds_walk (a : JA) (x : JX) (w : World) (ha : JAr w a x) (A : Option Addr) (cap : Nat) (ms : List Jour.Move) (hms : Mvs w 0 A ms) (hcap : ms.length ≤ cap) (lm : ms.length ≤ 9223372036854775807) (at_ : Int) :
    Calls Tryz.prog 6 #[.agg #[.slice a.m.A x.s.a.s.length a.m.ca, .slice a.m.B x.s.a.t.length a.m.cb, .int .i64 x.s.a.cap, .bool x.s.a.down, .slice a.m.C x.s.b.s.length a.m.cc, .slice a.m.D x.s.b.t.length a.m.cd, .int .i64 x.s.b.cap, .bool x.s.b.down, .int .i64 x.s.n, .slice a.A x.l.dev.s.length a.ca, .slice a.B x.l.dev.t.length a.cb, .int .i64 x.l.dev.cap, .bool x.l.dev.down, .int .i64 x.l.first, .int .i64 x.l.next, .int .i64 (cx x.c 0), .int .i64 (cx x.c 1), .int .i64 (cx x.c 2), .int .i64 (cx x.c 3), .int .i64 (cx x.c 4), .int .i64 (cx x.c 5), .int .i64 (cx x.c 6), .int .i64 (cx x.c 7)], .slice A ms.length cap, .int .i64 at_] w fun e w' => e = .returned (.bool true) ∧ Ab w w' := by
  obtain ⟨g, hi⟩ := Wal.is_exists x.l
  go_enter Tryz.func6, Tryz.ntmps6
  have V3 : VB (w.alloc (.cells #[.slice a.m.A x.s.a.s.length a.m.ca, .slice a.m.B x.s.a.t.length a.m.cb, .int .i64 x.s.a.cap, .bool x.s.a.down, .slice a.m.C x.s.b.s.length a.m.cc, .slice a.m.D x.s.b.t.length a.m.cd, .int .i64 x.s.b.cap, .bool x.s.b.down, .int .i64 x.s.n, .slice a.A x.l.dev.s.length a.ca, .slice a.B x.l.dev.t.length a.cb, .int .i64 x.l.dev.cap, .bool x.l.dev.down, .int .i64 x.l.first, .int .i64 x.l.next, .int .i64 (cx x.c 0), .int .i64 (cx x.c 1), .int .i64 (cx x.c 2), .int .i64 (cx x.c 3), .int .i64 (cx x.c 4), .int .i64 (cx x.c 5), .int .i64 (cx x.c 6), .int .i64 (cx x.c 7)] 32 (0, 0))) w.heap.size [.slice a.m.A x.s.a.s.length a.m.ca, .slice a.m.B x.s.a.t.length a.m.cb, .int .i64 x.s.a.cap, .bool x.s.a.down, .slice a.m.C x.s.b.s.length a.m.cc, .slice a.m.D x.s.b.t.length a.m.cd, .int .i64 x.s.b.cap, .bool x.s.b.down, .int .i64 x.s.n, .slice a.A x.l.dev.s.length a.ca, .slice a.B x.l.dev.t.length a.cb, .int .i64 x.l.dev.cap, .bool x.l.dev.down, .int .i64 x.l.first, .int .i64 x.l.next, .int .i64 (cx x.c 0), .int .i64 (cx x.c 1), .int .i64 (cx x.c 2), .int .i64 (cx x.c 3), .int .i64 (cx x.c 4), .int .i64 (cx x.c 5), .int .i64 (cx x.c 6), .int .i64 (cx x.c 7)] := VB.box (new_plain rfl)
  have B0 : Ab w (w.alloc (.cells #[.slice a.m.A x.s.a.s.length a.m.ca, .slice a.m.B x.s.a.t.length a.m.cb, .int .i64 x.s.a.cap, .bool x.s.a.down, .slice a.m.C x.s.b.s.length a.m.cc, .slice a.m.D x.s.b.t.length a.m.cd, .int .i64 x.s.b.cap, .bool x.s.b.down, .int .i64 x.s.n, .slice a.A x.l.dev.s.length a.ca, .slice a.B x.l.dev.t.length a.cb, .int .i64 x.l.dev.cap, .bool x.l.dev.down, .int .i64 x.l.first, .int .i64 x.l.next, .int .i64 (cx x.c 0), .int .i64 (cx x.c 1), .int .i64 (cx x.c 2), .int .i64 (cx x.c 3), .int .i64 (cx x.c 4), .int .i64 (cx x.c 5), .int .i64 (cx x.c 6), .int .i64 (cx x.c 7)] 32 (0, 0))) := abA
  go_upto_region 1 with fail
  generalize (w.alloc (.cells #[.slice a.m.A x.s.a.s.length a.m.ca, .slice a.m.B x.s.a.t.length a.m.cb, .int .i64 x.s.a.cap, .bool x.s.a.down, .slice a.m.C x.s.b.s.length a.m.cc, .slice a.m.D x.s.b.t.length a.m.cd, .int .i64 x.s.b.cap, .bool x.s.b.down, .int .i64 x.s.n, .slice a.A x.l.dev.s.length a.ca, .slice a.B x.l.dev.t.length a.cb, .int .i64 x.l.dev.cap, .bool x.l.dev.down, .int .i64 x.l.first, .int .i64 x.l.next, .int .i64 (cx x.c 0), .int .i64 (cx x.c 1), .int .i64 (cx x.c 2), .int .i64 (cx x.c 3), .int .i64 (cx x.c 4), .int .i64 (cx x.c 5), .int .i64 (cx x.c 6), .int .i64 (cx x.c 7)] 32 (0, 0))) = W at V3 B0 ⊢
  replace ha := ha.ab B0
  replace hms := hms.ab B0
  have BW : Ab W W := Ab.refl W
  by_cases h20 : 20 < ms.length
  · have d1 : decide ((20 : Int) < (ms.length : Int)) = true := by simp; omega
    clear h20
    go_wp2_with fail
    refine (jalive_true _).mono ?_
    rintro e w9 ⟨rfl, hb9⟩
    go_wp2
    go_ret
    exact ⟨rfl, abA⟩
  have d1 : decide ((20 : Int) < (ms.length : Int)) = false := by simp; omega
  by_cases hat : at_ < 0
  · have d2 : decide (at_ < 0) = true := by simpa using hat
    clear h20 hat
    go_wp2_with fail
    refine (jalive_true _).mono ?_
    rintro e w9 ⟨rfl, hb9⟩
    go_wp2
    go_ret
    exact ⟨rfl, abA⟩
  have d2 : decide (at_ < 0) = false := by simpa using hat
  by_cases hat2 : (ms.length : Int) < at_
  · have d3 : decide ((ms.length : Int) < at_) = true := by simpa using hat2
    clear h20 hat hat2
    go_wp2_with fail
    refine (jalive_true _).mono ?_
    rintro e w9 ⟨rfl, hb9⟩
    go_wp2
    go_ret
    exact ⟨rfl, abA⟩
  have d3 : decide ((ms.length : Int) < at_) = false := by simpa using hat2
  by_cases hf : Jour.fits x 21 g
  case neg =>
    have HF := Lib.hid hf
    clear hf h20 hat hat2
    go_wp2_with (refine list_ldJg (by rfl) _ rfl rfl V3 rfl ?_)
    refine (jfit_any a x _ (ha.ab BW) 21 21 rfl (by decide) g hi false ⟨fun k => absurd k HF.out, fun k => absurd k (by simp)⟩).mono ?_
    rintro e w1 ⟨rfl, hb1⟩
    go_wp2_with fail
    refine (jalive_true _).mono ?_
    rintro e w9 ⟨rfl, hb9⟩
    go_wp2
    go_ret
    exact ⟨rfl, abA⟩
  have HF := Lib.hid hf
  have h := ha.jm HF.out.1
  obtain ⟨rs, n, c, hgs, hG⟩ := Jour.fits_good hi HF.out
  subst hgs
  have HG := Lib.hid hG
  have HST := Lib.hid hG.state
  have hrm := HF.out.2.2
  have H100 := Lib.hid (show ms.length ≤ 100000 by omega)
  have HIN := Lib.hid (hrm.in_ HST.out.2)
  have HR := Lib.hid hrm
  have H20 := Lib.hid (show ms.length ≤ 20 by omega)
  have HKL := Lib.hid (show 0 ≤ at_ ∧ at_ ≤ (ms.length : Int) by omega)
  clear hf hG hrm hat hat2 h20
  go_wp2_with (refine list_ldJg (by rfl) _ rfl rfl V3 rfl ?_)
  refine (jfit_any a x _ (ha.ab BW) 21 21 rfl (by decide) (some rs) hi true ⟨fun _ => rfl, fun _ => HF.out⟩).mono ?_
  rintro e w1 ⟨rfl, hb1⟩
  replace BW := BW.trans hb1
  go_upto_region 3 with fail
  have hka := HKL.out
  obtain ⟨k, rfl⟩ : ∃ k : Nat, at_ = (k : Int) := ⟨at_.toNat, by omega⟩
  have hkl : k ≤ ms.length := by omega
  clear hb1 d2 d3 hka HKL
  have wl : IntKind.i64.wrap ((ms.length : Int) - 1) = (ms.length : Int) - 1 := IntWalk.i64_in _ (by omega)
  go_wp2
  go_loopw [8, 7] (fun i t wr => ∃ (q : Nat) (B : Option Addr) (cb : Nat) (ts : List Jour.Move), q ≤ ms.length ∧ i = .int .i64 ((q : Int) - 1) ∧ t = .slice B ts.length cb ∧ Hid (ts = (ms.drop q).reverse) ∧ ts.length ≤ 20 ∧ OwnMvs W.heap.size wr B cb ts ∧ Hid (∀ m ∈ ms.drop q, Jour.Valid m) ∧ Ab W wr) (fun i _ _ => (intOf i + 1).toNat)
  case atStart => exact ⟨ms.length, none, 0, [], Nat.le_refl _, rfl, rfl, Lib.hid (by simp), by simp, OwnMvs.nil, Lib.hid (by simp), BW⟩
  case round =>
    obtain ⟨q, B, cb, ts, hq, rfl, rfl, hts, hlt20, hO, hval, hab⟩ := hrel
    by_cases hq0 : 0 < q
    · obtain ⟨j, rfl⟩ : ∃ j, q = j + 1 := ⟨q - 1, by omega⟩
      have hj : j < ms.length := by omega
      have e1 : ((j + 1 : Nat) : Int) - 1 = (j : Int) := by omega
      rw [e1]
      have dj : decide ((0 : Int) ≤ (j : Int)) = true := by simp
      obtain ⟨ad, hA, _, c0, c1⟩ := (hms.ab hab).at_ hj
      subst hA
      have HD := Lib.hid (List.drop_eq_getElem_cons hj)
      have ji : (j : Int) < (ms.length : Int) := by omega
      generalize hmj : ms[j] = m at c0 c1 HD
      have HMJ := Lib.hid hmj
      clear hmj
      obtain ⟨mc, mx⟩ := m
      dsimp only at c0 c1
      by_cases hv : Jour.Valid ⟨mc, mx⟩
      · have HV := Lib.hid hv
        clear hv
        go_wp2_with fail
        refine (jrvalid_any ⟨mc, mx⟩ _ true (decide_eq_true HV.out)).mono ?_
        rintro e w2 ⟨rfl, hb2⟩
        have b2 := hab.trans hb2
        have c0 := hb2.at c0
        have c1 := hb2.at c1
        replace hO := hO.ab hb2
        have z2 := hb2.size
        have z3 := b2.size
        have wj : IntKind.i64.wrap ((j : Int) - 1) = (j : Int) - 1 := IntWalk.i64_in _ (by omega)
        go_wp2_with ((at_builtin
                      refine listAppM (x := ⟨mc, mx⟩) rfl _ _ rfl rfl rfl (show OwnMvs W.heap.size _ B cb ts from OwnMvs.ab hO abA) (by first | omega | (simp; omega)) (by (repeat (first | with_reducible exact new_drew (by first | (simp; done) | (simp; omega)) | with_reducible exact new_plain (by first | (simp; done) | (simp; omega)) | with_reducible exact new_drewN (by first | (simp; done) | (simp; omega)) | with_reducible refine old_alloc ?_ | with_reducible refine old_drew ?_ | with_reducible refine old_drewN ?_ _ | with_reducible refine old_grown (by assumption) (by simp) ?_ | with_reducible refine old_ab (by assumption) ?_))) (by omega) ?_
                      intro g4 c4 w4 ys e4 o4 gr4 k4))
        have b4 : Ab W w4 := grown_ab (W := W) abA gr4 (fun g hg => by obtain ⟨a, ha, rfl⟩ := map_blk hg; exact (OV.rng hO a ha).1)
        go_roundw
        case rel => exact ⟨j, _, _, ys, by omega, by go_num, rfl, Lib.hid (by rw [e4.out, hts.out, HD.out, List.reverse_cons]), by rw [e4.out, hts.out, List.length_append, List.length_reverse, List.length_drop]; have := H20.out; simp; omega, o4, Lib.hid (by rw [HD.out]; intro m hm; rcases List.mem_cons.1 hm with rfl | hm; exact HV.out; exact hval.out m hm), b4⟩
        case measure => simp [intOf]
      · have HV := Lib.hid hv
        clear hv
        go_wp2_with fail
        refine (jrvalid_any ⟨mc, mx⟩ _ false (decide_eq_false HV.out)).mono ?_
        rintro e w2 ⟨rfl, hb2⟩
        go_wp2_with fail
        refine (jalive_true _).mono ?_
        rintro e w9 ⟨rfl, hb9⟩
        go_wp2
        go_ret
        exact ⟨rfl, abA⟩
    · obtain rfl : q = 0 := by omega
      have dj : decide ((0 : Int) ≤ ((0 : Nat) : Int) - 1) = false := by decide
      have HVA := Lib.hid (show ∀ m ∈ ms, Jour.Valid m from hval.out)
      have HTS := Lib.hid (show ts = ms.reverse from hts.out)
      have HALL := Lib.hid (Jour.apply_in HST.out.2 HVA.out HIN.out (by have := H20.out; omega))
      have HTK := Lib.hid (Jour.go_in (ms.take k) _ x.c HST.out.2 (fun m hm => HVA.out m (List.mem_of_mem_take hm)) HIN.out (by have := H20.out; rw [List.length_take]; omega))
      have HPT := Lib.hid (Jour.apply_in HST.out.2 (fun m hm => HVA.out m (List.mem_of_mem_take hm)) HIN.out (by have := H20.out; rw [List.length_take]; omega) : Jour.apply x.c (ms.take k) = _)
      have hall : (ms.take k).foldl Jour.bump x.c = (ms.take k).foldl Jour.bump x.c := rfl
      have HRS := Lib.hid (show Jour.apply ((ms.take k).foldl Jour.bump x.c) (ms.drop k) = (ms.foldl Jour.bump x.c, 0) by
        rw [Jour.apply_in ((Jour.bumps_length _ _).trans HST.out.2) (fun m hm => HVA.out m (List.mem_of_mem_drop hm)) HTK.out.2 (by have := H20.out; rw [List.length_take, List.length_drop]; omega), ← List.foldl_append, List.take_append_drop])
      have HOT := Lib.hid (show Jour.apply x.c ts = (ms.foldl Jour.bump x.c, 0) by
        rw [HTS.out, Jour.apply_in HST.out.2 (fun m hm => HVA.out m (List.mem_reverse.1 hm)) HIN.out (by have := H20.out; rw [List.length_reverse]; omega), Jour.foldl_bump_reverse])
      clear hall hval hts hq hq0
      have V3r := V3.ab hab
      have xq0 := (V3r).at 15 rfl
      have xq1 := (V3r).at 16 rfl
      have xq2 := (V3r).at 17 rfl
      have xq3 := (V3r).at 18 rfl
      have xq4 := (V3r).at 19 rfl
      have xq5 := (V3r).at 20 rfl
      have xq6 := (V3r).at 21 rfl
      have xq7 := (V3r).at 22 rfl
      go_wp2_with fail
      refine (apply_any x.c HST.out.2 A cap ms _ (hms.ab hab) H100.out).mono ?_
      rintro e w3 ⟨c9, e9, hr9, rfl, l9, hb3⟩
      obtain ⟨h91, rfl⟩ := Prod.mk.inj (hr9.out.trans HALL.out)
      have H9 := Lib.hid h91
      have A3 := (Ab.refl w3).alloc (.cells #[.int .i64 (cx c9 0), .int .i64 (cx c9 1), .int .i64 (cx c9 2), .int .i64 (cx c9 3), .int .i64 (cx c9 4), .int .i64 (cx c9 5), .int .i64 (cx c9 6), .int .i64 (cx c9 7)] 30 (0, 0))
      have V9 : VB (w3.alloc (.cells #[.int .i64 (cx c9 0), .int .i64 (cx c9 1), .int .i64 (cx c9 2), .int .i64 (cx c9 3), .int .i64 (cx c9 4), .int .i64 (cx c9 5), .int .i64 (cx c9 6), .int .i64 (cx c9 7)] 30 (0, 0))) w3.heap.size [.int .i64 (cx c9 0), .int .i64 (cx c9 1), .int .i64 (cx c9 2), .int .i64 (cx c9 3), .int .i64 (cx c9 4), .int .i64 (cx c9 5), .int .i64 (cx c9 6), .int .i64 (cx c9 7)] := VB.box (new_plain rfl)
      have AB := hab.trans (hb3.trans A3)
      replace hO := hO.ab (hb3.trans A3)
      clear hr9 h91 xq0 xq1 xq2 xq3 xq4 xq5 xq6 xq7 V3r BW hab
      go_upto_region 11 with fail
      have V3r := V3.ab AB
      have HM := hms.ab AB
      generalize (w3.alloc (.cells #[.int .i64 (cx c9 0), .int .i64 (cx c9 1), .int .i64 (cx c9 2), .int .i64 (cx c9 3), .int .i64 (cx c9 4), .int .i64 (cx c9 5), .int .i64 (cx c9 6), .int .i64 (cx c9 7)] 30 (0, 0))) = W4 at V9 AB hO V3r HM ⊢
      clear hb3 A3
      have k0 : (0 : Int) ≤ (k : Int) := by omega
      have kc : (k : Int) ≤ (cap : Int) := by omega
      go_cut [11, 12] (fun v1 v2 wx => ApRel W4 (Jour.apply x.c (ms.take k)) v1 v2 wx)
      case first =>
        refine wp_region_held_drew (by kernel_rfl) (S := fun w' => Ab W4 w' ∧ VB w' w.heap.size [.slice a.m.A x.s.a.s.length a.m.ca, .slice a.m.B x.s.a.t.length a.m.cb, .int .i64 x.s.a.cap, .bool x.s.a.down, .slice a.m.C x.s.b.s.length a.m.cc, .slice a.m.D x.s.b.t.length a.m.cd, .int .i64 x.s.b.cap, .bool x.s.b.down, .int .i64 x.s.n, .slice a.A x.l.dev.s.length a.ca, .slice a.B x.l.dev.t.length a.cb, .int .i64 x.l.dev.cap, .bool x.l.dev.down, .int .i64 x.l.first, .int .i64 x.l.next, .int .i64 (cx x.c 0), .int .i64 (cx x.c 1), .int .i64 (cx x.c 2), .int .i64 (cx x.c 3), .int .i64 (cx x.c 4), .int .i64 (cx x.c 5), .int .i64 (cx x.c 6), .int .i64 (cx x.c 7)]) ?_ (fun hHeld => ?_)
        · exact ⟨abA, V3r.ab abA⟩
        (refine rtA 0 ?_ ?_
         (try simp only [Act.put, stA, st0, st1]))
        (refine rtL 1 [.int .i64 (cx x.c 0), .int .i64 (cx x.c 1), .int .i64 (cx x.c 2), .int .i64 (cx x.c 3), .int .i64 (cx x.c 4), .int .i64 (cx x.c 5), .int .i64 (cx x.c 6), .int .i64 (cx x.c 7)] 15 (fun w hSw => VB.rangeAt (hSw.2) 15 8) Tryz.underlying30 ?_
         (try simp only [Act.put, stA, st0, st1]))
        (refine rtA 2 ?_ ?_
         (try simp only [Act.put, stA, st0, st1]))
        (refine rtA 3 ?_ ?_
         (try simp only [Act.put, stA, st0, st1]))
        (refine rtA 4 ?_ ?_
         (try simp only [Act.put, stA, st0, st1]))
        (refine wpAnyH_ready (rs := [5, 9]) (by kernel_rfl) (by simp) ?_)
        refine AllReadyH.cons rfl (fun K hK => ?_) (AllReadyH.cons rfl (fun K hK => ?_) AllReadyH.nil)
        · (go_simp
           (go_at_call 11); refine (apply_n x.c HST.out.2 A cap k (ms.take k) (by rw [List.length_take]; omega) _ ((HM.take k).ab hHeld.1) (by have := H100.out; omega)).mono ?_; rintro e w5 ⟨c5, e5, hr5, rfl, l5, hb5⟩
           (try go_wp2_with fail)
           (refine hK.out _ _ ?_ (fun hHeld => ?_)
            · (try dsimp only); exact ⟨hHeld.1.trans hb5, hHeld.2.ab hb5⟩
            clear hK K
            (try simp only [Act.put, stA, st0, st1])))
          (refine rtA 6 ?_ ?_
           (try simp only [Act.put, stA, st0, st1]))
          (refine rtA 7 ?_ ?_
           (try simp only [Act.put, stA, st0, st1]))
          (refine rtA 8 ?_ ?_
           (try simp only [Act.put, stA, st0, st1]))
          refine r1A 9 (fun K hK => ?_)
          have A6 := (Ab.refl (w5)).alloc (.cells #[.int .i64 0, .int .i64 0, .int .i64 0, .int .i64 0, .int .i64 0, .int .i64 0, .int .i64 0, .int .i64 0] 30 (0, 0))
          have v6 : Var (World.alloc (w5) (.cells #[.int .i64 0, .int .i64 0, .int .i64 0, .int .i64 0, .int .i64 0, .int .i64 0, .int .i64 0, .int .i64 0] 30 (0, 0))) (w5.heap.size) 8 := VB.var (vs := [.int .i64 0, .int .i64 0, .int .i64 0, .int .i64 0, .int .i64 0, .int .i64 0, .int .i64 0, .int .i64 0]) (VB.box (new_plain (by first | rfl | simp))) rfl
          have P6 := apsize (w' := w5) hHeld.1 hHeld.2
          change _ < w5.heap.size ∧ _ ≤ w5.heap.size at P6
          (go_simp
           (refine hK.out _ _ ?_ (fun hHeld => ?_)
            · (try dsimp only); exact ⟨hHeld.1.trans A6, hHeld.2.ab A6⟩
            clear hK K
            (try simp only [Act.put, stA, st0, st1])))
          refine r1A 10 (fun K hK => ?_)
          (try simp only [Act.put, List.getElem_toArray, List.getElem_cons_succ, List.getElem_cons_zero, stA, st0, st1])
          refine if_go (by rfl) ?_
          refine wp_stV 30 infoC _ _ rfl rfl rfl v6 rfl rfl ?_
          intro w7 h7
          (refine hK.out _ _ ?_ (fun hHeld => ?_)
           · (try dsimp only); exact ⟨h7.ab _ hHeld.1 P6.2, hHeld.2.mid h7.m (by have := P6.1; omega)⟩
           clear hK K
           (try simp only [Act.put, stA, st0, st1]))
          refine r1A 11 (fun K hK => ?_)
          (go_simp
           (refine hK.out _ _ ?_ (fun hHeld => ?_)
            · (try dsimp only); exact hHeld
            clear hK K
            (try simp only [Act.put, stA, st0, st1])))
          refine wpAnyH_done (by kernel_rfl) ?_ _
          go_wp2_with fail
          go_meet
          exact ⟨c5, e5, _, _, hr5, rfl, rfl, rfl, h7.v, l5, P6.2, hHeld.1⟩
        · have A6 := (Ab.refl (W4.drew)).alloc (.cells #[.int .i64 0, .int .i64 0, .int .i64 0, .int .i64 0, .int .i64 0, .int .i64 0, .int .i64 0, .int .i64 0] 30 (0, 0))
          have v6 : Var (World.alloc (W4.drew) (.cells #[.int .i64 0, .int .i64 0, .int .i64 0, .int .i64 0, .int .i64 0, .int .i64 0, .int .i64 0, .int .i64 0] 30 (0, 0))) (W4.heap.size) 8 := VB.var (vs := [.int .i64 0, .int .i64 0, .int .i64 0, .int .i64 0, .int .i64 0, .int .i64 0, .int .i64 0, .int .i64 0]) (VB.box (new_plain (by first | rfl | simp))) rfl
          have P6 := apsize (w' := W4.drew) hHeld.1 hHeld.2
          change _ < W4.heap.size ∧ _ ≤ W4.heap.size at P6
          (go_simp
           (refine hK.out _ _ ?_ (fun hHeld => ?_)
            · (try dsimp only); exact ⟨hHeld.1.trans A6, hHeld.2.ab A6⟩
            clear hK K
            (try simp only [Act.put, stA, st0, st1])))
          refine r1A 5 (fun K hK => ?_)
          (go_simp
           (go_at_call 11); refine (apply_n x.c HST.out.2 A cap k (ms.take k) (by rw [List.length_take]; omega) _ ((HM.take k).ab hHeld.1) (by have := H100.out; omega)).mono ?_; rintro e w5 ⟨c5, e5, hr5, rfl, l5, hb5⟩
           (try go_wp2_with fail)
           (refine hK.out _ _ ?_ (fun hHeld => ?_)
            · (try dsimp only); exact ⟨hHeld.1.trans hb5, hHeld.2.ab hb5⟩
            clear hK K
            (try simp only [Act.put, stA, st0, st1])))
          (refine rtA 6 ?_ ?_
           (try simp only [Act.put, stA, st0, st1]))
          (refine rtA 7 ?_ ?_
           (try simp only [Act.put, stA, st0, st1]))
          (refine rtA 8 ?_ ?_
           (try simp only [Act.put, stA, st0, st1]))
          have v7 := v6.ab hb5
          refine r1A 10 (fun K hK => ?_)
          (try simp only [Act.put, List.getElem_toArray, List.getElem_cons_succ, List.getElem_cons_zero, stA, st0, st1])
          refine if_go (by rfl) ?_
          refine wp_stV 30 infoC _ _ rfl rfl rfl v7 rfl rfl ?_
          intro w7 h7
          (refine hK.out _ _ ?_ (fun hHeld => ?_)
           · (try dsimp only); exact ⟨h7.ab _ hHeld.1 P6.2, hHeld.2.mid h7.m (by have := P6.1; omega)⟩
           clear hK K
           (try simp only [Act.put, stA, st0, st1]))
          refine r1A 11 (fun K hK => ?_)
          (go_simp
           (refine hK.out _ _ ?_ (fun hHeld => ?_)
            · (try dsimp only); exact hHeld
            clear hK K
            (try simp only [Act.put, stA, st0, st1])))
          refine wpAnyH_done (by kernel_rfl) ?_ _
          go_wp2_with fail
          go_meet
          exact ⟨c5, e5, _, _, hr5, rfl, rfl, rfl, h7.v, l5, P6.2, hHeld.1⟩
      obtain ⟨c11, e11, h11, W5, hr11, rfl, rfl, rfl, V11, l11, hh11, A45⟩ := hcut
      obtain ⟨h111, rfl⟩ := Prod.mk.inj (hr11.out.trans HPT.out)
      have H11 := Lib.hid h111
      have V5r := V3r.ab A45
      replace V9 := V9.ab A45
      replace HM := HM.ab A45
      replace AB := AB.trans A45
      replace hO := hO.ab A45
      clear hr11 h111 V3r A45
      have z11 := V11.lt
      have hsl := fun (w : World) => run_cutM k .i64 A ms.length cap w hkl
      go_upto_region 12 with fail
      go_cut [13, 14] (fun v1 v2 wx => ApRel W5 (Jour.apply c11 (ms.drop k)) v1 v2 wx)
      case first =>
        refine wp_region_held_drew (by kernel_rfl) (S := fun w' => Ab W5 w' ∧ VB w' h11 [.int .i64 (cx c11 0), .int .i64 (cx c11 1), .int .i64 (cx c11 2), .int .i64 (cx c11 3), .int .i64 (cx c11 4), .int .i64 (cx c11 5), .int .i64 (cx c11 6), .int .i64 (cx c11 7)]) ?_ (fun hHeld => ?_)
        · exact ⟨abA, V11.ab abA⟩
        (refine rtL 0 [.int .i64 (cx c11 0), .int .i64 (cx c11 1), .int .i64 (cx c11 2), .int .i64 (cx c11 3), .int .i64 (cx c11 4), .int .i64 (cx c11 5), .int .i64 (cx c11 6), .int .i64 (cx c11 7)] 0 (fun w hSw => VB.rangeAt (hSw.2) 0 8) Tryz.underlying30 ?_
         (try simp only [Act.put, stA, st0, st1]))
        (refine rtA 1 ?_ ?_
         (try simp only [Act.put, stA, st0, st1]))
        (refine rtA 2 ?_ ?_
         (try simp only [Act.put, stA, st0, st1]))
        (refine rtA 3 ?_ ?_
         (try simp only [Act.put, stA, st0, st1]))
        (refine wpAnyH_ready (rs := [4, 8]) (by kernel_rfl) (by simp) ?_)
        refine AllReadyH.cons rfl (fun K hK => ?_) (AllReadyH.cons rfl (fun K hK => ?_) AllReadyH.nil)
        · (go_simp
           (go_at_call 11); refine (apply_n c11 l11 (cutM A cap k) (cap - k) (ms.length - k) (ms.drop k) (List.length_drop ..) _ ((HM.cut k cap hcap).ab hHeld.1) (by have := H100.out; omega)).mono ?_; rintro e w5 ⟨c5, e5, hr5, rfl, l5, hb5⟩
           (try go_wp2_with fail)
           (refine hK.out _ _ ?_ (fun hHeld => ?_)
            · (try dsimp only); exact ⟨hHeld.1.trans hb5, hHeld.2.ab hb5⟩
            clear hK K
            (try simp only [Act.put, stA, st0, st1])))
          (refine rtA 5 ?_ ?_
           (try simp only [Act.put, stA, st0, st1]))
          (refine rtA 6 ?_ ?_
           (try simp only [Act.put, stA, st0, st1]))
          (refine rtA 7 ?_ ?_
           (try simp only [Act.put, stA, st0, st1]))
          refine r1A 8 (fun K hK => ?_)
          have A6 := (Ab.refl (w5)).alloc (.cells #[.int .i64 0, .int .i64 0, .int .i64 0, .int .i64 0, .int .i64 0, .int .i64 0, .int .i64 0, .int .i64 0] 30 (0, 0))
          have v6 : Var (World.alloc (w5) (.cells #[.int .i64 0, .int .i64 0, .int .i64 0, .int .i64 0, .int .i64 0, .int .i64 0, .int .i64 0, .int .i64 0] 30 (0, 0))) (w5.heap.size) 8 := VB.var (vs := [.int .i64 0, .int .i64 0, .int .i64 0, .int .i64 0, .int .i64 0, .int .i64 0, .int .i64 0, .int .i64 0]) (VB.box (new_plain (by first | rfl | simp))) rfl
          have P6 := apsize (w' := w5) hHeld.1 hHeld.2
          change _ < w5.heap.size ∧ _ ≤ w5.heap.size at P6
          (go_simp
           (refine hK.out _ _ ?_ (fun hHeld => ?_)
            · (try dsimp only); exact ⟨hHeld.1.trans A6, hHeld.2.ab A6⟩
            clear hK K
            (try simp only [Act.put, stA, st0, st1])))
          refine r1A 9 (fun K hK => ?_)
          (try simp only [Act.put, List.getElem_toArray, List.getElem_cons_succ, List.getElem_cons_zero, stA, st0, st1])
          refine if_go (by rfl) ?_
          refine wp_stV 30 infoC _ _ rfl rfl rfl v6 rfl rfl ?_
          intro w7 h7
          (refine hK.out _ _ ?_ (fun hHeld => ?_)
           · (try dsimp only); exact ⟨h7.ab _ hHeld.1 P6.2, hHeld.2.mid h7.m (by have := P6.1; omega)⟩
           clear hK K
           (try simp only [Act.put, stA, st0, st1]))
          refine r1A 10 (fun K hK => ?_)
          (go_simp
           (refine hK.out _ _ ?_ (fun hHeld => ?_)
            · (try dsimp only); exact hHeld
            clear hK K
            (try simp only [Act.put, stA, st0, st1])))
          refine wpAnyH_done (by kernel_rfl) ?_ _
          go_wp2_with fail
          go_meet
          exact ⟨c5, e5, _, _, hr5, rfl, rfl, rfl, h7.v, l5, P6.2, hHeld.1⟩
        · have A6 := (Ab.refl (W5.drew)).alloc (.cells #[.int .i64 0, .int .i64 0, .int .i64 0, .int .i64 0, .int .i64 0, .int .i64 0, .int .i64 0, .int .i64 0] 30 (0, 0))
          have v6 : Var (World.alloc (W5.drew) (.cells #[.int .i64 0, .int .i64 0, .int .i64 0, .int .i64 0, .int .i64 0, .int .i64 0, .int .i64 0, .int .i64 0] 30 (0, 0))) (W5.heap.size) 8 := VB.var (vs := [.int .i64 0, .int .i64 0, .int .i64 0, .int .i64 0, .int .i64 0, .int .i64 0, .int .i64 0, .int .i64 0]) (VB.box (new_plain (by first | rfl | simp))) rfl
          have P6 := apsize (w' := W5.drew) hHeld.1 hHeld.2
          change _ < W5.heap.size ∧ _ ≤ W5.heap.size at P6
          (go_simp
           (refine hK.out _ _ ?_ (fun hHeld => ?_)
            · (try dsimp only); exact ⟨hHeld.1.trans A6, hHeld.2.ab A6⟩
            clear hK K
            (try simp only [Act.put, stA, st0, st1])))
          refine r1A 4 (fun K hK => ?_)
          (go_simp
           (go_at_call 11); refine (apply_n c11 l11 (cutM A cap k) (cap - k) (ms.length - k) (ms.drop k) (List.length_drop ..) _ ((HM.cut k cap hcap).ab hHeld.1) (by have := H100.out; omega)).mono ?_; rintro e w5 ⟨c5, e5, hr5, rfl, l5, hb5⟩
           (try go_wp2_with fail)
           (refine hK.out _ _ ?_ (fun hHeld => ?_)
            · (try dsimp only); exact ⟨hHeld.1.trans hb5, hHeld.2.ab hb5⟩
            clear hK K
            (try simp only [Act.put, stA, st0, st1])))
          (refine rtA 5 ?_ ?_
           (try simp only [Act.put, stA, st0, st1]))
          (refine rtA 6 ?_ ?_
           (try simp only [Act.put, stA, st0, st1]))
          (refine rtA 7 ?_ ?_
           (try simp only [Act.put, stA, st0, st1]))
          have v7 := v6.ab hb5
          refine r1A 9 (fun K hK => ?_)
          (try simp only [Act.put, List.getElem_toArray, List.getElem_cons_succ, List.getElem_cons_zero, stA, st0, st1])
          refine if_go (by rfl) ?_
          refine wp_stV 30 infoC _ _ rfl rfl rfl v7 rfl rfl ?_
          intro w7 h7
          (refine hK.out _ _ ?_ (fun hHeld => ?_)
           · (try dsimp only); exact ⟨h7.ab _ hHeld.1 P6.2, hHeld.2.mid h7.m (by have := P6.1; omega)⟩
           clear hK K
           (try simp only [Act.put, stA, st0, st1]))
          refine r1A 10 (fun K hK => ?_)
          (go_simp
           (refine hK.out _ _ ?_ (fun hHeld => ?_)
            · (try dsimp only); exact hHeld
            clear hK K
            (try simp only [Act.put, stA, st0, st1])))
          refine wpAnyH_done (by kernel_rfl) ?_ _
          go_wp2_with fail
          go_meet
          exact ⟨c5, e5, _, _, hr5, rfl, rfl, rfl, h7.v, l5, P6.2, hHeld.1⟩
      obtain ⟨c13, e13, h13, W6, hr13, rfl, rfl, rfl, V13, l13, hh13, A56⟩ := hcut
      obtain ⟨h131, rfl⟩ := Prod.mk.inj (hr13.out.trans (show Jour.apply c11 (ms.drop k) = (ms.foldl Jour.bump x.c, 0) by rw [H11.out]; exact HRS.out))
      have H13 := Lib.hid h131
      have V6r := V5r.ab A56
      replace V9 := V9.ab A56
      replace HM := HM.ab A56
      replace AB := AB.trans A56
      replace hO := hO.ab A56
      clear hr13 h131 V5r A56 hsl V11
      have xq0 := (V6r).at 15 rfl
      have xq1 := (V6r).at 16 rfl
      have xq2 := (V6r).at 17 rfl
      have xq3 := (V6r).at 18 rfl
      have xq4 := (V6r).at 19 rfl
      have xq5 := (V6r).at 20 rfl
      have xq6 := (V6r).at 21 rfl
      have xq7 := (V6r).at 22 rfl
      go_wp2_with fail
      refine (apply_any x.c HST.out.2 B cb ts _ (hO.mvs.zero) (by omega)).mono ?_
      rintro e w7 ⟨c15, e15, hr15, rfl, l15, hb7⟩
      obtain ⟨h151, rfl⟩ := Prod.mk.inj (hr15.out.trans HOT.out)
      have H15 := Lib.hid h151
      have A7 := (Ab.refl w7).alloc (.cells #[.int .i64 (cx c15 0), .int .i64 (cx c15 1), .int .i64 (cx c15 2), .int .i64 (cx c15 3), .int .i64 (cx c15 4), .int .i64 (cx c15 5), .int .i64 (cx c15 6), .int .i64 (cx c15 7)] 30 (0, 0))
      have V15 : VB (w7.alloc (.cells #[.int .i64 (cx c15 0), .int .i64 (cx c15 1), .int .i64 (cx c15 2), .int .i64 (cx c15 3), .int .i64 (cx c15 4), .int .i64 (cx c15 5), .int .i64 (cx c15 6), .int .i64 (cx c15 7)] 30 (0, 0))) w7.heap.size [.int .i64 (cx c15 0), .int .i64 (cx c15 1), .int .i64 (cx c15 2), .int .i64 (cx c15 3), .int .i64 (cx c15 4), .int .i64 (cx c15 5), .int .i64 (cx c15 6), .int .i64 (cx c15 7)] := VB.box (new_plain rfl)
      replace V9 := V9.ab (hb7.trans A7)
      replace V13 := V13.ab (hb7.trans A7)
      replace HM := HM.ab (hb7.trans A7)
      replace AB := AB.trans (hb7.trans A7)
      have V3s := V6r.ab (hb7.trans A7)
      clear hr15 h151 hO hb7 A7 V6r xq0 xq1 xq2 xq3 xq4 xq5 xq6 xq7
      go_upto_region 14 with fail
      generalize (w7.alloc (.cells #[.int .i64 (cx c15 0), .int .i64 (cx c15 1), .int .i64 (cx c15 2), .int .i64 (cx c15 3), .int .i64 (cx c15 4), .int .i64 (cx c15 5), .int .i64 (cx c15 6), .int .i64 (cx c15 7)] 30 (0, 0))) = W8 at V9 V13 V15 HM AB V3s ⊢
      have heq1 : ∀ w, (Op.equalIn 10000 30 (.agg #[.int .i64 (cx c9 0), .int .i64 (cx c9 1), .int .i64 (cx c9 2), .int .i64 (cx c9 3), .int .i64 (cx c9 4), .int .i64 (cx c9 5), .int .i64 (cx c9 6), .int .i64 (cx c9 7)]) (.agg #[.int .i64 (cx c13 0), .int .i64 (cx c13 1), .int .i64 (cx c13 2), .int .i64 (cx c13 3), .int .i64 (cx c13 4), .int .i64 (cx c13 5), .int .i64 (cx c13 6), .int .i64 (cx c13 7)])).run Tryz.prog w = .ok true w := fun w => run_eight c9 c13 l9 l13 w true (by rw [H9.out, H13.out]; simp)
      have heq2 : ∀ w, (Op.equalIn 10000 30 (.agg #[.int .i64 (cx c9 0), .int .i64 (cx c9 1), .int .i64 (cx c9 2), .int .i64 (cx c9 3), .int .i64 (cx c9 4), .int .i64 (cx c9 5), .int .i64 (cx c9 6), .int .i64 (cx c9 7)]) (.agg #[.int .i64 (cx c15 0), .int .i64 (cx c15 1), .int .i64 (cx c15 2), .int .i64 (cx c15 3), .int .i64 (cx c15 4), .int .i64 (cx c15 5), .int .i64 (cx c15 6), .int .i64 (cx c15 7)])).run Tryz.prog w = .ok true w := fun w => run_eight c9 c15 l9 l15 w true (by rw [H9.out, H15.out]; simp)
      have xq0 := (V9).at 0 rfl
      have xq1 := (V9).at 1 rfl
      have xq2 := (V9).at 2 rfl
      have xq3 := (V9).at 3 rfl
      have xq4 := (V9).at 4 rfl
      have xq5 := (V9).at 5 rfl
      have xq6 := (V9).at 6 rfl
      have xq7 := (V9).at 7 rfl
      have yq0 := (V13).at 0 rfl
      have yq1 := (V13).at 1 rfl
      have yq2 := (V13).at 2 rfl
      have yq3 := (V13).at 3 rfl
      have yq4 := (V13).at 4 rfl
      have yq5 := (V13).at 5 rfl
      have yq6 := (V13).at 6 rfl
      have yq7 := (V13).at 7 rfl
      have zq0 := (V15).at 0 rfl
      have zq1 := (V15).at 1 rfl
      have zq2 := (V15).at 2 rfl
      have zq3 := (V15).at 3 rfl
      have zq4 := (V15).at 4 rfl
      have zq5 := (V15).at 5 rfl
      have zq6 := (V15).at 6 rfl
      have zq7 := (V15).at 7 rfl
      go_upto_region 16 with fail
      clear heq1 heq2 xq0 xq1 xq2 xq3 xq4 xq5 xq6 xq7 yq0 yq1 yq2 yq3 yq4 yq5 yq6 yq7 zq0 zq1 zq2 zq3 zq4 zq5 zq6 zq7 V13 V15 H11 H13 H15 l11 l13 l15
      have JW := h.ab AB
      go_upto_region 17 with (first
            | (refine list_stJ rfl _ _ rfl rfl rfl (VB.var (vs := [.slice none 0 0, .slice none 0 0, .int .i64 0, .bool false, .slice none 0 0, .slice none 0 0, .int .i64 0, .bool false, .int .i64 0, .slice none 0 0, .slice none 0 0, .int .i64 0, .bool false, .int .i64 0, .int .i64 0, .int .i64 0, .int .i64 0, .int .i64 0, .int .i64 0, .int .i64 0, .int .i64 0, .int .i64 0, .int .i64 0]) (VB.box (new_plain rfl)) rfl) rfl rfl ?_
               intro w9 h9
               have A8 := h9.ab W8 ((Ab.refl W8).alloc _) (Nat.le_refl _)
               have V17 := h9.v
               have J17 := JM.stored (JM.ab JW ((Ab.refl W8).alloc _)) h9
               clear h9)
            | (refine list_ldJ rfl _ rfl rfl V3s rfl ?_))
      have z17 := V17.lt
      go_wp2
      go_loopw [18] (fun i wr => ∃ (q : Nat) (r : JX) (m : JA) (rs' : List Frame.Rec), q ≤ ms.length ∧ i = .int .i64 (q : Int) ∧ Hid (Jour.Row x ms q r rs' n c) ∧ VB wr W8.heap.size [.slice m.m.A r.s.a.s.length m.m.ca, .slice m.m.B r.s.a.t.length m.m.cb, .int .i64 r.s.a.cap, .bool r.s.a.down, .slice m.m.C r.s.b.s.length m.m.cc, .slice m.m.D r.s.b.t.length m.m.cd, .int .i64 r.s.b.cap, .bool r.s.b.down, .int .i64 r.s.n, .slice m.A r.l.dev.s.length m.ca, .slice m.B r.l.dev.t.length m.cb, .int .i64 r.l.dev.cap, .bool r.l.dev.down, .int .i64 r.l.first, .int .i64 r.l.next, .int .i64 (cx r.c 0), .int .i64 (cx r.c 1), .int .i64 (cx r.c 2), .int .i64 (cx r.c 3), .int .i64 (cx r.c 4), .int .i64 (cx r.c 5), .int .i64 (cx r.c 6), .int .i64 (cx r.c 7)] ∧ JM wr m r ∧ Ab W8 wr) (fun i _ => ms.length - (intOf i).toNat)
      case atStart => exact ⟨0, x, a, rs, Nat.zero_le _, rfl, Lib.hid (Jour.Row.start HG.out), V17, J17, A8⟩
      case round =>
        obtain ⟨q, r, m, rs', hq, rfl, hrow, V17, J17, hab⟩ := hrel
        have hxr := HR.out
        have h20r := H20.out
        by_cases hlt : q < ms.length
        · have HSTEP := Lib.hid (Jour.Row.step HR.out HST.out.2 H20.out HVA.out hrow.out hlt)
          have HNX := Lib.hid hrow.out.next
          have HNR := Lib.hid HR.out.n
          obtain ⟨ad, hA, _, c0, c1⟩ := (HM.ab hab).at_ hlt
          subst hA
          have qi : (q : Int) < (ms.length : Int) := by omega
          have q0 : (0 : Int) ≤ (q : Int) := by omega
          generalize hmq : ms[q] = mv at c0 c1 HSTEP
          clear hmq
          have zz := V17.lt
          clear hxr h20r
          go_upto_region 20 with fail
          go_cut [19, 20, 21] (fun v1 v2 v3 wx => DoRel W8 (Jour.doM r mv (some rs')) W8.heap.size [.slice m.m.A r.s.a.s.length m.m.ca, .slice m.m.B r.s.a.t.length m.m.cb, .int .i64 r.s.a.cap, .bool r.s.a.down, .slice m.m.C r.s.b.s.length m.m.cc, .slice m.m.D r.s.b.t.length m.m.cd, .int .i64 r.s.b.cap, .bool r.s.b.down, .int .i64 r.s.n, .slice m.A r.l.dev.s.length m.ca, .slice m.B r.l.dev.t.length m.cb, .int .i64 r.l.dev.cap, .bool r.l.dev.down, .int .i64 r.l.first, .int .i64 r.l.next, .int .i64 (cx r.c 0), .int .i64 (cx r.c 1), .int .i64 (cx r.c 2), .int .i64 (cx r.c 3), .int .i64 (cx r.c 4), .int .i64 (cx r.c 5), .int .i64 (cx r.c 6), .int .i64 (cx r.c 7)] v1 v2 v3 wx)
          case first =>
            refine wp_region_held_drew (by kernel_rfl) (S := fun w' => Ab W8 w' ∧ VB w' W8.heap.size [.slice m.m.A r.s.a.s.length m.m.ca, .slice m.m.B r.s.a.t.length m.m.cb, .int .i64 r.s.a.cap, .bool r.s.a.down, .slice m.m.C r.s.b.s.length m.m.cc, .slice m.m.D r.s.b.t.length m.m.cd, .int .i64 r.s.b.cap, .bool r.s.b.down, .int .i64 r.s.n, .slice m.A r.l.dev.s.length m.ca, .slice m.B r.l.dev.t.length m.cb, .int .i64 r.l.dev.cap, .bool r.l.dev.down, .int .i64 r.l.first, .int .i64 r.l.next, .int .i64 (cx r.c 0), .int .i64 (cx r.c 1), .int .i64 (cx r.c 2), .int .i64 (cx r.c 3), .int .i64 (cx r.c 4), .int .i64 (cx r.c 5), .int .i64 (cx r.c 6), .int .i64 (cx r.c 7)] ∧ w'.cell? (ad.add (q * 2)) = some (.int .i64 mv.cell) ∧ w'.cell? ⟨(ad.add (q * 2)).block, (ad.add (q * 2)).off + 1, none⟩ = some (.int .i64 mv.add) ∧ JM w' m r) ?_ (fun hHeld => ?_)
            · exact ⟨abA, V17.ab abA, c0, c1, J17.ab abA⟩
            (refine rtL 0 [.slice m.m.A r.s.a.s.length m.m.ca, .slice m.m.B r.s.a.t.length m.m.cb, .int .i64 r.s.a.cap, .bool r.s.a.down, .slice m.m.C r.s.b.s.length m.m.cc, .slice m.m.D r.s.b.t.length m.m.cd, .int .i64 r.s.b.cap, .bool r.s.b.down, .int .i64 r.s.n, .slice m.A r.l.dev.s.length m.ca, .slice m.B r.l.dev.t.length m.cb, .int .i64 r.l.dev.cap, .bool r.l.dev.down, .int .i64 r.l.first, .int .i64 r.l.next, .int .i64 (cx r.c 0), .int .i64 (cx r.c 1), .int .i64 (cx r.c 2), .int .i64 (cx r.c 3), .int .i64 (cx r.c 4), .int .i64 (cx r.c 5), .int .i64 (cx r.c 6), .int .i64 (cx r.c 7)] 0 (fun w hSw => VB.rangeAt (hSw.2.1) 0 23) Tryz.underlying32 ?_
             (try simp only [Act.put, stA, st0, st1]))
            (refine rtA 1 ?_ ?_
             (try simp only [Act.put, stA, st0, st1]))
            (refine rtA 2 ?_ ?_
             (try simp only [Act.put, stA, st0, st1]))
            (refine rtA 3 ?_ ?_
             (try simp only [Act.put, stA, st0, st1]))
            (refine rtA 4 ?_ ?_
             (try simp only [Act.put, stA, st0, st1]))
            (refine wpAnyH_ready (rs := [5, 10]) (by kernel_rfl) (by simp) ?_)
            refine AllReadyH.cons rfl (fun K hK => ?_) (AllReadyH.cons rfl (fun K hK => ?_) AllReadyH.nil)
            · (go_simp
               (go_at_call 13); refine (jdo_any m r _ hHeld.2.2.2.2 mv (some rs') hrow.out.good.is).mono ?_; rintro e w5 ⟨r5, n5, e5, m5, hr5, rfl, J5, hb5⟩
               (try go_wp2_with fail)
               (refine hK.out _ _ ?_ (fun hHeld => ?_)
                · (try dsimp only); exact ⟨hHeld.1.trans hb5, hHeld.2.1.ab hb5, hb5.at hHeld.2.2.1, hb5.at hHeld.2.2.2.1, hHeld.2.2.2.2.ab hb5⟩
                clear hK K
                (try simp only [Act.put, stA, st0, st1])))
              (refine rtA 6 ?_ ?_
               (try simp only [Act.put, stA, st0, st1]))
              (refine rtA 7 ?_ ?_
               (try simp only [Act.put, stA, st0, st1]))
              (refine rtA 8 ?_ ?_
               (try simp only [Act.put, stA, st0, st1]))
              (refine rtA 9 ?_ ?_
               (try simp only [Act.put, stA, st0, st1]))
              refine r1A 10 (fun K hK => ?_)
              have A6 := (Ab.refl (w5)).alloc (.cells #[.slice none 0 0, .slice none 0 0, .int .i64 0, .bool false, .slice none 0 0, .slice none 0 0, .int .i64 0, .bool false, .int .i64 0, .slice none 0 0, .slice none 0 0, .int .i64 0, .bool false, .int .i64 0, .int .i64 0, .int .i64 0, .int .i64 0, .int .i64 0, .int .i64 0, .int .i64 0, .int .i64 0, .int .i64 0, .int .i64 0] 32 (0, 0))
              have v6 : Var (World.alloc (w5) (.cells #[.slice none 0 0, .slice none 0 0, .int .i64 0, .bool false, .slice none 0 0, .slice none 0 0, .int .i64 0, .bool false, .int .i64 0, .slice none 0 0, .slice none 0 0, .int .i64 0, .bool false, .int .i64 0, .int .i64 0, .int .i64 0, .int .i64 0, .int .i64 0, .int .i64 0, .int .i64 0, .int .i64 0, .int .i64 0, .int .i64 0] 32 (0, 0))) (w5.heap.size) 23 := VB.var (vs := [.slice none 0 0, .slice none 0 0, .int .i64 0, .bool false, .slice none 0 0, .slice none 0 0, .int .i64 0, .bool false, .int .i64 0, .slice none 0 0, .slice none 0 0, .int .i64 0, .bool false, .int .i64 0, .int .i64 0, .int .i64 0, .int .i64 0, .int .i64 0, .int .i64 0, .int .i64 0, .int .i64 0, .int .i64 0, .int .i64 0]) (VB.box (new_plain (by first | rfl | simp))) rfl
              have P6 := apsize (w' := w5) hHeld.1 hHeld.2.1
              change _ < w5.heap.size ∧ _ ≤ w5.heap.size at P6
              have P7 := cell_lt (w := w5) hHeld.2.2.1
              change _ < w5.heap.size at P7
              (go_simp
               (refine hK.out _ _ ?_ (fun hHeld => ?_)
                · (try dsimp only); exact ⟨hHeld.1.trans A6, hHeld.2.1.ab A6, A6.at hHeld.2.2.1, A6.at hHeld.2.2.2.1, hHeld.2.2.2.2.ab A6⟩
                clear hK K
                (try simp only [Act.put, stA, st0, st1])))
              have J6 := J5.ab A6
              refine r1A 11 (fun K hK => ?_)
              (try simp only [Act.put, List.getElem_toArray, List.getElem_cons_succ, List.getElem_cons_zero, stA, st0, st1])
              refine if_go (by rfl) ?_
              refine wp_stJ _ _ rfl rfl rfl v6 rfl rfl ?_
              intro w7 h7
              (refine hK.out _ _ ?_ (fun hHeld => ?_)
               · (try dsimp only); exact ⟨h7.ab _ hHeld.1 P6.2, hHeld.2.1.mid h7.m (by have := P6.1; omega), h7.m.cell hHeld.2.2.1 (.inl P7), h7.m.cell hHeld.2.2.2.1 (.inl P7), JM.stored hHeld.2.2.2.2 h7⟩
               clear hK K
               (try simp only [Act.put, stA, st0, st1]))
              refine r1A 12 (fun K hK => ?_)
              (go_simp
               (refine hK.out _ _ ?_ (fun hHeld => ?_)
                · (try dsimp only); exact hHeld
                clear hK K
                (try simp only [Act.put, stA, st0, st1])))
              refine r1A 13 (fun K hK => ?_)
              (go_simp
               (refine hK.out _ _ ?_ (fun hHeld => ?_)
                · (try dsimp only); exact hHeld
                clear hK K
                (try simp only [Act.put, stA, st0, st1])))
              refine wpAnyH_done (by kernel_rfl) ?_ _
              go_wp2_with fail
              go_meet
              exact ⟨r5, n5, e5, m5, _, _, hr5, rfl, rfl, rfl, rfl, h7.v, JM.stored J6 h7, hHeld.2.1, P6.1, hHeld.1⟩
            · have A6 := (Ab.refl (wr.drew)).alloc (.cells #[.slice none 0 0, .slice none 0 0, .int .i64 0, .bool false, .slice none 0 0, .slice none 0 0, .int .i64 0, .bool false, .int .i64 0, .slice none 0 0, .slice none 0 0, .int .i64 0, .bool false, .int .i64 0, .int .i64 0, .int .i64 0, .int .i64 0, .int .i64 0, .int .i64 0, .int .i64 0, .int .i64 0, .int .i64 0, .int .i64 0] 32 (0, 0))
              have v6 : Var (World.alloc (wr.drew) (.cells #[.slice none 0 0, .slice none 0 0, .int .i64 0, .bool false, .slice none 0 0, .slice none 0 0, .int .i64 0, .bool false, .int .i64 0, .slice none 0 0, .slice none 0 0, .int .i64 0, .bool false, .int .i64 0, .int .i64 0, .int .i64 0, .int .i64 0, .int .i64 0, .int .i64 0, .int .i64 0, .int .i64 0, .int .i64 0, .int .i64 0] 32 (0, 0))) (wr.heap.size) 23 := VB.var (vs := [.slice none 0 0, .slice none 0 0, .int .i64 0, .bool false, .slice none 0 0, .slice none 0 0, .int .i64 0, .bool false, .int .i64 0, .slice none 0 0, .slice none 0 0, .int .i64 0, .bool false, .int .i64 0, .int .i64 0, .int .i64 0, .int .i64 0, .int .i64 0, .int .i64 0, .int .i64 0, .int .i64 0, .int .i64 0, .int .i64 0]) (VB.box (new_plain (by first | rfl | simp))) rfl
              have P6 := apsize (w' := wr.drew) hHeld.1 hHeld.2.1
              change _ < wr.heap.size ∧ _ ≤ wr.heap.size at P6
              have P7 := cell_lt (w := wr.drew) hHeld.2.2.1
              change _ < wr.heap.size at P7
              (go_simp
               (refine hK.out _ _ ?_ (fun hHeld => ?_)
                · (try dsimp only); exact ⟨hHeld.1.trans A6, hHeld.2.1.ab A6, A6.at hHeld.2.2.1, A6.at hHeld.2.2.2.1, hHeld.2.2.2.2.ab A6⟩
                clear hK K
                (try simp only [Act.put, stA, st0, st1])))
              refine r1A 5 (fun K hK => ?_)
              (go_simp
               (go_at_call 13); refine (jdo_any m r _ hHeld.2.2.2.2 mv (some rs') hrow.out.good.is).mono ?_; rintro e w5 ⟨r5, n5, e5, m5, hr5, rfl, J5, hb5⟩
               (try go_wp2_with fail)
               (refine hK.out _ _ ?_ (fun hHeld => ?_)
                · (try dsimp only); exact ⟨hHeld.1.trans hb5, hHeld.2.1.ab hb5, hb5.at hHeld.2.2.1, hb5.at hHeld.2.2.2.1, hHeld.2.2.2.2.ab hb5⟩
                clear hK K
                (try simp only [Act.put, stA, st0, st1])))
              (refine rtA 6 ?_ ?_
               (try simp only [Act.put, stA, st0, st1]))
              (refine rtA 7 ?_ ?_
               (try simp only [Act.put, stA, st0, st1]))
              (refine rtA 8 ?_ ?_
               (try simp only [Act.put, stA, st0, st1]))
              (refine rtA 9 ?_ ?_
               (try simp only [Act.put, stA, st0, st1]))
              have v7 := v6.ab hb5
              refine r1A 11 (fun K hK => ?_)
              (try simp only [Act.put, List.getElem_toArray, List.getElem_cons_succ, List.getElem_cons_zero, stA, st0, st1])
              refine if_go (by rfl) ?_
              refine wp_stJ _ _ rfl rfl rfl v7 rfl rfl ?_
              intro w7 h7
              (refine hK.out _ _ ?_ (fun hHeld => ?_)
               · (try dsimp only); exact ⟨h7.ab _ hHeld.1 P6.2, hHeld.2.1.mid h7.m (by have := P6.1; omega), h7.m.cell hHeld.2.2.1 (.inl P7), h7.m.cell hHeld.2.2.2.1 (.inl P7), JM.stored hHeld.2.2.2.2 h7⟩
               clear hK K
               (try simp only [Act.put, stA, st0, st1]))
              refine r1A 12 (fun K hK => ?_)
              (go_simp
               (refine hK.out _ _ ?_ (fun hHeld => ?_)
                · (try dsimp only); exact hHeld
                clear hK K
                (try simp only [Act.put, stA, st0, st1])))
              refine r1A 13 (fun K hK => ?_)
              (go_simp
               (refine hK.out _ _ ?_ (fun hHeld => ?_)
                · (try dsimp only); exact hHeld
                clear hK K
                (try simp only [Act.put, stA, st0, st1])))
              refine wpAnyH_done (by kernel_rfl) ?_ _
              go_wp2_with fail
              go_meet
              exact ⟨r5, n5, e5, m5, _, _, hr5, rfl, rfl, rfl, rfl, h7.v, JM.stored J5 h7, hHeld.2.1, P6.1, hHeld.1⟩
          obtain ⟨r5, n5, e5, m5, b19, W9, hr5, rfl, rfl, rfl, rfl, V19, J5, V17, hb19, A89⟩ := hcut
          obtain ⟨h51, h52⟩ := Prod.mk.inj (hr5.out.trans HSTEP.out.1)
          obtain ⟨h53, rfl⟩ := Prod.mk.inj h52
          obtain rfl : n5 = r.l.next := h53
          have H5 := Lib.hid h51
          clear hr5 h51 h52
          have V9r := V3s.ab A89
          have p14 := V9r.at 14 rfl
          have q14 := V19.at 14 rfl
          have hnq : IntKind.i64.wrap (x.l.next + (q : Int)) = r.l.next := by rw [HNX.out]; exact IntWalk.i64_in _ (by have := HNR.out; have := H20.out; have := HG.out.log.rng; omega)
          have hn1 : IntKind.i64.wrap (r.l.next + 1) = r.l.next + 1 := IntWalk.i64_in _ (by have := HNR.out; have := H20.out; have := HNX.out; have := HG.out.log.rng; omega)
          have hn5 : (r5.l.next != r.l.next + 1) = false := by rw [H5.out]; simp [Jour.stDo]
          have z17 := V17.lt
          go_wp2_with (first
            | (refine list_stJ rfl _ _ rfl rfl rfl (V17.var rfl) rfl rfl ?_
               intro wz hz
               have V17z := hz.v
               have J5z := JM.stored J5 hz
               have ABz := hz.ab W8 A89 (Nat.le_refl _)
               clear hz)
            | (refine list_ldJ rfl _ rfl rfl V19 rfl ?_))
          go_roundw
          case rel => exact ⟨q + 1, r5, m5, _, by omega, by go_num, Lib.hid (by rw [H5.out]; exact HSTEP.out.2), V17z, J5z, ABz⟩
          case measure => simp [intOf]; omega
        · obtain rfl : q = ms.length := by omega
          have hcells := hrow.out.cells
          rw [List.take_length] at hcells
          have HC := Lib.hid hcells
          have lr : r.c.length = 8 := hrow.out.good.state.2
          have heq : ∀ w, (Op.equalIn 10000 30 (.agg #[.int .i64 (cx r.c 0), .int .i64 (cx r.c 1), .int .i64 (cx r.c 2), .int .i64 (cx r.c 3), .int .i64 (cx r.c 4), .int .i64 (cx r.c 5), .int .i64 (cx r.c 6), .int .i64 (cx r.c 7)]) (.agg #[.int .i64 (cx c9 0), .int .i64 (cx c9 1), .int .i64 (cx c9 2), .int .i64 (cx c9 3), .int .i64 (cx c9 4), .int .i64 (cx c9 5), .int .i64 (cx c9 6), .int .i64 (cx c9 7)])).run Tryz.prog w = .ok true w := fun w => run_eight r.c c9 lr l9 w true (by rw [HC.out, H9.out]; simp)
          have V9r := V9.ab hab
          clear hcells hxr h20r
          have xq0 := (V17).at 15 rfl
          have xq1 := (V17).at 16 rfl
          have xq2 := (V17).at 17 rfl
          have xq3 := (V17).at 18 rfl
          have xq4 := (V17).at 19 rfl
          have xq5 := (V17).at 20 rfl
          have xq6 := (V17).at 21 rfl
          have xq7 := (V17).at 22 rfl
          have yq0 := (V9r).at 0 rfl
          have yq1 := (V9r).at 1 rfl
          have yq2 := (V9r).at 2 rfl
          have yq3 := (V9r).at 3 rfl
          have yq4 := (V9r).at 4 rfl
          have yq5 := (V9r).at 5 rfl
          have yq6 := (V9r).at 6 rfl
          have yq7 := (V9r).at 7 rfl
          go_wp2_with (refine list_ldJg (by rfl) _ rfl rfl V17 rfl ?_)
          refine (jrcheck_any m r _ J17 (some rs') hrow.out.good.is).mono ?_
          rintro e wa ⟨er, hr, rfl, hba⟩
          obtain rfl : er = 0 := hr.out.trans hrow.out.good.check
          clear hr
          go_wp2_with fail
          refine (jalive_true _).mono ?_
          rintro e wb ⟨rfl, hbb⟩
          go_wp2
          go_ret
          exact ⟨rfl, abA⟩
end Go.Proofs.YthgcfjhnnhigoaaGreat
