/- Next and Decode, walked. Own work. -/
import Derived.Test.YtjgijpfknhfnjaaCvFunD
set_option linter.unusedVariables false
set_option linter.unusedSimpArgs false
namespace Go.Proofs.Ytjgijpfknhfnjaa
open Go.RowKit
open Codec (V)

theorem Stored.at_ {w w' : World} {b : Nat} {us : List Value} {p : Addr} {v : Value} (h : Stored w b us w') (hc : w.cell? p = some v) (hp : p.block ≠ b) : w'.cell? p = some v :=
  (World.cell?_of_block (h.blk _ hp)).trans hc
theorem res_V3 {w : World} {b : Nat} {vs : List Value} (T : TypeId) {n : Nat} {d : TypeDesc} (hT : (Try.prog.info? T).map (·.size) = some n) (hu : Try.prog.underlying T = some d) (hd : d.isRow = true) {fn : Func} {p u u2 : Tmp} (h : fn.results = #[.cell p T, .tmp u, .tmp u2]) (tmps : Array Value) (hp : tmps.getD p undef = .pointer (some ⟨b, 0, none⟩)) (hv : VB w b vs) (hl : vs.length = n) :
    (results fn tmps).run Try.prog w = .ok (.tuple #[.agg vs.toArray, tmps.getD u undef, tmps.getD u2 undef]) w := by
  have hp' : tmps[p]?.getD undef = .pointer (some ⟨b, 0, none⟩) := by simpa using hp
  simp [results, h, hp', asAddr, run_loadVar_mid w b 0 T vs _ hv.range hu hd (by rw [hT, hl])]
theorem vl_zero {w : World} {S : Nat → Prop} {d : Nat} : VL (d + 1) w S VM.zero := ⟨⟨by simp [VM.zero], by simp [VM.zero], by simp [VM.zero], by simp [VM.zero], by simp [VM.zero], by simp [VM.zero], by simp [VM.zero]⟩, RS.nil, fun h => absurd h (by simp [VM.zero])⟩
/-- What Next returns. -/
def RetN (w : World) (l : List UInt8) (e : Ending) (w' : World) : Prop :=
  ∃ (x : VM) (u er : Int), e = .returned (.tuple #[x.val, .int .i64 u, .int .i64 er]) ∧ Hid (Codec.next l = (x.v, u, er)) ∧ VL 6 w' (fun g => w.heap.size ≤ g) x ∧ Ab w w'
theorem min_any (a : Nat) : min (a : Int) 3000 = ((min a 3000 : Nat) : Int) := by omega
set_option maxRecDepth 100000 in
set_option maxHeartbeats 1000000 in
theorem next_any (A : Option Addr) (l : List UInt8) (c : Nat) (w : World) (hb : RB w 0 A l) (hc : l.length ≤ c) (ll : l.length ≤ 9223372036854775807) :
    Calls Try.prog 56 #[.slice A l.length c] w (RetN w l) := by
  have HN := Lib.hid (Codec.next_of_cut (t := l) (by omega))
  obtain ⟨k, hk⟩ : ∃ k, k = min l.length 3000 := ⟨_, rfl⟩
  have hk1 : k ≤ l.length := by omega
  have hk2 : k ≤ 3000 := by omega
  have htl : Hid ((l.take 3000).length = k) := by unfold Hid; rw [List.length_take, Nat.min_comm]; exact hk.symm
  have htk : Hid (l.take 3000 = l.take k) := by
    unfold Hid
    rw [hk, List.take_eq_take_iff]; omega
  have M1 : ∀ w0, (Instr.slice 22 (.slice A l.length c) none (some (.int .i64 (k : Int))) none).run Try.prog w0 = .ok (.slice A k c) w0 := fun w0 => cv_head k .i64 A l.length c w0 (by omega)
  have hif : (if 3000 < (l.length : Int) then (3000 : Int) else (l.length : Int)) = (k : Int) := by split <;> omega
  have V0 : ∀ w', RB w' 0 A l → ∀ R, VB w' R [.slice A k c] → (∀ ad, A = some ad → 0 < l.length → ad.block < R) → Rd w' R (l.take 3000) := by
    intro w' hb' R hv hlt
    refine ⟨A, c, by rw [htl.out]; exact hv, fun hl => ?_, by rw [htl.out]; omega, by rw [htl.out]; omega⟩
    have hpos : 0 < l.length := by rw [htl.out] at hl; omega
    obtain ⟨ad, h1, h2, h3⟩ := hb'.take 3000 hl
    exact ⟨ad, h1, hlt ad h1 hpos, h3⟩
  have HV0 := Lib.hid V0
  have HB : Hid (∀ ad, A = some ad → 0 < l.length → ad.block < w.heap.size) := by
    intro ad e hl
    obtain ⟨ad', h1, _, h3⟩ := hb hl
    rw [e] at h1; cases h1
    have := cell_lt (h3 0 hl)
    rwa [addr_add_block] at this
  clear hk V0
  go_enter Try.func56, Try.ntmps56
  go_upto_region 3 with fail
  have ab1 : Ab w ((w.alloc (.cells VM.zero.cells.toArray 58)).alloc (.cells #[.slice A k c] 102)) := abA
  have V1 : VB ((w.alloc (.cells VM.zero.cells.toArray 58)).alloc (.cells #[.slice A k c] 102)) (w.heap.size + 1) [.slice A k c] :=
    VB.box (xs := #[.slice A k c]) (T := 102) (by (repeat (first | exact new_plain wnA | with_reducible refine old_alloc ?_ | with_reducible refine old_drew ?_ | with_reducible refine old_set ?_ wnA | with_reducible refine old_ab (by assumption) ?_)))
  have Y1 : VB ((w.alloc (.cells VM.zero.cells.toArray 58)).alloc (.cells #[.slice A k c] 102)) w.heap.size VM.zero.cells :=
    VB.box (xs := VM.zero.cells.toArray) (T := 58) (by (repeat (first | exact new_plain wnA | with_reducible refine old_alloc ?_ | with_reducible refine old_drew ?_ | with_reducible refine old_set ?_ wnA | with_reducible refine old_ab (by assumption) ?_)))
  have hR1 := HV0.out _ (hb.ab ab1) _ V1 (fun ad e hl => by have := HB.out ad e hl; omega)
  clear V1 hif M1
  go_wp2_with fail
  refine ((takeValue_any 6 (by omega)).out _ _ _ hR1).mono ?_
  rintro e w2 ⟨hg2, hm⟩
  have Y2 := Y1.grown hg2 (by simp)
  have ab2 : Ab w w2 := grown_ab ab1 hg2 (fun g e => by cases e; omega)
  clear Y1 hR1
  rcases hrd : Codec.read 6 (l.take 3000) with _ | ⟨v, u⟩
  · have HN2 : Hid (Codec.next l = (V.zero, 0, 12)) := by unfold Hid; rw [HN.out, hrd]
    rw [hrd] at hm
    obtain ⟨x, rfl⟩ := hm
    have Z2 : VB (w2.alloc (.cells VM.zero.cells.toArray 58)) w2.heap.size VM.zero.cells := VB.box (xs := VM.zero.cells.toArray) (T := 58) (by (repeat (first | exact new_plain wnA | with_reducible refine old_alloc ?_ | with_reducible refine old_drew ?_ | with_reducible refine old_set ?_ wnA | with_reducible refine old_ab (by assumption) ?_)))
    clear hrd
    have hz := Y2.lt
    go_upto_region 4 with (refine list_stV (o := ⟨none, _, _, _, _, _⟩) (us := x.cells) _ infoV rfl _ _ rfl rfl rfl Z2 rfl rfl x.one ?_
                           intro w3 h3)
    have Y3 := h3.vb (Y2.ab abA) (by omega)
    have ab3 := h3.ab w (Ab.trans ab2 abA) ab2.size
    clear h3 Z2 Y2
    go_wp2_with (refine list_stV (o := ⟨none, _, _, _, _, _⟩) (us := VM.zero.cells) _ infoV rfl _ _ rfl rfl rfl Y3 rfl rfl rfl ?_
                 intro w4 h4)
    refine bodyPost_ret (res_V3 _ infoV Try.underlying58 rfl Try.results56 _ rfl h4.v rfl) rfl ?_
    exact ⟨VM.zero, 0, 12, rfl, HN2, vl_zero, h4.ab w ab3 (Nat.le_refl _)⟩
  · have HN2 : Hid (Codec.next l = (v, (u : Int), 0)) := by unfold Hid; rw [HN.out, hrd]
    rw [hrd] at hm
    obtain ⟨x, rfl, hxv, hx, hR2⟩ := hm
    have hu := read_used hrd (by rw [htl.out]; omega)
    rw [htl.out] at hu
    have Z2 : VB (w2.alloc (.cells VM.zero.cells.toArray 58)) w2.heap.size VM.zero.cells := VB.box (xs := VM.zero.cells.toArray) (T := 58) (by (repeat (first | exact new_plain wnA | with_reducible refine old_alloc ?_ | with_reducible refine old_drew ?_ | with_reducible refine old_set ?_ wnA | with_reducible refine old_ab (by assumption) ?_)))
    clear hrd
    have hz := Y2.lt
    go_upto_region 6 with (refine list_stV (o := ⟨none, _, _, _, _, _⟩) (us := x.cells) _ infoV rfl _ _ rfl rfl rfl Z2 rfl rfl x.one ?_
                           intro w3 h3)
    have V3 : VB w3 w2.heap.size x.cells := h3.v
    have Y3 := h3.vb (Y2.ab abA) (by omega)
    have ab3 := h3.ab w (Ab.trans ab2 abA) ab2.size
    have hx3 : VL 6 w3 (fun g => w.heap.size + 2 ≤ g) x := VL.mono (fun g hg => by simp at hg; omega) ((hx.lt.ab (w' := w2.alloc (.cells VM.zero.cells.toArray 58)) abA).keep (w' := w3) fun g hg hl => h3.blk g (by have := hg.2; omega))
    have hR3 : Rd w3 (w.heap.size + 1) (List.drop u (List.take 3000 l)) := (hR2.ab abA).grownA h3.self (fun g e => by cases e; exact hR2.lt)
    have hdl : (List.drop u (List.take 3000 l)).length = k - u := by rw [List.length_drop, htl.out]
    obtain ⟨A5, c5, hv5, _⟩ := hR3
    rw [hdl] at hv5
    have cr := hv5.at 0 rfl
    have jw : IntKind.i64.wrap ((k : Int) - ((k - u : Nat) : Int)) = (k : Int) - ((k - u : Nat) : Int) := IntWalk.i64_in _ (by omega)
    have je : Hid ((k : Int) - ((k - u : Nat) : Int) = (u : Int)) := by unfold Hid; omega
    have HX := Lib.hid hxv
    clear hdl hv5 h3 Z2 Y2 hR2 hx ab2 hg2 ab1 hxv hu
    generalize w2.heap.size = b3 at *
    generalize k - u = ku at *
    refine wp_region_held_drew (by kernel_rfl) (S := fun w' => VB w' b3 x.cells ∧ w'.cell? ⟨w.heap.size + 1, 0, none⟩ = some (.slice A5 ku c5)) ?_ (fun hHeld => ?_)
    · exact ⟨VB.ab V3 abA, cell_drew cr⟩
    (refine rtL 0 x.cells 0 (fun w hSw => VB.range hSw.1) Try.underlying58 ?_
     (try simp only [Act.put, stA, st0, st1]))
    (refine rtA 1 ?_ ?_
     (try simp only [Act.put, stA, st0, st1]))
    (refine rtA 2 ?_ ?_
     (try simp only [Act.put, stA, st0, st1]))
    (refine rtA 3 ?_ ?_
     (try simp only [Act.put, stA, st0, st1]))
    (refine rtA 4 ?_ ?_
     (try simp only [Act.put, stA, st0, st1]))
    (refine rtA 5 ?_ ?_
     (try simp only [Act.put, stA, st0, st1]))
    (refine rtA 6 ?_ ?_
     (try simp only [Act.put, stA, st0, st1]))
    refine r1A 7 (fun K hK => ?_)
    (try simp only [Act.put, List.getElem_toArray, List.getElem_cons_succ, List.getElem_cons_zero, stA, st0, st1])
    refine if_go (by rfl) ?_
    refine wp_stV (us := x.cells) _ infoV _ _ rfl rfl rfl (VB.ab Y3 abA) rfl rfl x.one ?_
    intro w9 h9
    (refine hK.out _ _ ?_ (fun hHeld => ?_)
     · (try dsimp only); exact ⟨h9.vb (VB.ab V3 abA) (by omega), h9.at_ (cell_drew cr) (by simp)⟩
     clear hK K
     (try simp only [Act.put, stA, st0, st1]))
    refine r1A 8 (fun K hK => ?_)
    (go_simp
     (refine hK.out _ _ ?_ (fun hHeld => ?_)
      · (try dsimp only); exact ⟨h9.vb (VB.ab V3 abA) (by omega), h9.at_ (cell_drew cr) (by simp)⟩
      clear hK K
      (try simp only [Act.put, stA, st0, st1])))
    refine r1A 9 (fun K hK => ?_)
    (go_simp
     (refine hK.out _ _ ?_ (fun hHeld => ?_)
      · (try dsimp only); exact ⟨h9.vb (VB.ab V3 abA) (by omega), h9.at_ (cell_drew cr) (by simp)⟩
      clear hK K
      (try simp only [Act.put, stA, st0, st1])))
    refine wpAnyH_done (by kernel_rfl) ?_ _
    go_wp2
    refine bodyPost_ret (res_V3 _ infoV Try.underlying58 rfl Try.results56 _ rfl (h9.v.ab abA) rfl) rfl ?_
    have hx9 : VL 6 w9 (fun g => w.heap.size ≤ g) x := VL.mono (fun g hg => by omega) ((hx3.ab (w' := w3.drew) abA).keep (w' := w9) fun g hg hl => h9.blk g (by omega))
    exact ⟨x, (u : Int), 0, by rw [← je.out]; rfl, Lib.hid (by rw [HN2.out, HX.out]), hx9.ab abA, Ab.trans (h9.ab w (Ab.trans ab3 abA) (Nat.le_refl _)) abA⟩
/-- What Decode returns. -/
def RetD (w : World) (l : List UInt8) (e : Ending) (w' : World) : Prop :=
  ∃ (x : VM) (er : Int), e = .returned (.tuple #[x.val, .int .i64 er]) ∧ Hid (Codec.decode l = (x.v, er)) ∧ VL 6 w' (fun g => w.heap.size ≤ g) x ∧ Ab w w'
set_option maxRecDepth 100000 in
set_option maxHeartbeats 1000000 in
theorem decode_any (A : Option Addr) (l : List UInt8) (c : Nat) (w : World) (hb : RB w 0 A l) (hc : l.length ≤ c) (ll : l.length ≤ 9223372036854775807) :
    Calls Try.prog 33 #[.slice A l.length c] w (RetD w l) := by
  have HX := fun w' (hk : Ab w w') => next_any A l c w' (hb.ab hk) hc ll
  go_enter Try.func33, Try.ntmps33
  have Y0 : VB (w.alloc (.cells VM.zero.cells.toArray 58)) w.heap.size VM.zero.cells := VB.box (xs := VM.zero.cells.toArray) (T := 58) (by (repeat (first | exact new_plain wnA | with_reducible refine old_alloc ?_ | with_reducible refine old_drew ?_ | with_reducible refine old_set ?_ wnA | with_reducible refine old_ab (by assumption) ?_)))
  go_wp2_with fail
  refine (HX _ abA).mono ?_
  rintro e w1 ⟨x, u, er, rfl, hn, hx, hb1⟩
  have ab1 : Ab w w1 := Ab.trans abA hb1
  have Y1 := Y0.ab hb1
  have Z1 : VB (w1.alloc (.cells VM.zero.cells.toArray 58)) w1.heap.size VM.zero.cells := VB.box (xs := VM.zero.cells.toArray) (T := 58) (by (repeat (first | exact new_plain wnA | with_reducible refine old_alloc ?_ | with_reducible refine old_drew ?_ | with_reducible refine old_set ?_ wnA | with_reducible refine old_ab (by assumption) ?_)))
  have hz := Y1.lt
  clear Y0 hb1 HX
  go_upto_region 2 with (refine list_stV (o := ⟨none, _, _, _, _, _⟩) (us := x.cells) _ infoV rfl _ _ rfl rfl rfl Z1 rfl rfl x.one ?_
                         intro w2 h2)
  have V2 : VB w2 w1.heap.size x.cells := h2.v
  have Y2 := h2.vb (Y1.ab abA) (by omega)
  have ab2 := h2.ab w (Ab.trans ab1 abA) ab1.size
  have hx2 : VL 6 w2 (fun g => w.heap.size + 1 ≤ g) x := VL.mono (fun g hg => by simp at hg; omega) ((hx.lt.ab (w' := w1.alloc (.cells VM.zero.cells.toArray 58)) abA).keep (w' := w2) fun g hg hl => h2.blk g (by have := hg.2; omega))
  clear h2 Y1 Z1 hx
  generalize w1.heap.size = b1 at *
  by_cases h0 : er = 0 ∧ u = (l.length : Int)
  · obtain ⟨rfl, rfl⟩ := h0
    have HD : Hid (Codec.decode l = (x.v, 0)) := by unfold Hid Codec.decode; rw [hn.out]; simp
    go_wp2_with (first
      | (refine list_ldV (o := ⟨some 22, _, _, _, _, _⟩) _ infoV Try.underlying58 rfl rfl _ rfl rfl V2 rfl ?_)
      | (refine list_stV (o := ⟨none, _, _, _, _, _⟩) (us := x.cells) _ infoV rfl _ _ rfl rfl rfl Y2 rfl rfl x.one ?_
         intro w9 h9))
    refine bodyPost_ret (res_V2 _ infoV Try.underlying58 rfl Try.results33 _ rfl h9.v rfl) rfl ?_
    exact ⟨x, 0, rfl, HD, VL.mono (fun g hg => by omega) (hx2.keep (w' := w9) fun g hg hl => h9.blk g (by omega)), h9.ab w ab2 (Nat.le_refl _)⟩
  · have HD : Hid (Codec.decode l = (V.zero, 12)) := by
      unfold Hid Codec.decode
      rw [hn.out, if_pos]
      by_cases h1 : er = 0
      · exact .inr fun h2 => h0 ⟨h1, h2⟩
      · exact .inl h1
    by_cases he : er = 0
    · have hne : (u != (l.length : Int)) = true := by simp; intro h; exact h0 ⟨he, h⟩
      subst he
      clear h0 hn
      go_wp2_with (first
        | (refine list_stV (o := ⟨none, _, _, _, _, _⟩) (us := VM.zero.cells) _ infoV rfl _ _ rfl rfl rfl Y2 rfl rfl rfl ?_
           intro w9 h9))
      refine bodyPost_ret (res_V2 _ infoV Try.underlying58 rfl Try.results33 _ rfl h9.v rfl) rfl ?_
      exact ⟨VM.zero, 12, rfl, HD, vl_zero, h9.ab w ab2 (Nat.le_refl _)⟩
    · have he2 : (er == 0) = false := by simpa using he
      have he3 : (er != 0) = true := by simpa using he
      clear h0 hn
      go_wp2_with (first
        | (refine list_stV (o := ⟨none, _, _, _, _, _⟩) (us := VM.zero.cells) _ infoV rfl _ _ rfl rfl rfl Y2 rfl rfl rfl ?_
           intro w9 h9))
      refine bodyPost_ret (res_V2 _ infoV Try.underlying58 rfl Try.results33 _ rfl h9.v rfl) rfl ?_
      exact ⟨VM.zero, 12, rfl, HD, vl_zero, h9.ab w ab2 (Nat.le_refl _)⟩
end Go.Proofs.Ytjgijpfknhfnjaa
