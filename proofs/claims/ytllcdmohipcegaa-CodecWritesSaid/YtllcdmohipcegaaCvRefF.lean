/- The reference of the codec: Check; values that are not great, walked. Own work. -/
import Derived.Test.YtllcdmohipcegaaCvRefE
import Derived.Test.YtllcdmohipcegaaCodecG
set_option linter.unusedVariables false
set_option linter.unusedSimpArgs false
namespace Go.Proofs.Ytllcdmohipcegaa
open Go.RowKit
open Codec (V)

theorem VL.wf : ∀ {d : Nat} {w : World} {S : Nat → Prop} {x : VM}, VL d w S x → Codec.wf d x.v := by
  intro d
  induction d with
  | zero => intro w S x h; exact h.elim
  | succ d ih =>
    intro w S x h
    refine ⟨h.1.2.1, h.1.2.2.1, by show x.b.length < _; have := h.1.2.2.2.2.1; omega, by show x.l.length < _; have := h.1.2.2.2.2.2.2; omega, fun e he => ?_⟩
    obtain ⟨i, hi, rfl⟩ := List.mem_iff_getElem.1 he
    obtain ⟨g, o, _, _, h3⟩ := h.2.2 (by show 0 < x.l.length; have : i < x.l.length := hi; omega)
    obtain ⟨y, y1, _, y3⟩ := h3 i hi
    have := ih y3
    rw [y1] at this
    exact this
theorem wf_kinds : ∀ (d e : Nat) (v : V), Codec.kinds d v = true → Codec.wf e v → Codec.wf d v := by
  intro d
  induction d with
  | zero => intro e v h; simp [Codec.kinds] at h
  | succ d ih =>
    intro e v hk hw
    cases e with
    | zero => exact hw.elim
    | succ e =>
      refine ⟨hw.1, hw.2.1, hw.2.2.1, hw.2.2.2.1, fun x hx => ?_⟩
      rcases Codec.kinds_cases hk with ⟨n, rfl⟩ | ⟨b, rfl⟩ | ⟨l, rfl, hl⟩
      · simp [V.l] at hx
      · simp [V.l] at hx
      · exact ih e x (hl x hx) (hw.2.2.2.2 x hx)
/-- A value that is not great has a size. -/
theorem fits_of {D : Nat} {w : World} {S : Nat → Prop} {x : VM} (hx : VL D w S x) (h : Codec.tot 20 x.v ≤ 2000 ∧ Codec.wok 21 x.v) : Fits x.v := by
  intro hk
  have := Codec.enc_tot 6 21 20 x.v hk (wf_kinds 6 D _ hk hx.wf) h.2 (by omega) (by omega)
  omega
set_option maxRecDepth 100000 in
theorem rcheck_any (D : Nat) (S : Nat → Prop) (x : VM) (w : World) (hx : VL D w S x) (hf : Fits x.v) :
    Calls Try.prog 26 #[x.val] w fun e w' => e = .returned (.int .i64 (Codec.check x.v)) ∧ Ab w w' := by
  obtain ⟨k1, n1, A1, s1, c1, L1, l1, d1⟩ := x
  have HI := fun w' (hk' : Ab w w') => (rkinds_any 6 (by omega)).out ⟨k1, n1, A1, s1, c1, L1, l1, d1⟩ w' (hx.ab hk')
  unfold VM.val VM.cells at HI ⊢
  obtain ⟨v, hv⟩ : ∃ v, v = VM.v ⟨k1, n1, A1, s1, c1, L1, l1, d1⟩ := ⟨_, rfl⟩
  have HV := Lib.hid hv
  rw [← hv] at hf ⊢
  go_enter Try.func26, Try.ntmps26
  have V0 : VB (w.alloc (.cells #[.int .u8 (k1 : Int), .int .i64 n1, .slice A1 s1.length c1, .slice L1 l1.length d1] 26)) w.heap.size [.int .u8 (k1 : Int), .int .i64 n1, .slice A1 s1.length c1, .slice L1 l1.length d1] := VB.box (xs := #[.int .u8 (k1 : Int), .int .i64 n1, .slice A1 s1.length c1, .slice L1 l1.length d1]) (T := 26) (by (repeat (first | exact new_plain wnA | with_reducible refine old_alloc ?_ | with_reducible refine old_drew ?_ | with_reducible refine old_set ?_ wnA | with_reducible refine old_ab (by assumption) ?_)))
  clear hv
  go_wp2_with fail
  refine (HI _ abA).mono ?_
  rintro e w2 ⟨rfl, hb2⟩
  have ab2 : Ab w w2 := Ab.trans abA hb2
  have V2 := V0.ab hb2
  have q0 := V2.at 0 rfl
  have q1 := V2.at 1 rfl
  have q2 := V2.at 2 rfl
  have q3 := V2.at 3 rfl
  rw [← HV.out]
  clear V0 V2 hb2 HI
  rcases hkd : Codec.kinds 6 v with _ | _
  · have HS : Hid (Codec.check v = 8) := by unfold Hid Codec.check; rw [hkd]; rfl
    clear hkd hf
    go_wp2
    go_ret
    exact ⟨by rw [HS.out]; rfl, ab2⟩
  · have hle := hf hkd
    have HC := rbytes_any 6 D S ⟨k1, n1, A1, s1, c1, L1, l1, d1⟩ w2 (hx.ab ab2) (by rw [← HV.out]; exact hkd) (by rw [← HV.out]; exact hle)
    rw [← HV.out] at HC
    unfold VM.val VM.cells at HC
    have HS : Hid (Codec.check v = if 3000 < (Codec.enc 6 v).length then 4 else 0) := by unfold Hid Codec.check; rw [hkd, if_neg (by simp)]
    generalize Codec.enc 6 v = z at *
    clear hkd hf
    go_wp2_with fail
    refine HC.mono ?_
    rintro e w3 ⟨A3, c3, L3, rfl, hL3, O3, hb3⟩
    have hzl := hL3.out.1.length_le
    by_cases h3 : 3000 < L3.length
    · have h3' : (3000 : Int) < (L3.length : Int) := by omega
      have HS2 : Hid (Codec.check v = 4) := by unfold Hid; rw [HS.out, if_pos (by omega)]
      clear h3
      go_wp2
      go_ret
      exact ⟨by rw [HS2.out]; rfl, ab2.trans hb3⟩
    · have h3' : ¬ (3000 : Int) < (L3.length : Int) := by omega
      have HS2 : Hid (Codec.check v = 0) := by
        unfold Hid
        rcases hL3.out.2 with h | h
        · rw [HS.out, if_neg (by rw [← h]; exact h3)]
        · exact absurd h h3
      clear h3
      go_wp2
      go_ret
      exact ⟨by rw [HS2.out]; rfl, ab2.trans hb3⟩
/-- How many values there are, up to M of them. -/
def Ct (d : Nat) : Prop := ∀ (D : Nat) (S : Nat → Prop) (x : VM) (M : Nat) (w : World), VL D w S x → 1 ≤ M → M ≤ 2001 →
    Calls Try.prog 37 #[x.val, .int .i64 (M : Int), .int .i64 (d : Int)] w fun e w' => ∃ n : Nat, e = .returned (.int .i64 (n : Int)) ∧ 1 ≤ n ∧ n ≤ M ∧ Hid (n < M → Codec.tot d x.v = n) ∧ Ab w w'
theorem Ct.out {d : Nat} (h : Ct d) {D : Nat} {S : Nat → Prop} (x : VM) (M : Nat) (w : World) (hx : VL D w S x) (h1 : 1 ≤ M) (h2 : M ≤ 2001) :
    Calls Try.prog 37 #[x.val, .int .i64 (M : Int), .int .i64 (d : Int)] w fun e w' => ∃ n : Nat, e = .returned (.int .i64 (n : Int)) ∧ 1 ≤ n ∧ n ≤ M ∧ Hid (n < M → Codec.tot d x.v = n) ∧ Ab w w' := h D S x M w hx h1 h2
set_option maxRecDepth 100000 in
theorem count_0 (x : VM) (M : Nat) (w : World) (h1 : 1 ≤ M) (h2 : M ≤ 2001) :
    Calls Try.prog 37 #[x.val, .int .i64 (M : Int), .int .i64 0] w fun e w' => ∃ n : Nat, e = .returned (.int .i64 (n : Int)) ∧ 1 ≤ n ∧ n ≤ M ∧ Hid (n < M → Codec.tot 0 x.v = n) ∧ Ab w w' := by
  obtain ⟨k1, n1, A1, s1, c1, L1, l1, d1⟩ := x
  have HM := Lib.hid h1
  unfold VM.val VM.cells
  go_enter Try.func37, Try.ntmps37
  have V0 : VB (w.alloc (.cells #[.int .u8 (k1 : Int), .int .i64 n1, .slice A1 s1.length c1, .slice L1 l1.length d1] 26)) w.heap.size [.int .u8 (k1 : Int), .int .i64 n1, .slice A1 s1.length c1, .slice L1 l1.length d1] := VB.box (xs := #[.int .u8 (k1 : Int), .int .i64 n1, .slice A1 s1.length c1, .slice L1 l1.length d1]) (T := 26) (by (repeat (first | exact new_plain wnA | with_reducible refine old_alloc ?_ | with_reducible refine old_drew ?_ | with_reducible refine old_set ?_ wnA | with_reducible refine old_ab (by assumption) ?_)))
  have q3 := V0.at 3 rfl
  clear V0
  go_wp2
  go_loopw [7, 8] (fun s7 s8 w' => s7 = .int .i64 1 ∧ s8 = .int .i64 0 ∧ Ab w w' ∧ w'.cell? ⟨w.heap.size, 3, none⟩ = some (.slice L1 l1.length d1)) (fun _ _ _ => 0)
  case atStart => exact ⟨rfl, rfl, abA, q3⟩
  case round =>
    clear q3
    obtain ⟨rfl, rfl, hb, hq⟩ := hrel
    by_cases ha : (0 : Int) < (l1.length : Int)
    · by_cases hc : (1 : Int) < (M : Int)
      all_goals
        go_wp2
        go_ret
        exact ⟨1, rfl, by omega, HM.out, fun _ => rfl, hb⟩
    · go_wp2
      go_ret
      exact ⟨1, rfl, by omega, HM.out, fun _ => rfl, hb⟩
set_option maxRecDepth 100000 in
set_option maxHeartbeats 1000000 in
theorem count_1 (d : Nat) (hd : d ≤ 100) (hC : Ct d) (D : Nat) (S : Nat → Prop) (x : VM) (M : Nat) (w : World) (hx : VL (D + 1) w S x) (h1 : 1 ≤ M) (h2 : M ≤ 2001) :
    Calls Try.prog 37 #[x.val, .int .i64 (M : Int), .int .i64 ((d + 1 : Nat) : Int)] w fun e w' => ∃ n : Nat, e = .returned (.int .i64 (n : Int)) ∧ 1 ≤ n ∧ n ≤ M ∧ Hid (n < M → Codec.tot (d + 1) x.v = n) ∧ Ab w w' := by
  obtain ⟨k1, n1, A1, s1, c1, L1, l1, d1⟩ := x
  have ll : l1.length ≤ 9223372036854775807 := hx.1.2.2.2.2.2.2
  have HLL := Lib.hid hx.els
  have HT : Hid (Codec.tot (d + 1) (VM.v ⟨k1, n1, A1, s1, c1, L1, l1, d1⟩) = 1 + Codec.tsum d l1 l1.length) := Lib.hid (Codec.tsum_all d _)
  have HCC := Lib.hid hC
  have dj : ((d + 1 : Nat) : Int) - 1 = (d : Int) := by omega
  have dlo : 1 ≤ ((d + 1 : Nat) : Int) := by omega
  have dhi : ((d + 1 : Nat) : Int) ≤ 101 := by omega
  have HM := Lib.hid h1
  have h2' : (M : Int) ≤ 2001 := by omega
  generalize ((d + 1 : Nat) : Int) = P at *
  unfold VM.val VM.cells
  clear hx hC
  go_enter Try.func37, Try.ntmps37
  have V0 : VB (w.alloc (.cells #[.int .u8 (k1 : Int), .int .i64 n1, .slice A1 s1.length c1, .slice L1 l1.length d1] 26)) w.heap.size [.int .u8 (k1 : Int), .int .i64 n1, .slice A1 s1.length c1, .slice L1 l1.length d1] := VB.box (xs := #[.int .u8 (k1 : Int), .int .i64 n1, .slice A1 s1.length c1, .slice L1 l1.length d1]) (T := 26) (by (repeat (first | exact new_plain wnA | with_reducible refine old_alloc ?_ | with_reducible refine old_drew ?_ | with_reducible refine old_set ?_ wnA | with_reducible refine old_ab (by assumption) ?_)))
  have q3 := V0.at 3 rfl
  clear V0
  go_wp2
  go_loopw [7, 8] (fun s7 s8 w' => ∃ k n : Nat, k ≤ l1.length ∧ s8 = .int .i64 (k : Int) ∧ s7 = .int .i64 (n : Int) ∧ 1 ≤ n ∧ n ≤ M ∧ Hid (n < M → 1 + Codec.tsum d l1 k = n) ∧ Ab w w' ∧ w'.cell? ⟨w.heap.size, 3, none⟩ = some (.slice L1 l1.length d1)) (fun _ s8 _ => l1.length - (intOf s8).toNat)
  case atStart => exact ⟨0, 1, by omega, rfl, rfl, by omega, HM.out, fun _ => by simp [Codec.tsum], abA, q3⟩
  case round =>
    clear q3
    obtain ⟨k, n, hk, rfl, rfl, hn1, hn2, hn, hb, hq⟩ := hrel
    rename World => w1
    by_cases hlt : k < l1.length
    · have hki : (k : Int) < (l1.length : Int) := by omega
      by_cases hnM : n < M
      · have hnM' : (n : Int) < (M : Int) := by omega
        have hP : (0 : Int) < P := by omega
        obtain ⟨p, ⟨k3, n3, A3, s3, c3, L3, l3, d3⟩, rfl, yv, yl, p0, p1, p2, p3⟩ := HLL.out.at4 hlt
        have q0 := hb.at p0
        have q1 := hb.at p1
        have q2 := hb.at p2
        have q3 := hb.at p3
        obtain ⟨z, hz⟩ : ∃ z, z = M - n := ⟨_, rfl⟩
        have hzi : (M : Int) - (n : Int) = (z : Int) := by omega
        have HC := HCC.out.out ⟨k3, n3, A3, s3, c3, L3, l3, d3⟩ z w1 (yl.ab hb) (by omega) (by omega)
        have HX : Hid (n = 1 + Codec.tsum d l1 k) := Lib.hid (hn.out hnM).symm
        have HS : Hid (Codec.tsum d l1 (k + 1) = Codec.tsum d l1 k + Codec.tot d (VM.v ⟨k3, n3, A3, s3, c3, L3, l3, d3⟩)) := by unfold Hid; rw [Codec.tsum_succ d l1 k hlt, yv]
        have HZ := Lib.hid hz
        have jz : IntKind.i64.wrap ((M : Int) - (n : Int)) = (z : Int) := by rw [IntWalk.i64_in _ (by omega)]; exact hzi
        unfold VM.val VM.cells at HC
        clear p0 p1 p2 p3 yv yl hz
        dsimp only at q0 q1 q2 q3
        go_wp2_with fail
        with_reducible refine HC.mono ?_
        rintro e w2 ⟨m, rfl, hm1, hm2, hm3, hb2⟩
        have hq2 := hb2.at hq
        have hmz : (m : Int) ≤ 2001 := by have := HZ.out; omega
        have hni : (n : Int) ≤ 2001 := by omega
        clear HC
        go_wp2
        go_roundw
        case rel =>
          refine ⟨k + 1, n + m, by omega, by go_num, by go_num, by omega, by have := HZ.out; omega, fun h => ?_, hb.trans hb2, hq2⟩
          have h3 := HZ.out
          have h4 := hm3.out (by omega)
          have h5 := HS.out
          have h6 := HX.out
          omega
        case measure => simp [intOf]; omega
      · have hnM' : ¬ (n : Int) < (M : Int) := by omega
        go_wp2
        go_ret
        exact ⟨n, rfl, hn1, hn2, fun h => absurd h hnM, hb⟩
    · obtain rfl : k = l1.length := by omega
      have hki : ¬ ((l1.length : Int) < (l1.length : Int)) := by omega
      go_wp2
      go_ret
      exact ⟨n, rfl, hn1, hn2, fun h => by rw [HT.out]; exact hn.out h, hb⟩
theorem count_any : ∀ d, d ≤ 100 → Ct d := by
  intro d
  induction d with
  | zero => intro _ D S x M w _ h1 h2; exact count_0 x M w h1 h2
  | succ d ih =>
    intro hd D S x M w hx h1 h2
    cases D with
    | zero => exact hx.elim
    | succ D => exact count_1 d (by omega) (ih (by omega)) D S x M w hx h1 h2
/-- What wide returns. -/
def RetWd (d : Nat) (w : World) (v : V) (e : Ending) (w' : World) : Prop := ∃ r, e = .returned (.bool r) ∧ Hid (r = false → Codec.wok d v) ∧ Ab w w'
/-- What Great returns. -/
def RetGr (w : World) (v : V) (e : Ending) (w' : World) : Prop := ∃ r, e = .returned (.bool r) ∧ Hid (r = false → Codec.tot 20 v ≤ 2000 ∧ Codec.wok 21 v) ∧ Ab w w'
/-- Whether a value is wide. -/
def Wd (d : Nat) : Prop := ∀ (D : Nat) (S : Nat → Prop) (x : VM) (w : World), VL D w S x →
    Calls Try.prog 38 #[x.val, .int .i64 ((d : Int) - 1)] w (RetWd d w x.v)
theorem Wd.out {d : Nat} (h : Wd d) {D : Nat} {S : Nat → Prop} (x : VM) (w : World) (hx : VL D w S x) :
    Calls Try.prog 38 #[x.val, .int .i64 ((d : Int) - 1)] w (RetWd d w x.v) := h D S x w hx
theorem wide_0 (x : VM) (w : World) : Calls Try.prog 38 #[x.val, .int .i64 (-1)] w (RetWd 0 w x.v) := by
  obtain ⟨k1, n1, A1, s1, c1, L1, l1, d1⟩ := x
  unfold VM.val VM.cells
  go_enter Try.func38, Try.ntmps38
  go_wp2
  go_ret
  exact ⟨true, rfl, (fun h => by cases h), abA⟩
set_option maxRecDepth 100000 in
set_option maxHeartbeats 1000000 in
theorem wide_1 (d : Nat) (hd : d ≤ 100) (hC : Wd d) (D : Nat) (S : Nat → Prop) (x : VM) (w : World) (hx : VL (D + 1) w S x) :
    Calls Try.prog 38 #[x.val, .int .i64 (d : Int)] w (RetWd (d + 1) w x.v) := by
  obtain ⟨k1, n1, A1, s1, c1, L1, l1, d1⟩ := x
  have HLL := Lib.hid hx.els
  have HCC := Lib.hid hC
  have dhi : (d : Int) ≤ 100 := by omega
  have dlo : ¬ (d : Int) < 0 := by omega
  have dlo' : (0 : Int) ≤ (d : Int) := by omega
  have ll : l1.length ≤ 9223372036854775807 := hx.1.2.2.2.2.2.2
  clear hx hC
  unfold VM.val VM.cells
  by_cases hs : 4000 < s1.length
  · have hs' : (4000 : Int) < (s1.length : Int) := by omega
    clear hs
    go_enter Try.func38, Try.ntmps38
    go_wp2
    go_ret
    exact ⟨true, rfl, (fun h => by cases h), abA⟩
  · have hs' : ¬ (4000 : Int) < (s1.length : Int) := by omega
    have HS := Lib.hid hs
    clear hs
    go_enter Try.func38, Try.ntmps38
    have V0 : VB (w.alloc (.cells #[.int .u8 (k1 : Int), .int .i64 n1, .slice A1 s1.length c1, .slice L1 l1.length d1] 26)) w.heap.size [.int .u8 (k1 : Int), .int .i64 n1, .slice A1 s1.length c1, .slice L1 l1.length d1] := VB.box (xs := #[.int .u8 (k1 : Int), .int .i64 n1, .slice A1 s1.length c1, .slice L1 l1.length d1]) (T := 26) (by (repeat (first | exact new_plain wnA | with_reducible refine old_alloc ?_ | with_reducible refine old_drew ?_ | with_reducible refine old_set ?_ wnA | with_reducible refine old_ab (by assumption) ?_)))
    have q3 := V0.at 3 rfl
    clear V0
    go_wp2
    go_loopw [5] (fun i w' => ∃ k : Nat, k ≤ l1.length ∧ i = .int .i64 (k : Int) ∧ Ab w w' ∧ w'.cell? ⟨w.heap.size, 3, none⟩ = some (.slice L1 l1.length d1) ∧ Hid (∀ i (h : i < l1.length), i < k → Codec.wok d l1[i])) (fun i _ => l1.length - (intOf i).toNat)
    case atStart => exact ⟨0, by omega, rfl, abA, q3, fun i _ h => absurd h (by omega)⟩
    case round =>
      clear q3
      obtain ⟨k, hk, rfl, hb, hq, hw⟩ := hrel
      rename World => w1
      by_cases hlt : k < l1.length
      · obtain ⟨p, ⟨k3, n3, A3, s3, c3, L3, l3, d3⟩, rfl, yv, yl, p0, p1, p2, p3⟩ := HLL.out.at4 hlt
        have q0 := hb.at p0
        have q1 := hb.at p1
        have q2 := hb.at p2
        have q3 := hb.at p3
        have HC := HCC.out.out ⟨k3, n3, A3, s3, c3, L3, l3, d3⟩ w1 (yl.ab hb)
        have HY := Lib.hid yv
        have hki : (k : Int) < (l1.length : Int) := by omega
        unfold VM.val VM.cells at HC
        clear p0 p1 p2 p3 yv yl
        dsimp only at q0 q1 q2 q3
        go_wp2_with fail
        with_reducible refine HC.mono ?_
        rintro e w2 ⟨r, rfl, hr, hb2⟩
        have hq2 := hb2.at hq
        clear HC
        cases r with
        | true =>
          go_wp2
          go_ret
          exact ⟨true, rfl, (fun h => by cases h), hb.trans hb2⟩
        | false =>
          have HR := Lib.hid (hr.out rfl)
          clear hr
          go_wp2
          go_roundw
          case rel =>
            refine ⟨k + 1, by omega, by go_num, hb.trans hb2, hq2, fun i h hi => ?_⟩
            by_cases hik : i = k
            · subst hik; rw [← HY.out]; exact HR.out
            · exact hw.out i h (by omega)
          case measure => simp [intOf]; omega
      · have hki : ¬ (k : Int) < (l1.length : Int) := by omega
        go_wp2
        go_ret
        refine ⟨false, rfl, fun _ => ⟨by show s1.length ≤ 4000; have := HS.out; omega, fun e he => ?_⟩, hb⟩
        obtain ⟨i, hi, rfl⟩ := List.mem_iff_getElem.1 he
        have hi' : i < l1.length := hi
        exact hw.out i hi' (by omega)
theorem wide_any : ∀ d, d ≤ 100 → Wd d := by
  intro d
  induction d with
  | zero => intro _ D S x w _; exact wide_0 x w
  | succ d ih =>
    intro hd D S x w hx
    cases D with
    | zero => exact hx.elim
    | succ D =>
      have := wide_1 d (by omega) (ih (by omega)) D S x w hx
      rwa [show (d : Int) = ((d + 1 : Nat) : Int) - 1 by omega] at this
set_option maxRecDepth 100000 in
theorem great_any (D : Nat) (S : Nat → Prop) (x : VM) (w : World) (hx : VL D w S x) :
    Calls Try.prog 21 #[x.val] w (RetGr w x.v) := by
  obtain ⟨k1, n1, A1, s1, c1, L1, l1, d1⟩ := x
  have HC := fun w' (hk' : Ab w w') => (count_any 20 (by omega)).out ⟨k1, n1, A1, s1, c1, L1, l1, d1⟩ 2001 w' (hx.ab hk') (by omega) (by omega)
  have HW := fun w' (hk' : Ab w w') => (wide_any 21 (by omega)).out ⟨k1, n1, A1, s1, c1, L1, l1, d1⟩ w' (hx.ab hk')
  unfold VM.val VM.cells at HC HW ⊢
  generalize VM.v ⟨k1, n1, A1, s1, c1, L1, l1, d1⟩ = v at *
  have V0 : VB (w.alloc (.cells #[.int .u8 (k1 : Int), .int .i64 n1, .slice A1 s1.length c1, .slice L1 l1.length d1] 26)) w.heap.size [.int .u8 (k1 : Int), .int .i64 n1, .slice A1 s1.length c1, .slice L1 l1.length d1] := VB.box (xs := #[.int .u8 (k1 : Int), .int .i64 n1, .slice A1 s1.length c1, .slice L1 l1.length d1]) (T := 26) (by (repeat (first | exact new_plain wnA | with_reducible refine old_alloc ?_ | with_reducible refine old_drew ?_ | with_reducible refine old_set ?_ wnA | with_reducible refine old_ab (by assumption) ?_)))
  go_enter Try.func21, Try.ntmps21
  go_wp2_with fail
  refine (HC _ abA).mono ?_
  rintro e w2 ⟨n, rfl, hn1, hn2, hn3, hb2⟩
  have ab2 : Ab w w2 := Ab.trans abA hb2
  have V2 := V0.ab hb2
  have q0 := V2.at 0 rfl
  have q1 := V2.at 1 rfl
  have q2 := V2.at 2 rfl
  have q3 := V2.at 3 rfl
  clear V0 V2 hb2 HC
  by_cases h2 : 2000 < n
  · have h2' : (2000 : Int) < (n : Int) := by omega
    go_wp2
    go_ret
    exact ⟨true, rfl, (fun h => by cases h), ab2⟩
  · have h2' : ¬ (2000 : Int) < (n : Int) := by omega
    have HN := Lib.hid h2'
    have HT : Hid (Codec.tot 20 v ≤ 2000) := by have := hn3.out (by omega); unfold Hid; omega
    clear h2 hn1 hn2
    go_wp2_with fail
    refine (HW _ ab2).mono ?_
    rintro e w3 ⟨r, rfl, hr, hb3⟩
    cases r with
    | true =>
      go_wp2
      go_ret
      exact ⟨true, rfl, (fun h => by cases h), ab2.trans hb3⟩
    | false =>
      have HR := Lib.hid (hr.out rfl)
      have hd2 : decide ((2000 : Int) < (n : Int)) = false := by rw [decide_eq_false_iff_not]; have := HN.out; omega
      clear hr
      go_wp2
      go_ret
      exact ⟨false, rfl, fun _ => ⟨HT.out, HR.out⟩, ab2.trans hb3⟩
end Go.Proofs.Ytllcdmohipcegaa
