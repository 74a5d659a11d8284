/- The reference of the codec: values read, walked. Own work. -/
import Derived.Test.YtbhhjbmpcpjcnaaCvRefA
set_option linter.unusedVariables false
set_option linter.unusedSimpArgs false
namespace Go.Proofs.Ytbhhjbmpcpjcnaa
open Go.RowKit
open Codec (V)

/-- What the reference's read returns. -/
def RetR (d : Nat) (w : World) (l : List UInt8) (e : Ending) (w' : World) : Prop := Ab w w' ∧ match Codec.read d l with
  | some (v, u) => ∃ x : VM, e = .returned (.tuple #[x.val, .int .i64 (u : Int)]) ∧ x.v = v ∧ VL d w' (fun g => w.heap.size ≤ g) x
  | none => e = .returned (.tuple #[VM.zero.val, .int .i64 0])
def Rs (d : Nat) : Prop := ∀ (A : Option Addr) (l : List UInt8) (c : Nat) (w : World), RB w 0 A l → l.length ≤ c → l.length ≤ 1000000 → Calls Try.prog 70 #[.slice A l.length c, .int .i64 (d : Int)] w (RetR d w l)
theorem Rs.out {d : Nat} (h : Rs d) (A : Option Addr) (l : List UInt8) (c : Nat) (w : World) (hb : RB w 0 A l) (hc : l.length ≤ c) (ll : l.length ≤ 1000000) : Calls Try.prog 70 #[.slice A l.length c, .int .i64 (d : Int)] w (RetR d w l) := h A l c w hb hc ll
theorem reads_many {d n : Nat} {t : List UInt8} (ht : t.length ≤ 1000000) (h : t.length < n) : Codec.reads d n t = none := by
  rcases hr : Codec.reads d n t with _ | ⟨vs, u⟩
  · rfl
  · obtain ⟨a1, a2, a3, a4, a5⟩ := Codec.reads_back (fun t v u ht h => Codec.read_back d t v u ht h) n t vs u (by omega) hr
    have h1 := Codec.flat_ge vs a2
    have h2 := congrArg List.length a5
    rw [List.length_append] at h2
    omega
set_option maxRecDepth 100000 in
theorem rread_no (d : Nat) (A : Option Addr) (l : List UInt8) (c : Nat) (w : World) (h : l = [] ∨ d = 0) : Calls Try.prog 70 #[.slice A l.length c, .int .i64 (d : Int)] w (RetR d w l) := by
  have HN : Hid (Codec.read d l = none) := by
    unfold Hid
    rcases h with rfl | rfl
    · cases d <;> (rw [Codec.read]; try simp)
    · rw [Codec.read]
  by_cases hl : l.length = 0
  · have hl2 : ((l.length : Int) == 0) = true := by rw [beq_iff_eq]; omega
    rw [hl]
    clear hl h hl2
    go_enter Try.func70, Try.ntmps70
    have Y0 : VB (w.alloc (.cells VM.zero.cells.toArray 58)) w.heap.size VM.zero.cells := VB.box (xs := VM.zero.cells.toArray) (T := 58) (by (repeat (first | exact new_plain wnA | with_reducible refine old_alloc ?_ | with_reducible refine old_drew ?_ | with_reducible refine old_set ?_ wnA | with_reducible refine old_ab (by assumption) ?_)))
    go_wp2_with (refine list_stV (o := ⟨none, _, _, _, _, _⟩) (us := VM.zero.cells) _ infoV rfl _ _ rfl rfl rfl Y0 rfl rfl rfl ?_
                 intro w3 h3)
    refine bodyPost_ret (res_V2 _ infoV Try.underlying58 rfl Try.results70 _ rfl h3.v rfl) rfl ⟨h3.ab w abA (Nat.le_refl _), ?_⟩
    rw [HN.out]
    rfl
  · have hl2 : ((l.length : Int) == 0) = false := by rw [beq_eq_false_iff_ne]; omega
    have hd : d = 0 := by
      rcases h with rfl | h
      · simp at hl
      · exact h
    subst hd
    clear hl h
    go_enter Try.func70, Try.ntmps70
    have Y0 : VB (w.alloc (.cells VM.zero.cells.toArray 58)) w.heap.size VM.zero.cells := VB.box (xs := VM.zero.cells.toArray) (T := 58) (by (repeat (first | exact new_plain wnA | with_reducible refine old_alloc ?_ | with_reducible refine old_drew ?_ | with_reducible refine old_set ?_ wnA | with_reducible refine old_ab (by assumption) ?_)))
    go_wp2_with (refine list_stV (o := ⟨none, _, _, _, _, _⟩) (us := VM.zero.cells) _ infoV rfl _ _ rfl rfl rfl Y0 rfl rfl rfl ?_
                 intro w3 h3)
    refine bodyPost_ret (res_V2 _ infoV Try.underlying58 rfl Try.results70 _ rfl h3.v rfl) rfl ⟨h3.ab w abA (Nat.le_refl _), ?_⟩
    rw [HN.out]
    rfl
set_option maxRecDepth 100000 in
set_option maxHeartbeats 8000000 in
theorem rread_1 (d : Nat) (hd : d ≤ 1000) (hV : Rs d) (A : Option Addr) (x : UInt8) (t : List UInt8) (c : Nat) (w : World) (hb : RB w 0 A (x :: t)) (hc : (x :: t).length ≤ c) (ll : (x :: t).length ≤ 1000000) :
    Calls Try.prog 70 #[.slice A (x :: t).length c, .int .i64 ((d + 1 : Nat) : Int)] w (RetR (d + 1) w (x :: t)) := by
  obtain ⟨ad, rfl, _, hcell⟩ := hb (by simp)
  have cx0 : w.cell? ad = some (.int .u8 (x.toNat : Int)) := hcell 0 (by simp)
  obtain ⟨N, hN⟩ : ∃ N, N = t.length := ⟨_, rfl⟩
  rw [List.length_cons, ← hN] at hc ll ⊢
  have HN := Lib.hid hN
  have M1 : ∀ w0, (Instr.slice 22 (.slice (some ad) (N + 1) c) (some (.int .i64 1)) none none).run Try.prog w0 = .ok (.slice (cutA (some ad) c 1) N (c - 1)) w0 := fun w0 => run_cut 1 .i64 (some ad) (N + 1) c w0 (by omega)
  have HC := fun w' (hk : Ab w w') => by
    have := rcoded_any (cutA (some ad) c 1) t (c - 1) w' (by have := (hb.ab hk).cut 1 c (by rw [List.length_cons]; omega); simpa using this) (by omega) (by omega)
    rw [← hN] at this
    exact this
  have HCC := Lib.hid HC
  have HB := Lib.hid hb
  have HVV := Lib.hid hV
  have d1 : ((d + 1 : Nat) : Int) - 1 = (d : Int) := by omega
  have dlo : 1 ≤ ((d + 1 : Nat) : Int) := by omega
  have dhi : ((d + 1 : Nat) : Int) ≤ 1001 := by omega
  have n0 : ((N : Int) + 1 == 0) = false := by rw [beq_eq_false_iff_ne]; omega
  have dlt : decide (((d + 1 : Nat) : Int) < 1) = false := by rw [decide_eq_false_iff_not]; omega
  generalize ((d + 1 : Nat) : Int) = D at *
  clear HC hN hcell hV hb
  go_enter Try.func70, Try.ntmps70
  have Y0 : VB (w.alloc (.cells VM.zero.cells.toArray 58)) w.heap.size VM.zero.cells := VB.box (xs := VM.zero.cells.toArray) (T := 58) (by (repeat (first | exact new_plain wnA | with_reducible refine old_alloc ?_ | with_reducible refine old_drew ?_ | with_reducible refine old_set ?_ wnA | with_reducible refine old_ab (by assumption) ?_)))
  have cx : (w.alloc (.cells #[.int .u8 0, .int .i64 0, .slice none 0 0, .slice none 0 0] 58)).cell? ad = some (.int .u8 (x.toNat : Int)) := cell_alloc cx0
  go_wp2_with fail
  refine (HCC.out _ abA).mono ?_
  rintro e w1 ⟨rfl, hm⟩
  rcases hcd : Codec.coded t with _ | ⟨n, m⟩
  · rw [hcd] at hm
    subst hm
    have HR := Lib.hid (read_bad (d := d + 1) (x := x) hcd)
    clear hcd
    go_wp2_with (refine list_stV (o := ⟨none, _, _, _, _, _⟩) (us := VM.zero.cells) _ infoV rfl _ _ rfl rfl rfl Y0 rfl rfl rfl ?_; intro w9 h9)
    refine bodyPost_ret (res_V2 _ infoV Try.underlying58 rfl Try.results70 _ rfl h9.v rfl) rfl ⟨h9.ab w abA (Nat.le_refl _), ?_⟩
    rw [HR.out]
    rfl
  rw [hcd] at hm
  subst hm
  have hnl := (Codec.coded_back hcd).1
  have hml : 1 ≤ m ∧ m ≤ t.length := by
    obtain ⟨_, h2, h3⟩ := Codec.coded_back hcd
    have h4 := Codec.code_pos n
    have h5 := congrArg List.length h3
    rw [List.length_append] at h5
    omega
  rw [← HN.out] at hml
  obtain ⟨hm1, hm2⟩ := hml
  have HCD := Lib.hid hcd
  have HNL := Lib.hid hnl
  have m0 : ((m : Int) == 0) = false := by rw [beq_eq_false_iff_ne]; omega
  clear hcd hnl n0 dlt M1 HCC
  go_upto_region 8 with fail
  by_cases k1 : x.toNat = 1
  · have HR := Lib.hid (read_1 (d := d) HCD.out k1)
    have HK := Lib.hid k1
    clear k1
    have e1 : ((x.toNat : Int) == 1) = true := by rw [beq_iff_eq]; have := HK.out; omega
    go_wp2_with (first
    | (go_at_call 79
       refine (runfold_any n _ HNL.out).mono ?_
       rintro e w4 ⟨rfl, rfl⟩)
    | (refine list_stV (o := ⟨none, _, _, _, _, _⟩) (us := [.int .u8 1, .int .i64 (Codec.unfold_ n), .slice none 0 0, .slice none 0 0]) _ infoV rfl _ _ rfl rfl rfl Y0 rfl rfl rfl ?_; intro w9 h9))
    refine bodyPost_ret (res_V2 _ infoV Try.underlying58 rfl Try.results70 _ rfl h9.v rfl) rfl ⟨h9.ab w abA (Nat.le_refl _), ?_⟩
    rw [HR.out]
    exact ⟨⟨1, Codec.unfold_ n, none, [], 0, none, [], 0⟩, rfl, rfl, ⟨by simp, (Codec.unfold_rng HNL.out).1, (Codec.unfold_rng HNL.out).2, by simp, by simp, by simp, by simp⟩, RS.nil, fun h => absurd h (by simp)⟩
  by_cases k2 : x.toNat = 2
  · have HR := Lib.hid (read_2 (d := d) HCD.out k2)
    have HK := Lib.hid k2
    clear k1 k2
    have e1 : ((x.toNat : Int) == 1) = false := by rw [beq_eq_false_iff_ne]; have := HK.out; omega
    have e2 : ((x.toNat : Int) == 2) = true := by rw [beq_iff_eq]; have := HK.out; omega
    have hTl : (t.drop m).length = N - m := by rw [List.length_drop, ← HN.out]
    have HTL := Lib.hid hTl
    by_cases hn : (t.drop m).length < n
    · have HS : Hid (Codec.read (d + 1) (x :: t) = none) := by unfold Hid; rw [HR.out, if_pos hn]
      have hn' : (N : Int) + 1 - ((m : Int) + 1) < (n : Int) := by omega
      clear hn hTl
      go_wp2_with (refine list_stV (o := ⟨none, _, _, _, _, _⟩) (us := VM.zero.cells) _ infoV rfl _ _ rfl rfl rfl Y0 rfl rfl rfl ?_; intro w9 h9)
      refine bodyPost_ret (res_V2 _ infoV Try.underlying58 rfl Try.results70 _ rfl h9.v rfl) rfl ⟨h9.ab w abA (Nat.le_refl _), ?_⟩
      rw [HS.out]
      rfl
    · have HS : Hid (Codec.read (d + 1) (x :: t) = some (.mk 2 0 ((t.drop m).take n) [], m + 1 + n)) := by unfold Hid; rw [HR.out, if_neg hn]
      have hn' : ¬ (N : Int) + 1 - ((m : Int) + 1) < (n : Int) := by omega
      have hnN : n ≤ N - m := by omega
      have hnb : (n : Int) ≤ 1000000 := by omega
      have htl : ((t.drop m).take n).length = n := by rw [List.length_take]; omega
      have HT := Lib.hid htl
      have M2 : ∀ w0, (Instr.slice 22 (.slice (some ad) (N + 1) c) (some (.int .i64 ((m : Int) + 1))) (some (.int .i64 ((m : Int) + 1 + (n : Int)))) none).run Try.prog w0 = .ok (.slice (cutA (some ad) c (m + 1)) n (c - (m + 1))) w0 := fun w0 => by
        have := run_cuts (m + 1) (m + 1 + n) .i64 .i64 (some ad) (N + 1) c w0 (by omega) (by omega)
        rw [show m + 1 + n - (m + 1) = n by omega] at this
        exact this
      have HRB : Hid (RB w 0 (cutA (some ad) c (m + 1)) ((t.drop m).take n)) := by
        have := ((HB.out.cut (m + 1) c (by rw [List.length_cons, ← HN.out]; omega)).take n)
        rw [List.drop_succ_cons] at this
        exact this
      have hcap : n ≤ c - (m + 1) := by omega
      clear hn hTl htl
      go_wp2_with (first
        | (at_builtin
           refine listLit rfl _ _ rfl rfl rfl (m := (t.drop m).take n) HT.out (by (repeat (first | exact new_plain wnA | with_reducible refine old_alloc ?_ | with_reducible refine old_drew ?_ | with_reducible refine old_set ?_ wnA | with_reducible refine old_ab (by assumption) ?_))) (RB.ab HRB.out (show Ab w _ from abA)) (by rw [HT.out]; exact hcap) (by rw [HT.out]; omega) ?_
           intro A1 d1 w1 L1 e1 b1 o1
           have oA := o1 (w.heap.size + 1) (by simp) (by simp)
           have lA : L1.length ≤ d1 := oA.le
           have rA := oA.rb
           have bA : Ab w w1 := Ab.trans abA b1
           have YA := (Y0.ab (show Ab _ ((w.alloc (.cells VM.zero.cells.toArray 58)).alloc (.cells #[] 5)) from abA)).ab b1
           clear o1 oA b1 Y0)
        | (refine list_stV (o := ⟨none, _, _, _, _, _⟩) (us := [.int .u8 2, .int .i64 0, .slice A1 L1.length d1, .slice none 0 0]) _ infoV rfl _ _ rfl rfl rfl YA rfl rfl rfl ?_; intro w9 h9))
      refine bodyPost_ret (res_V2 _ infoV Try.underlying58 rfl Try.results70 _ rfl h9.v rfl) rfl ⟨h9.ab w bA (Nat.le_refl _), ?_⟩
      rw [HS.out]
      have hl1 : L1.length = n := by rw [e1.out]; exact HT.out
      refine ⟨⟨2, 0, A1, (t.drop m).take n, d1, none, [], 0⟩, ?_, rfl, ⟨by simp, by simp, by simp, by rw [HT.out, ← hl1]; exact lA, by rw [HT.out]; omega, by simp, by simp⟩, ?_, fun h => absurd h (by simp)⟩
      · rw [hl1]
        show Ending.returned (.tuple #[.agg #[.int .u8 2, .int .i64 0, .slice A1 n d1, .slice none 0 0], .int .i64 ((m : Int) + 1 + (n : Int))]) = Ending.returned (.tuple #[.agg #[.int .u8 2, .int .i64 0, .slice A1 ((t.drop m).take n).length d1, .slice none 0 0], .int .i64 ((m + 1 + n : Nat) : Int)])
        rw [HT.out]; rfl
      · rw [← e1.out]
        exact RS.mono' (fun g hg => by omega) ((rA.rs (S := fun g => w.heap.size + 1 ≤ g) (fun g h => h)).keep (w' := w9) fun g hg hl => h9.blk g (by omega))
  by_cases k3 : x.toNat = 3
  · have HR := Lib.hid (read_3 (d := d) HCD.out k3)
    have HK := Lib.hid k3
    clear k1 k2 k3
    have e1 : ((x.toNat : Int) == 1) = false := by rw [beq_eq_false_iff_ne]; have := HK.out; omega
    have e2 : ((x.toNat : Int) == 2) = false := by rw [beq_eq_false_iff_ne]; have := HK.out; omega
    have e3 : ((x.toNat : Int) == 3) = true := by rw [beq_iff_eq]; have := HK.out; omega
    have hTl : (t.drop m).length = N - m := by rw [List.length_drop, ← HN.out]
    have HTL := Lib.hid hTl
    by_cases hn : (t.drop m).length < n
    · have HS : Hid (Codec.read (d + 1) (x :: t) = none) := by unfold Hid; rw [HR.out, reads_many (by omega) hn]; rfl
      have hn' : (N : Int) + 1 - ((m : Int) + 1) < (n : Int) := by omega
      clear hn hTl
      go_wp2_with (refine list_stV (o := ⟨none, _, _, _, _, _⟩) (us := VM.zero.cells) _ infoV rfl _ _ rfl rfl rfl Y0 rfl rfl rfl ?_; intro w9 h9)
      refine bodyPost_ret (res_V2 _ infoV Try.underlying58 rfl Try.results70 _ rfl h9.v rfl) rfl ⟨h9.ab w abA (Nat.le_refl _), ?_⟩
      rw [HS.out]
      rfl
    · have hn' : ¬ (N : Int) + 1 - ((m : Int) + 1) < (n : Int) := by omega
      have hnN : n ≤ N - m := by omega
      have hnb : (n : Int) ≤ 1000000 := by omega
      clear hn hTl
      obtain ⟨T, hT⟩ : ∃ T, T = t.drop m := ⟨_, rfl⟩
      rw [← hT] at HR HTL
      have HBT : Hid (∀ u, RB w 0 (cutA (some ad) c (m + 1 + u)) (T.drop u)) := by
        intro u
        have := HB.out.cut (m + 1 + u) c (by rw [List.length_cons, ← HN.out]; omega)
        rw [show m + 1 + u = (m + u) + 1 by omega, List.drop_succ_cons, ← List.drop_drop, ← hT] at this
        rw [show m + 1 + u = (m + u) + 1 by omega]
        exact this
      clear hT
      have Z0 : VB ((w.alloc (.cells VM.zero.cells.toArray 58)).alloc (.cells VM.zero.cells.toArray 58)) (w.heap.size + 1) VM.zero.cells := VB.box (xs := VM.zero.cells.toArray) (T := 58) (by (repeat (first | exact new_plain wnA | with_reducible refine old_alloc ?_ | with_reducible refine old_drew ?_ | with_reducible refine old_set ?_ wnA | with_reducible refine old_ab (by assumption) ?_)))
      go_upto_region 18 with (refine list_stV (o := ⟨none, _, _, _, _, _⟩) (us := [.int .u8 3, .int .i64 0, .slice none 0 0, .slice none 0 0]) _ infoV rfl _ _ rfl rfl rfl Z0 rfl rfl rfl ?_; intro w2 h2)
      have V2 : VB w2 (w.heap.size + 1) [.int .u8 3, .int .i64 0, .slice none 0 0, .slice none 0 0] := h2.v
      have Y1 := Y0.ab (show Ab _ ((w.alloc (.cells VM.zero.cells.toArray 58)).alloc (.cells VM.zero.cells.toArray 58)) from abA)
      have Y2 : VB w2 w.heap.size VM.zero.cells := h2.vb Y1 (by omega)
      clear Y1
      have ab2 : Ab w w2 := h2.ab w abA (by omega)
      have hlo : w.heap.size + 1 < w2.heap.size := V2.lt
      clear h2 Z0 Y0 cx cx0
      obtain ⟨b8, hb8⟩ : ∃ b8, b8 = w.heap.size + 1 := ⟨_, rfl⟩
      rw [← hb8] at V2 hlo
      obtain ⟨lo, hlo'⟩ : ∃ lo, lo = w2.heap.size := ⟨_, rfl⟩
      rw [← hlo'] at hlo
      have HB8 := Lib.hid hb8
      have hb8' : w.heap.size < b8 := by omega
      have HLO : Hid (w2.heap.size = lo) := hlo'.symm
      rw [← hb8]
      clear hb8 hlo'
      go_wp2
      go_loopw [7, 9] (fun s7 s9 w' => ∃ (k : Nat) (A : Option Addr) (c' : Nat) (ys : List VM) (u : Nat), k ≤ n ∧ s9 = .int .i64 (k : Int) ∧ s7 = .int .i64 ((m : Int) + 1 + (u : Int)) ∧ VB w' b8 [.int .u8 3, .int .i64 0, .slice none 0 0, .slice A ys.length c'] ∧ VB w' w.heap.size VM.zero.cells ∧ Ab w w' ∧ lo ≤ w'.heap.size ∧ OwnVs d lo w' A c' ys ∧ Hid (ys.length = k) ∧ u ≤ N - m ∧ Hid (Codec.reads d n T = (Codec.reads d (n - k) (T.drop u)).map fun p => (ys.map VM.v ++ p.1, u + p.2))) (fun _ s9 _ => n - (intOf s9).toNat)
      case atStart => exact ⟨0, none, 0, [], 0, by omega, rfl, congrArg (Value.int .i64) (by omega), V2, Y2, ab2, by have := HLO.out; omega, OwnVs.nil, Lib.hid rfl, by omega, Lib.hid (by simp)⟩
      case round =>
        clear V2 Y2 ab2
        obtain ⟨k, B, c', ys, u, hk, rfl, rfl, V3, Y3, ab3, hsz, ho, hyl, hu, hr⟩ := hrel
        rename World => w3
        by_cases hlt : k < n
        · have hkn : (k : Int) < (n : Int) := by omega
          obtain ⟨q1, q2⟩ := reads_step k hlt (Lib.hid rfl) hr
          have Q1 := Lib.hid q1
          have Q2 := Lib.hid q2
          clear q1 q2
          have lTu : (T.drop u).length = N + 1 - (m + 1 + u) := by rw [List.length_drop, HTL.out]; omega
          have M3 : ∀ w0, (Instr.slice 22 (.slice (some ad) (N + 1) c) (some (.int .i64 ((m : Int) + 1 + (u : Int)))) none none).run Try.prog w0 = .ok (.slice (cutA (some ad) c (m + 1 + u)) (N + 1 - (m + 1 + u)) (c - (m + 1 + u))) w0 := fun w0 => run_cut (m + 1 + u) .i64 (some ad) (N + 1) c w0 (by omega)
          have HCa := HVV.out.out (cutA (some ad) c (m + 1 + u)) (T.drop u) (c - (m + 1 + u)) w3 ((HBT.out u).ab ab3) (by omega) (by omega)
          rw [lTu] at HCa
          have LTU := Lib.hid lTu
          clear lTu
          go_wp2_with fail
          with_reducible refine HCa.mono ?_
          rintro e w4 ⟨hb4, hm4⟩
          have V4 := V3.ab hb4
          have Y4 := Y3.ab hb4
          have ab4 := ab3.trans hb4
          have ho4 := ho.ab hb4
          have hsz4 := hb4.size
          have X4 : VB (w4.alloc (.cells VM.zero.cells.toArray 58)) w4.heap.size VM.zero.cells := VB.box (xs := VM.zero.cells.toArray) (T := 58) (by (repeat (first | exact new_plain wnA | with_reducible refine old_alloc ?_ | with_reducible refine old_drew ?_ | with_reducible refine old_set ?_ wnA | with_reducible refine old_ab (by assumption) ?_)))
          have hY4 := Y4.lt
          clear HCa M3
          rcases hrd : Codec.read d (T.drop u) with _ | ⟨v, q⟩
          · rw [hrd] at hm4
            subst hm4
            have HS : Hid (Codec.read (d + 1) (x :: t) = none) := by unfold Hid; rw [HR.out, Q1.out hrd]; rfl
            clear hrd
            go_upto_region 22 with (refine list_stV (o := ⟨none, _, _, _, _, _⟩) (us := VM.zero.cells) _ infoV rfl _ _ rfl rfl rfl X4 rfl rfl rfl ?_; intro w5 h5)
            have Y5 := h5.vb (Y4.ab abA) (by omega)
            have ab5 := h5.ab w (Ab.trans ab4 abA) ab4.size
            clear h5 X4 Y4 V4
            go_wp2_with (refine list_stV (o := ⟨none, _, _, _, _, _⟩) (us := VM.zero.cells) _ infoV rfl _ _ rfl rfl rfl Y5 rfl rfl rfl ?_; intro w9 h9)
            refine bodyPost_ret (res_V2 _ infoV Try.underlying58 rfl Try.results70 _ rfl h9.v rfl) rfl ⟨h9.ab w ab5 (Nat.le_refl _), ?_⟩
            rw [HS.out]
            rfl
          · rw [hrd] at hm4
            obtain ⟨⟨xk, xn, xA, xb, xc, xL, xl, xd⟩, rfl, hxv, hx⟩ := hm4
            have HS := Lib.hid (Q2.out v q hrd)
            have hq := read_used hrd (by have := LTU.out; omega)
            have hq1 : ((q : Int) == 0) = false := by rw [beq_eq_false_iff_ne]; omega
            have huq : u + q ≤ N - m := by have := LTU.out; omega
            have hqb : (q : Int) ≤ 1000000 := by omega
            clear hrd hq
            go_upto_region 24 with (refine list_stV (o := ⟨none, _, _, _, _, _⟩) (us := VM.cells ⟨xk, xn, xA, xb, xc, xL, xl, xd⟩) _ infoV rfl _ _ rfl rfl rfl X4 rfl rfl rfl ?_; intro w5 h5)
            have X5 : VB w5 w4.heap.size [.int .u8 (xk : Int), .int .i64 xn, .slice xA xb.length xc, .slice xL xl.length xd] := h5.v
            have hV4 := V4.lt
            have Y5 := h5.vb (Y4.ab abA) (by omega)
            have V5 := h5.vb (V4.ab abA) (by omega)
            have ab5 := h5.ab w (Ab.trans ab4 abA) ab4.size
            have b45 : Ab w4 w5 := h5.ab w4 abA (Nat.le_refl _)
            have hsz5 := b45.size
            have ho5 := ho4.ab b45
            have hx5 : VL d w5 (fun g => lo ≤ g ∧ B.map (·.block) ≠ some g) ⟨xk, xn, xA, xb, xc, xL, xl, xd⟩ := by
              refine VL.mono ?_ (hx.ab b45)
              intro g hgl
              refine ⟨by omega, fun e => ?_⟩
              have := ho.lt e
              omega
            have hBlo : ∀ g, B.map (·.block) = some g → lo ≤ g := fun g e => ho.low e
            have hyl' : ys.length ≤ 1000000 := by have := hyl.out; omega
            have c3 := V5.at 3 rfl
            clear h5 X4 Y4 V4 hx b45
            go_wp2_with (first
              | (refine list_ldV (o := ⟨some 95, _, _, _, _, _⟩) _ infoV Try.underlying58 rfl rfl _ rfl rfl X5 rfl ?_)
              | ((at_builtin
                  refine listAppVs (x := ⟨xk, xn, xA, xb, xc, xL, xl, xd⟩) rfl _ _ rfl rfl rfl (ho5.ab (w' := _) abA) (by simp; omega) (by (repeat (first | exact new_plain wnA | with_reducible refine old_alloc ?_ | with_reducible refine old_drew ?_ | with_reducible refine old_set ?_ wnA | with_reducible refine old_ab (by assumption) ?_))) (hx5.ab abA) hyl' ?_
                  intro g4 c4 w6 zs hzs ho6 hg6 _
                  have V6 := (V5.ab (w' := w5.alloc _) abA).grown hg6 (fun e => absurd (hBlo _ e) (by omega))
                  have Y6 := (Y5.ab (w' := w5.alloc _) abA).grown hg6 (fun e => absurd (hBlo _ e) (by omega))
                  have ab6 : Ab w w6 := grown_ab (Ab.trans ab5 abA) hg6 (fun g e => by have := hBlo g e; omega)
                  have hs6 := hg6.size
                  have c36 := V6.at 3 rfl
                  have f36 := V6.g 3)))
            go_roundw
            case rel =>
              refine ⟨k + 1, _, c4, zs, u + q, by omega, by go_num, congrArg (Value.int .i64) (by omega), V6.set 3 (by simp) _, Y6.other (by simp; omega) _, Ab.set ab6 (by simp; omega) _, by simp at hs6 ⊢; omega, ?_, Lib.hid ?_, huq, Lib.hid ?_⟩
              · exact ho6.keep fun g hg hl => Below.heap_setCell w6 _ _ g (by simp; omega)
              · rw [hzs.out, List.length_append, hyl.out]; rfl
              · rw [HS.out, hzs.out, List.map_append, ← hxv, List.drop_drop]; rfl
            case measure => simp [intOf]; omega
        · obtain rfl : k = n := by omega
          have e0 : Codec.reads d 0 (T.drop u) = some ([], 0) := by rw [Codec.reads]
          have HS : Hid (Codec.read (d + 1) (x :: t) = some (.mk 3 0 [] (ys.map VM.v), m + 1 + u)) := by
            unfold Hid
            rw [HR.out, hr.out, Nat.sub_self, e0]; simp
          have hyl' : ys.length ≤ 1000000 := by have := hyl.out; omega
          have hyc := ho.le
          go_wp2_with (first
            | (refine list_ldV (o := ⟨some 102, _, _, _, _, _⟩) _ infoV Try.underlying58 rfl rfl _ rfl rfl V3 rfl ?_)
            | (refine list_stV (o := ⟨none, _, _, _, _, _⟩) (us := [.int .u8 3, .int .i64 0, .slice none 0 0, .slice B ys.length c']) _ infoV rfl _ _ rfl rfl rfl Y3 rfl rfl rfl ?_; intro w9 h9))
          refine bodyPost_ret (res_V2 _ infoV Try.underlying58 rfl Try.results70 _ rfl h9.v rfl) rfl ⟨h9.ab w ab3 (Nat.le_refl _), ?_⟩
          rw [HS.out]
          refine ⟨⟨3, 0, none, [], 0, B, ys.map VM.v, c'⟩, ?_, rfl, ⟨by simp, by simp, by simp, by simp, by simp, by simpa using hyc, by simp; omega⟩, RS.nil, ?_⟩
          · unfold VM.val VM.cells
            rw [List.length_map]; rfl
          · refine VLs.mono ?_ ((ho.vls rfl).keep (w' := w9) fun g hg hl => h9.blk g ?_)
            · intro g hg; omega
            · omega
  · have HR := Lib.hid (read_kind (d := d) HCD.out k1 k2 k3)
    have e1 : ((x.toNat : Int) == 1) = false := by rw [beq_eq_false_iff_ne]; omega
    have e2 : ((x.toNat : Int) == 2) = false := by rw [beq_eq_false_iff_ne]; omega
    have e3 : ((x.toNat : Int) == 3) = false := by rw [beq_eq_false_iff_ne]; omega
    clear k1 k2 k3
    go_wp2_with (first
    | (refine list_stV (o := ⟨none, _, _, _, _, _⟩) (us := VM.zero.cells) _ infoV rfl _ _ rfl rfl rfl Y0 rfl rfl rfl ?_; intro w9 h9))
    refine bodyPost_ret (res_V2 _ infoV Try.underlying58 rfl Try.results70 _ rfl h9.v rfl) rfl ⟨h9.ab w abA (Nat.le_refl _), ?_⟩
    rw [HR.out]
    rfl
theorem rread_any : ∀ d, d ≤ 1000 → Rs d := by
  intro d
  induction d with
  | zero => intro _ A l c w hb hc ll; exact rread_no 0 A l c w (.inr rfl)
  | succ d ih =>
    intro hd A l c w hb hc ll
    cases l with
    | nil => exact rread_no (d + 1) A [] c w (.inl rfl)
    | cons x t => exact rread_1 d (by omega) (ih (by omega)) A x t c w hb hc ll
end Go.Proofs.Ytbhhjbmpcpjcnaa
