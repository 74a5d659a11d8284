/- Values taken, walked. Own work. -/
import Derived.Test.YtjgijpfknhfnjaaCvFunC
set_option linter.unusedVariables false
set_option linter.unusedSimpArgs false
namespace Go.Proofs.Ytjgijpfknhfnjaa
open Go.RowKit
open Codec (V)

theorem Rd.lt {w : World} {R : Nat} {l : List UInt8} (h : Rd w R l) : R < w.heap.size := by obtain ⟨A, c, hv, _⟩ := h; exact hv.lt
section
variable {w0 w w' : World} {b : Nat} {us vs : List Value} {r : Option Nat}
theorem Stored.low (h : Stored w b us w') : w'.os = w.os ∧ w'.tape = w.tape ∧ w'.output = w.output := by
  have e := h.ab { w with heap := #[] } ⟨rfl, rfl, rfl, Nat.zero_le _, fun g hg => absurd hg (by simp)⟩ (Nat.zero_le _)
  exact ⟨e.out.os, e.out.tape, e.out.output⟩
theorem Stored.grown (h : Stored w b us w') (k : w0.grownBy w r) (hb : w0.heap.size ≤ b) : w0.grownBy w' r :=
  ⟨h.low.1.trans k.os, h.low.2.1.trans k.tape, h.low.2.2.trans k.output, Nat.le_trans k.size (Nat.le_of_eq h.sz.symm), fun g hg hne => (h.blk g (by omega)).trans (k.block g hg hne)⟩
theorem Stored.self (h : Stored w b us w') : w.grownBy w' (some b) :=
  ⟨h.low.1, h.low.2.1, h.low.2.2, Nat.le_of_eq h.sz.symm, fun g hg hne => h.blk g fun e => hne (by rw [e])⟩
theorem VB.grown (h : VB w b vs) (k : w.grownBy w' r) (hr : r ≠ some b) : VB w' b vs := by
  have hb := k.block b h.lt (fun e => hr e.symm)
  refine ⟨Nat.lt_of_lt_of_le h.lt k.size, fun i v hi => ?_, fun i => ?_⟩
  · exact (World.cell?_of_block (a := ⟨b, i, none⟩) hb).trans (h.q i v hi)
  · refine Eq.trans ?_ (h.g i)
    unfold World.frozen?
    rw [show (⟨b, i, none⟩ : Addr).block = b from rfl, hb]
theorem grown_set0 {p : Addr} (k : w0.grownBy w r) (hp : w0.heap.size ≤ p.block) (u : Value) : w0.grownBy (w.setCell p u) r :=
  ⟨k.os, k.tape, k.output, by simpa using k.size, fun g hg hne => (Below.heap_setCell w p u g (by omega)).trans (k.block g hg hne)⟩
end
theorem read_bad {d : Nat} {x : UInt8} {t : List UInt8} (h : Codec.coded t = none) : Codec.read d (x :: t) = none := by
  cases d with
  | zero => rw [Codec.read]
  | succ d => rw [Codec.read, h]
theorem read_kind {d n m : Nat} {x : UInt8} {t : List UInt8} (h : Codec.coded t = some (n, m)) (h1 : x.toNat ≠ 1) (h2 : x.toNat ≠ 2) (h3 : x.toNat ≠ 3) : Codec.read (d + 1) (x :: t) = none := by
  rw [Codec.read, h]
  simp only
theorem read_1 {d n m : Nat} {x : UInt8} {t : List UInt8} (h : Codec.coded t = some (n, m)) (h1 : x.toNat = 1) : Codec.read (d + 1) (x :: t) = some (.mk 1 (Codec.unfold_ n) [] [], m + 1) := by
  rw [Codec.read, h]
  simp only [h1]
theorem read_2 {d n m : Nat} {x : UInt8} {t : List UInt8} (h : Codec.coded t = some (n, m)) (h1 : x.toNat = 2) : Codec.read (d + 1) (x :: t) = if (t.drop m).length < n then none else some (.mk 2 0 ((t.drop m).take n) [], m + 1 + n) := by
  rw [Codec.read, h, List.length_drop]
  simp only [h1]
theorem read_3 {d n m : Nat} {x : UInt8} {t : List UInt8} (h : Codec.coded t = some (n, m)) (h1 : x.toNat = 3) : Codec.read (d + 1) (x :: t) = (Codec.reads d n (t.drop m)).map fun p => (.mk 3 0 [] p.1, m + 1 + p.2) := by
  rw [Codec.read, h]
  simp only [h1]
  cases Codec.reads d n (t.drop m) <;> rfl
set_option maxRecDepth 100000 in
theorem takeValue_nil (d R : Nat) (w : World) (h : Rd w R []) : Calls Try.prog 66 #[.pointer (some ⟨R, 0, none⟩), .int .i64 (d : Int)] w (RetV d w R []) := by
  have HN : Hid (Codec.read d [] = none) := by cases d <;> (unfold Hid; rw [Codec.read]; try simp)
  go_enter Try.func66, Try.ntmps66
  have hR0 : Rd (w.alloc (.cells VM.zero.cells.toArray 58)) R [] := h.ab abA
  have Y0 : VB (w.alloc (.cells VM.zero.cells.toArray 58)) w.heap.size VM.zero.cells := VB.box (xs := VM.zero.cells.toArray) (T := 58) (by (repeat (first | exact new_plain wnA | with_reducible refine old_alloc ?_ | with_reducible refine old_drew ?_ | with_reducible refine old_set ?_ wnA | with_reducible refine old_ab (by assumption) ?_)))
  go_wp2_with (first
    | (go_at_call 73
       refine (takeByte_nil R _ hR0).mono ?_
       rintro e w1 ⟨rfl, rfl⟩)
    | (refine list_stV (o := ⟨none, _, _, _, _, _⟩) (us := VM.zero.cells) _ infoV rfl _ _ rfl rfl rfl Y0 rfl rfl rfl ?_
       intro w3 h3))
  refine bodyPost_ret (res_V2 _ infoV Try.underlying58 rfl Try.results66 _ rfl h3.v rfl) rfl ⟨grown_of (h3.ab w abA (Nat.le_refl _)), ?_⟩
  rw [HN.out]
  exact ⟨VM.zero, rfl⟩
set_option maxRecDepth 100000 in
theorem takeValue_0 (R : Nat) (x : UInt8) (t : List UInt8) (w : World) (h : Rd w R (x :: t)) : Calls Try.prog 66 #[.pointer (some ⟨R, 0, none⟩), .int .i64 0] w (RetV 0 w R (x :: t)) := by
  have HN : Hid (Codec.read 0 (x :: t) = none) := by unfold Hid; rw [Codec.read]
  have hlt := h.lt
  go_enter Try.func66, Try.ntmps66
  have hR0 : Rd (w.alloc (.cells VM.zero.cells.toArray 58)) R (x :: t) := h.ab abA
  have Y0 : VB (w.alloc (.cells VM.zero.cells.toArray 58)) w.heap.size VM.zero.cells := VB.box (xs := VM.zero.cells.toArray) (T := 58) (by (repeat (first | exact new_plain wnA | with_reducible refine old_alloc ?_ | with_reducible refine old_drew ?_ | with_reducible refine old_set ?_ wnA | with_reducible refine old_ab (by assumption) ?_)))
  go_wp2_with (first
    | (go_at_call 73
       refine (takeByte_cons R x t _ hR0).mono ?_
       rintro e w1 ⟨rfl, hR1, hg1⟩
       have Y1 := Y0.grown hg1 (by simp; omega)
       clear Y0)
    | (refine list_stV (o := ⟨none, _, _, _, _, _⟩) (us := VM.zero.cells) _ infoV rfl _ _ rfl rfl rfl Y1 rfl rfl rfl ?_
       intro w3 h3))
  refine bodyPost_ret (res_V2 _ infoV Try.underlying58 rfl Try.results66 _ rfl h3.v rfl) rfl ⟨h3.grown (grown_trans (grown_of abA) hg1) (Nat.le_refl _), ?_⟩
  rw [HN.out]
  exact ⟨VM.zero, rfl⟩
set_option maxRecDepth 100000 in
set_option maxHeartbeats 8000000 in
theorem takeValue_1 (d R : Nat) (hd : d ≤ 1000) (hV : Vs d) (x : UInt8) (t : List UInt8) (w : World) (h : Rd w R (x :: t)) : Calls Try.prog 66 #[.pointer (some ⟨R, 0, none⟩), .int .i64 ((d + 1 : Nat) : Int)] w (RetV (d + 1) w R (x :: t)) := by
  have hlt := h.lt
  have HL : ∀ n : Nat, n < 18446744073709551616 → ∀ (l : List UInt8) (w : World), Rd w R l → Calls Try.prog 77 #[.pointer (some ⟨R, 0, none⟩), .int .u64 (n : Int), .int .i64 (d : Int)] w (RetL d n w R l) := fun n hn l w hR => takeList_of d hV R n hn l w hR
  have d1 : ((d + 1 : Nat) : Int) - 1 = (d : Int) := by omega
  have d0 : (((d + 1 : Nat) : Int) == 0) = false := by simp; omega
  have dlo : 1 ≤ ((d + 1 : Nat) : Int) := by omega
  have dhi : ((d + 1 : Nat) : Int) ≤ 1001 := by omega
  generalize ((d + 1 : Nat) : Int) = D at *
  have HLL := Lib.hid HL
  clear HL hV
  go_enter Try.func66, Try.ntmps66
  have hR0 : Rd (w.alloc (.cells VM.zero.cells.toArray 58)) R (x :: t) := h.ab abA
  have Y0 : VB (w.alloc (.cells VM.zero.cells.toArray 58)) w.heap.size VM.zero.cells := VB.box (xs := VM.zero.cells.toArray) (T := 58) (by (repeat (first | exact new_plain wnA | with_reducible refine old_alloc ?_ | with_reducible refine old_drew ?_ | with_reducible refine old_set ?_ wnA | with_reducible refine old_ab (by assumption) ?_)))
  go_upto_region 4 with (go_at_call 73
                         refine (takeByte_cons R x t _ hR0).mono ?_
                         rintro e w1 ⟨rfl, hR1, hg1⟩
                         have Y1 := Y0.grown hg1 (by simp; omega)
                         clear Y0)
  have g1 : w.grownBy w1 (some R) := grown_trans (grown_of abA) hg1
  go_wp2_with fail
  refine (takeCode_any R t _ hR1).mono ?_
  rintro e w2 ⟨hg2, hm⟩
  have g2 := grown_trans g1 hg2
  have Y2 := Y1.grown hg2 (by simp; omega)
  rcases hcd : Codec.coded t with _ | ⟨n, m⟩
  · rw [hcd] at hm
    obtain ⟨n, rfl⟩ := hm
    have HN := Lib.hid (read_bad (d := d + 1) (x := x) hcd)
    clear hcd
    go_wp2_with (refine list_stV (o := ⟨none, _, _, _, _, _⟩) (us := VM.zero.cells) _ infoV rfl _ _ rfl rfl rfl Y2 rfl rfl rfl ?_
                 intro w3 h3)
    refine bodyPost_ret (res_V2 _ infoV Try.underlying58 rfl Try.results66 _ rfl h3.v rfl) rfl ⟨h3.grown g2 (Nat.le_refl _), ?_⟩
    rw [HN.out]
    exact ⟨VM.zero, rfl⟩
  · rw [hcd] at hm
    obtain ⟨rfl, hR2⟩ := hm
    have HC := Lib.hid hcd
    have hnl := (Codec.coded_back hcd).1
    have HNL := Lib.hid hnl
    clear hcd hnl
    have Z2 : VB (w2.alloc (.cells VM.zero.cells.toArray 58)) w2.heap.size VM.zero.cells := VB.box (xs := VM.zero.cells.toArray) (T := 58) (by (repeat (first | exact new_plain wnA | with_reducible refine old_alloc ?_ | with_reducible refine old_drew ?_ | with_reducible refine old_set ?_ wnA | with_reducible refine old_ab (by assumption) ?_)))
    go_upto_region 8 with (refine list_stV (o := ⟨none, _, _, _, _, _⟩) (us := [.int .u8 (x.toNat : Int), .int .i64 0, .slice none 0 0, .slice none 0 0]) _ infoV rfl _ _ rfl rfl rfl Z2 rfl rfl rfl ?_
                           intro w3 h3)
    have V3 : VB w3 w2.heap.size [.int .u8 (x.toNat : Int), .int .i64 0, .slice none 0 0, .slice none 0 0] := h3.v
    have hz2 := Y2.lt
    have Y3 : VB w3 w.heap.size VM.zero.cells := h3.vb (Y2.ab abA) (by omega)
    have hR3 : Rd w3 R (t.drop m) := (hR2.ab abA).grownA h3.self (fun g e => by cases e; exact hR2.lt)
    have G3 : w.grownBy w3 (some R) := h3.grown (grown_trans g2 (grown_of abA)) (by have := g2.size; omega)
    clear h3 Z2 Y2 hR2 g2 hg2 Y1 g1 hg1 hR1 hR0
    generalize w2.heap.size = b9 at *
    have hb9 := V3.lt
    have c1 := V3.at 1 rfl
    have c2 := V3.at 2 rfl
    have c3 := V3.at 3 rfl
    have f1 := V3.g 1
    have f2 := V3.g 2
    have f3 := V3.g 3
    have hRb : R < b9 := by omega
    have HD : Hid ((x :: t).drop (m + 1) = t.drop m) := by unfold Hid; rw [List.drop_succ_cons]
    by_cases k1 : x.toNat = 1
    · have HR := Lib.hid (read_1 (d := d) HC.out k1)
      rw [k1] at V3 ⊢
      have HK := Lib.hid k1
      clear k1 c2 c3 f2 f3
      go_wp2_with (first
      | (go_at_call 75
         refine (unfold_any n _ HNL.out).mono ?_
         rintro e w4 ⟨rfl, rfl⟩)
      | (refine list_ldV (o := ⟨some 58, _, _, _, _, _⟩) _ infoV Try.underlying58 rfl rfl _ rfl rfl (V3.set 1 (by simp) _) rfl ?_)
      | (refine list_stV (o := ⟨none, _, _, _, _, _⟩) (us := [.int .u8 1, .int .i64 (Codec.unfold_ n), .slice none 0 0, .slice none 0 0]) _ infoV rfl _ _ rfl rfl rfl (Y3.other (by simp; omega) _) rfl rfl rfl ?_
         intro w9 h9))
      refine bodyPost_ret (res_V2 _ infoV Try.underlying58 rfl Try.results66 _ rfl h9.v rfl) rfl ⟨h9.grown (grown_set0 G3 (by simp; omega) _) (Nat.le_refl _), ?_⟩
      rw [HR.out]
      refine ⟨⟨1, Codec.unfold_ n, none, [], 0, none, [], 0⟩, rfl, rfl, ⟨⟨by simp, (Codec.unfold_rng HNL.out).1, (Codec.unfold_rng HNL.out).2, by simp, by simp, by simp, by simp⟩, RS.nil, fun h => absurd h (by simp)⟩, ?_⟩
      rw [HD.out]
      refine ((hR3.grownA (grown_set (i := 1) (g := b9) (World.grownBy.refl w3 _) _) ?_).grownA h9.self ?_)
      · intro g e; cases e; exact hRb
      · intro g e; cases e; exact hlt
    by_cases k2 : x.toNat = 2
    · have HR := Lib.hid (read_2 (d := d) HC.out k2)
      rw [k2] at V3 ⊢
      have HK := Lib.hid k2
      clear k1 k2 c1 c3 f1 f3
      by_cases hn : (t.drop m).length < n
      · have HN : Hid (Codec.read (d + 1) (x :: t) = none) := by unfold Hid; rw [HR.out, if_pos hn]
        go_wp2_with (first
        | (go_at_call 76
           refine (takeBytes_no R _ n _ hR3 hn).mono ?_
           rintro e w4 ⟨rfl, rfl⟩)
        | (refine list_ldV (o := ⟨some 58, _, _, _, _, _⟩) _ infoV Try.underlying58 rfl rfl _ rfl rfl (V3.set 2 (by simp) _) rfl ?_)
        | (refine list_stV (o := ⟨none, _, _, _, _, _⟩) (us := [.int .u8 2, .int .i64 0, .slice none 0 0, .slice none 0 0]) _ infoV rfl _ _ rfl rfl rfl (Y3.other (by simp; omega) _) rfl rfl rfl ?_
           intro w9 h9))
        refine bodyPost_ret (res_V2 _ infoV Try.underlying58 rfl Try.results66 _ rfl h9.v rfl) rfl ⟨h9.grown (grown_set0 G3 (by simp; omega) _) (Nat.le_refl _), ?_⟩
        rw [HN.out]
        exact ⟨⟨2, 0, none, [], 0, none, [], 0⟩, rfl⟩
      · have HS : Hid (Codec.read (d + 1) (x :: t) = some (.mk 2 0 ((t.drop m).take n) [], m + 1 + n)) := by unfold Hid; rw [HR.out, if_neg hn]
        have HT : Hid (((t.drop m).take n).length = n) := by unfold Hid; rw [List.length_take]; omega
        have HLe := Lib.hid hR3.len
        have HNle : n ≤ (t.drop m).length := by omega
        clear hn
        go_upto_region 16 with (go_at_call 76
                                refine (takeBytes_ok R _ n _ hR3 HNle).mono ?_
                                rintro e w4 ⟨A4, c4, rfl, rs4, hc4, hR4, hg4⟩
                                have V4 := V3.grown hg4 (fun e => absurd (Option.some.inj e) (by omega))
                                have Y4 := Y3.grown hg4 (fun e => absurd (Option.some.inj e) (by omega))
                                have G4 := grown_trans G3 hg4
                                have c4' := V4.at 2 rfl
                                have f4' := V4.g 2
                                clear V3 Y3 c2 f2)
        have hz4 := V4.lt
        go_wp2_with (first
        | (refine list_ldV (o := ⟨some 58, _, _, _, _, _⟩) _ infoV Try.underlying58 rfl rfl _ rfl rfl (V4.set 2 (by simp) _) rfl ?_)
        | (refine list_stV (o := ⟨none, _, _, _, _, _⟩) (us := [.int .u8 2, .int .i64 0, .slice A4 n c4, .slice none 0 0]) _ infoV rfl _ _ rfl rfl rfl (Y4.other (by simp; omega) _) rfl rfl rfl ?_
           intro w9 h9))
        refine bodyPost_ret (res_V2 _ infoV Try.underlying58 rfl Try.results66 _ rfl h9.v rfl) rfl ⟨h9.grown (grown_set0 G4 (by simp; omega) _) (Nat.le_refl _), ?_⟩
        rw [HS.out]
        refine ⟨⟨2, 0, A4, (t.drop m).take n, c4, none, [], 0⟩, by unfold VM.val VM.cells; rw [HT.out]; rfl, rfl, ⟨⟨by simp, by simp, by simp, by rw [HT.out]; exact hc4, by rw [HT.out]; have := HLe.out; omega, by simp, by simp⟩, ?_, fun h => absurd h (by simp)⟩, ?_⟩
        · have hg49 := h9.self
          refine RS.mono' ?_ ((rs4.setb (p := ⟨b9, 2, none⟩) (by simp; omega) _).keep (w' := w9) fun g hg hl => h9.blk g ?_)
          · intro g hg; have := G3.size; omega
          · have := G3.size; omega
        · rw [show m + 1 + n = n + m + 1 by omega, List.drop_succ_cons, Nat.add_comm n m, ← List.drop_drop]
          refine ((hR4.grownA (grown_set (i := 2) (g := b9) (World.grownBy.refl w4 _) _) ?_).grownA h9.self ?_)
          · intro g e; cases e; exact hRb
          · intro g e; cases e; exact hlt
    by_cases k3 : x.toNat = 3
    · have HR := Lib.hid (read_3 (d := d) HC.out k3)
      rw [k3] at V3 ⊢
      have HK := Lib.hid k3
      clear k1 k2 k3 c1 c2 f1 f2
      have HC3 := HLL.out n HNL.out _ w3 hR3
      unfold RetL at HC3
      rcases hrd : Codec.reads d n (t.drop m) with _ | ⟨vs, u⟩
      · have HN : Hid (Codec.read (d + 1) (x :: t) = none) := by unfold Hid; rw [HR.out, hrd]; rfl
        rw [hrd] at HC3
        go_upto_region 16 with (go_at_call 77
                                with_reducible refine HC3.mono ?_
                                rintro e w4 ⟨hg4, rfl⟩
                                have V4 := V3.grown hg4 (fun e => absurd (Option.some.inj e) (by omega))
                                have Y4 := Y3.grown hg4 (fun e => absurd (Option.some.inj e) (by omega))
                                have G4 := grown_trans G3 hg4
                                have c4' := V4.at 3 rfl
                                have f4' := V4.g 3
                                clear V3 Y3 c3 f3 HC3)
        go_wp2_with (first
        | (refine list_ldV (o := ⟨some 58, _, _, _, _, _⟩) _ infoV Try.underlying58 rfl rfl _ rfl rfl (V4.set 3 (by simp) _) rfl ?_)
        | (refine list_stV (o := ⟨none, _, _, _, _, _⟩) (us := [.int .u8 3, .int .i64 0, .slice none 0 0, .slice none 0 0]) _ infoV rfl _ _ rfl rfl rfl (Y4.other (by simp; omega) _) rfl rfl rfl ?_
           intro w9 h9))
        refine bodyPost_ret (res_V2 _ infoV Try.underlying58 rfl Try.results66 _ rfl h9.v rfl) rfl ⟨h9.grown (grown_set0 G4 (by simp; omega) _) (Nat.le_refl _), ?_⟩
        rw [HN.out]
        exact ⟨⟨3, 0, none, [], 0, none, [], 0⟩, rfl⟩
      · have HS : Hid (Codec.read (d + 1) (x :: t) = some (.mk 3 0 [] vs, m + 1 + u)) := by unfold Hid; rw [HR.out, hrd]; rfl
        rw [hrd] at HC3
        clear hrd
        go_upto_region 16 with (go_at_call 77
                                with_reducible refine HC3.mono ?_
                                rintro e w4 ⟨hg4, A4, c4, rfl, hc4, hl4, hv4, hR4⟩
                                have V4 := V3.grown hg4 (fun e => absurd (Option.some.inj e) (by omega))
                                have Y4 := Y3.grown hg4 (fun e => absurd (Option.some.inj e) (by omega))
                                have G4 := grown_trans G3 hg4
                                have c4' := V4.at 3 rfl
                                have f4' := V4.g 3
                                clear V3 Y3 c3 f3 HC3)
        have hz4 := V4.lt
        go_wp2_with (first
        | (refine list_ldV (o := ⟨some 58, _, _, _, _, _⟩) _ infoV Try.underlying58 rfl rfl _ rfl rfl (V4.set 3 (by simp) _) rfl ?_)
        | (refine list_stV (o := ⟨none, _, _, _, _, _⟩) (us := [.int .u8 3, .int .i64 0, .slice none 0 0, .slice A4 vs.length c4]) _ infoV rfl _ _ rfl rfl rfl (Y4.other (by simp; omega) _) rfl rfl rfl ?_
           intro w9 h9))
        refine bodyPost_ret (res_V2 _ infoV Try.underlying58 rfl Try.results66 _ rfl h9.v rfl) rfl ⟨h9.grown (grown_set0 G4 (by simp; omega) _) (Nat.le_refl _), ?_⟩
        rw [HS.out]
        refine ⟨⟨3, 0, none, [], 0, A4, vs, c4⟩, rfl, rfl, ⟨⟨by simp, by simp, by simp, by simp, by simp, hc4, by simp; omega⟩, RS.nil, ?_⟩, ?_⟩
        · refine VLs.mono ?_ ((hv4.keep (w' := w4.setCell ⟨b9, 3, none⟩ _) fun g hg hl => Below.heap_setCell w4 _ _ g ?_).keep (w' := w9) fun g hg hl => h9.blk g ?_)
          · intro g hg; have := G3.size; omega
          · simp; omega
          · have := G3.size; omega
        · rw [show m + 1 + u = u + m + 1 by omega, List.drop_succ_cons, Nat.add_comm u m, ← List.drop_drop]
          refine ((hR4.grownA (grown_set (i := 3) (g := b9) (World.grownBy.refl w4 _) _) ?_).grownA h9.self ?_)
          · intro g e; cases e; exact hRb
          · intro g e; cases e; exact hlt
    · have HN := Lib.hid (read_kind (d := d) HC.out k1 k2 k3)
      have e1 : ((x.toNat : Int) == 1) = false := by simp; omega
      have e2 : ((x.toNat : Int) == 2) = false := by simp; omega
      have e3 : ((x.toNat : Int) == 3) = false := by simp; omega
      have hkx := x.toNat_lt
      clear k1 k2 k3 c1 c2 c3 f1 f2 f3
      go_wp2_with (first
      | (refine list_ldV (o := ⟨some 58, _, _, _, _, _⟩) _ infoV Try.underlying58 rfl rfl _ rfl rfl V3 rfl ?_)
      | (refine list_stV (o := ⟨none, _, _, _, _, _⟩) (us := [.int .u8 (x.toNat : Int), .int .i64 0, .slice none 0 0, .slice none 0 0]) _ infoV rfl _ _ rfl rfl rfl Y3 rfl rfl rfl ?_
         intro w9 h9))
      refine bodyPost_ret (res_V2 _ infoV Try.underlying58 rfl Try.results66 _ rfl h9.v rfl) rfl ⟨h9.grown G3 (Nat.le_refl _), ?_⟩
      rw [HN.out]
      exact ⟨⟨x.toNat, 0, none, [], 0, none, [], 0⟩, rfl⟩
theorem takeValue_any : ∀ d, d ≤ 1000 → Vs d := by
  intro d
  induction d with
  | zero =>
    intro _ R l w h
    cases l with
    | nil => exact takeValue_nil 0 R w h
    | cons x t => exact takeValue_0 R x t w h
  | succ d ih =>
    intro hd R l w h
    cases l with
    | nil => exact takeValue_nil (d + 1) R w h
    | cons x t => exact takeValue_1 d R (by omega) (ih (by omega)) x t w h
end Go.Proofs.Ytjgijpfknhfnjaa
