/- LinesBack, walked. Own work. Written by genln_lb.py. -/
import Derived.Test.YtegnkmfdchljkaaDoorLnAlive
import Derived.Test.YtegnkmfdchljkaaDoorLnRefC
set_option linter.unusedVariables false
set_option linter.unusedSimpArgs false
namespace Go.Proofs.YtegnkmfdchljkaaDoor
open Go.RowKit

set_option maxHeartbeats 16000000 in
set_option maxRecDepth 100000 in
theorem lback_walk (A B : Option Addr) (c d : Nat) (l : List UInt8) (ps : List ByteArray) (w : World) (hb : RB w 0 A l) (hc : l.length ≤ c) (hA : A = none → c = 0) (hc2 : c ≤ 9223372036854775807) (hs : SO w B d ps) :
    Calls Tryd.prog 5 #[.slice A l.length c, .slice B ps.length d] w (RetTrue w) := by
  have C1 := fun w' => lalive_any w'
  have C2 := fun w' (hk : Ab w w') => rlong_any B d ps w' (hs.ab hk)
  by_cases h5 : 5000 < l.length
  · have hT : (5000 : Int) < (l.length : Int) := by omega
    go_enter Tryd.func5, Tryd.ntmps5
    go_wp2_with fail
    refine (C1 _).mono ?_
    rintro e w1 ⟨rfl, hb1⟩
    go_wp2
    go_ret
    exact ⟨rfl, by exact abA⟩
  · have hT : ¬ (5000 : Int) < (l.length : Int) := by omega
    go_enter Tryd.func5, Tryd.ntmps5
    go_wp2_with fail
    refine (C1 _).mono ?_
    rintro e w1 ⟨rfl, hb1⟩
    go_wp2_with fail
    refine (C2 _ abA).mono ?_
    rintro e w2 ⟨q, rfl, hq, hb2⟩
    have B2 : Ab w w2 := Ab.trans (by exact abA) hb2
    clear C1 C2 hb1 hb2
    cases q with
    | true =>
      go_wp2
      go_ret
      exact ⟨rfl, by exact abA⟩
    | false =>
      have HH := hq rfl
      have HS := hs.sm HH
      have HH3 := HH.s
      have CL := fun w' (hk : Ab w w') => rlines_any B d ps w' (HS.ab hk) (fun p hp => by have := HH3 p hp; omega)
      have HA := Lib.hid hA
      have hbA := hb
      clear hq hs HH HH3 hA
      by_cases hk : Ln.chk l = 0
      · obtain ⟨k1, k2⟩ := Ln.chk_zero hk
        have CS : ∀ w', Ab w w' → Calls Tryd.prog 9 #[.slice A l.length c] w' fun e w2 => ∃ B d qs, e = .returned (.tuple #[.slice B qs.length d, .int .i64 0]) ∧ Hid (Ln.L qs = Ln.parts l) ∧ SM w2 B d qs ∧ Ab w' w2 := fun w' hw => (split_any A l c w' (hb.ab hw) hc (by omega)).mono fun e w2 h => by
          obtain ⟨B, d, qs, h1, h2, h3⟩ := h
          rw [hk] at h1
          rw [if_pos hk] at h2
          exact ⟨B, d, qs, h1, h2, h3⟩
        have HK := Lib.hid hk
        clear hk
        go_wp2_with fail
        refine (CS _ abA).mono ?_
        rintro e w3 ⟨B1, d1, p1, rfl, hL1, hS1, hb3⟩
        have B3 : Ab w w3 := Ab.trans (by exact abA) hb3
        clear CS hb3 B2
        go_wp2_with fail
        go_loopw [8, 9] (fun n i w' => ∃ k : Nat, k ≤ l.length ∧ i = .int .i64 k ∧ n = .int .i64 ((l.take k).count 10 : Nat) ∧ Ab w3 w') (fun _ i _ => l.length - (intOf i).toNat)
        case atStart => exact ⟨0, Nat.zero_le _, rfl, rfl, abA⟩
        case round =>
          obtain ⟨k, hk, rfl, rfl, hbx⟩ := hrel
          rename World => w4
          have hn0 : (l.take k).count 10 ≤ k := by have := List.count_le_length (a := (10 : UInt8)) (l := l.take k); simp at this; omega
          by_cases hlt : k < l.length
          · have hT : (k : Int) < l.length := by omega
            obtain ⟨ad, rfl, _, hcell⟩ := hbA (by omega)
            have c0 : w4.cell? (ad.add k) = some (.int .u8 (l[k].toNat : Int)) := hbx.at (B3.at (hcell k hlt))
            clear hcell
            by_cases hn : l[k] = 10
            · have HE : Hid ((l.take (k + 1)).count 10 = (l.take k).count 10 + 1) := by unfold Hid; rw [List.take_succ_eq_append_getElem hlt, hn]; simp
              rw [hn, show (((10 : UInt8).toNat : Nat) : Int) = 10 from rfl] at c0
              generalize (l.take k).count 10 = m at *
              go_wp2
              go_roundw
              case rel => exact ⟨k + 1, by omega, by go_num, by rw [HE.out]; go_num, hbx⟩
              case measure => simp [intOf]; omega
            · have HE : Hid ((l.take (k + 1)).count 10 = (l.take k).count 10) := by unfold Hid; rw [List.take_succ_eq_append_getElem hlt, List.count_append, List.count_cons_of_ne (by simpa using hn)]; rfl
              have hne : ¬ (l[k].toNat : Int) = 10 := fun e => hn (by
                apply UInt8.toNat.inj
                have : l[k].toNat = 10 := by omega
                rw [this]; rfl)
              generalize l[k] = xk at *
              generalize (l.take k).count 10 = m at *
              go_wp2
              go_roundw
              case rel => exact ⟨k + 1, by omega, by go_num, by rw [HE.out], hbx⟩
              case measure => simp [intOf]; omega
          · obtain rfl : k = l.length := by omega
            rw [List.take_length] at hn0 ⊢
            have hp1 : p1.length = l.count 10 + 1 := by
              have := congrArg List.length hL1.out
              rw [List.length_map, Ln.parts_length] at this
              exact this
            have CJ : ∀ w', Ab w3 w' → Calls Tryd.prog 11 #[.slice B1 p1.length d1] w' fun e w2 => ∃ B d, e = .returned (.tuple #[.slice B l.length d, .int .i64 0]) ∧ RB w2 0 B l ∧ Ab w' w2 := fun w' hw => (join_any B1 d1 p1 w' (hS1.ab hw)).mono fun e w2 h => by
              obtain ⟨B, d, y, h1, h2, h3, _, _, h6⟩ := h
              have e1 : Ln.err (Ln.L p1) = 0 := by rw [hL1.out, Ln.err_parts]; exact HK.out
              rw [e1] at h1
              rw [if_pos e1, hL1.out, Ln.text_parts] at h2
              subst h2
              exact ⟨B, d, h1, h3, h6⟩
            generalize l.count 10 = m at *
            have HP1 := Lib.hid hp1
            clear hL1 hp1
            go_wp2_with fail
            refine (CJ _ abA).mono ?_
            rintro e w5 ⟨B5, d5, rfl, hR5, hb5⟩
            have B5' : Ab w w5 := B3.trans (Ab.trans (by exact abA) hb5)
            clear CJ hb5
            have hp1 := HP1.out
            have hp2 : (p1.length : Int) = (m : Int) + 1 := by omega
            have hp3 : ¬ (60 : Int) < (p1.length : Int) := by omega
            have hp4 : ¬ (60 : Int) < (m : Int) + 1 := by omega
            have CB := fun w' (hk : Ab w5 w') => rsameB_any B5 A d5 c l w' (hR5.ab hk) (RB.ab hbA (B5'.trans hk))
            go_wp2_with fail
            refine (CB _ abA).mono ?_
            rintro e w6 ⟨rfl, hb6⟩
            have B6 : Ab w w6 := Ab.trans (by exact abA) hb6
            clear CB hb6 B5' hbx
            go_wp2_with fail
            refine (CL _ abA).mono ?_
            rintro e x1 ⟨rfl, hx1⟩
            have BB : Ab w x1 := Ab.trans (by exact abA) hx1
            clear CL hx1
            by_cases hE : Ln.err (Ln.L ps) = 0
            · obtain ⟨ht1, ht2⟩ := Ln.err_text hE
              have CJ : ∀ w', Ab w w' → Calls Tryd.prog 11 #[.slice B ps.length d] w' fun e w2 => ∃ B d y, e = .returned (.tuple #[.slice B y.length d, .int .i64 0]) ∧ Hid (y = Ln.text (Ln.L ps)) ∧ RB w2 0 B y ∧ y.length ≤ d ∧ y.length ≤ 2000 ∧ Ab w' w2 := fun w' hk => (join_any B d ps w' (HS.ab hk)).mono fun e w2 h => by
                obtain ⟨B, d, y, h1, h2, h3⟩ := h
                rw [hE] at h1
                rw [if_pos hE] at h2
                exact ⟨B, d, y, h1, h2, h3⟩
              have T1 := Lib.hid ht1
              have T2 := Lib.hid ht2
              rw [hE]
              clear ht1 ht2
              go_wp2_with fail
              refine (CJ _ abA).mono ?_
              rintro e x2 ⟨B2, d2, y2, rfl, hy, hR2, hl2, hm2, hx2⟩
              have BC : Ab w x2 := Ab.trans (by exact abA) hx2
              clear CJ hx2 BB
              have CS : Calls Tryd.prog 9 #[.slice B2 y2.length d2] x2 fun e w2 => ∃ B d qs, e = .returned (.tuple #[.slice B qs.length d, .int .i64 0]) ∧ Hid (Ln.L qs = Ln.L ps) ∧ SM w2 B d qs ∧ Ab x2 w2 := (split_any B2 y2 d2 x2 hR2 hl2 (by omega)).mono fun e w2 h => by
                obtain ⟨B, d, qs, h1, h2, h3⟩ := h
                have e1 : Ln.chk y2 = 0 := by rw [hy.out]; exact T1.out
                rw [e1] at h1
                rw [if_pos e1, hy.out, T2.out] at h2
                exact ⟨B, d, qs, h1, h2, h3⟩
              go_wp2_with fail
              refine CS.mono ?_
              rintro e x3 ⟨B3, d3, qs, rfl, hq, hS3, hx3⟩
              have BD : Ab w x3 := Ab.trans (by exact abA) hx3
              clear CS hx3 BC
              have CM := fun w' (hk : Ab x3 w') => rsame_any B3 B d3 d qs ps w' (hS3.ab hk) (HS.ab (BD.trans hk)) hq.out
              go_wp2_with fail
              refine (CM _ abA).mono ?_
              rintro e x4 ⟨rfl, hx4⟩
              go_wp2
              go_ret
              exact ⟨rfl, Ab.trans (by exact abA) hx4⟩
            · have hz : ¬ (Ln.err (Ln.L ps) : Int) = 0 := by omega
              generalize Ln.err (Ln.L ps) = en at *
              go_wp2
              go_ret
              exact ⟨rfl, by exact abA⟩
      · have h4 := (Ln.chk_cases l).resolve_right hk
        have CS : ∀ w', Ab w w' → Calls Tryd.prog 9 #[.slice A l.length c] w' fun e w2 => ∃ B d qs, e = .returned (.tuple #[.slice B (List.length (α := ByteArray) qs) d, .int .i64 4]) ∧ Ab w' w2 := fun w' hw => (split_any A l c w' (hb.ab hw) hc (by omega)).mono fun e w2 h => by
          obtain ⟨B, d, qs, h1, h2, h3, h4'⟩ := h
          rw [h4] at h1
          exact ⟨B, d, qs, h1, h4'⟩
        have CK : ∀ w', Ab w w' → Calls Tryd.prog 14 #[.slice A l.length c] w' fun e w2 => e = .returned (.int .i64 4) ∧ Ab w' w2 := fun w' hw => (rcheck_any A l c w' (hb.ab hw) hc HA.out (by omega) hc2).mono fun e w2 h => by
          rw [h4] at h
          exact h
        clear hk h4
        go_wp2_with fail
        refine (CS _ abA).mono ?_
        rintro e w3 ⟨B1, d1, p1, rfl, hb3⟩
        have B3 : Ab w w3 := Ab.trans (by exact abA) hb3
        clear CS hb3 B2
        go_wp2_with fail
        refine (CK _ abA).mono ?_
        rintro e w4 ⟨rfl, hb4⟩
        have B4 : Ab w w4 := Ab.trans (by exact abA) hb4
        clear CK hb4 B3
        go_wp2_with fail
        refine (CL _ abA).mono ?_
        rintro e x1 ⟨rfl, hx1⟩
        have BB : Ab w x1 := Ab.trans (by exact abA) hx1
        clear CL hx1
        by_cases hE : Ln.err (Ln.L ps) = 0
        · obtain ⟨ht1, ht2⟩ := Ln.err_text hE
          have CJ : ∀ w', Ab w w' → Calls Tryd.prog 11 #[.slice B ps.length d] w' fun e w2 => ∃ B d y, e = .returned (.tuple #[.slice B y.length d, .int .i64 0]) ∧ Hid (y = Ln.text (Ln.L ps)) ∧ RB w2 0 B y ∧ y.length ≤ d ∧ y.length ≤ 2000 ∧ Ab w' w2 := fun w' hk => (join_any B d ps w' (HS.ab hk)).mono fun e w2 h => by
            obtain ⟨B, d, y, h1, h2, h3⟩ := h
            rw [hE] at h1
            rw [if_pos hE] at h2
            exact ⟨B, d, y, h1, h2, h3⟩
          have T1 := Lib.hid ht1
          have T2 := Lib.hid ht2
          rw [hE]
          clear ht1 ht2
          go_wp2_with fail
          refine (CJ _ abA).mono ?_
          rintro e x2 ⟨B2, d2, y2, rfl, hy, hR2, hl2, hm2, hx2⟩
          have BC : Ab w x2 := Ab.trans (by exact abA) hx2
          clear CJ hx2 BB
          have CS : Calls Tryd.prog 9 #[.slice B2 y2.length d2] x2 fun e w2 => ∃ B d qs, e = .returned (.tuple #[.slice B qs.length d, .int .i64 0]) ∧ Hid (Ln.L qs = Ln.L ps) ∧ SM w2 B d qs ∧ Ab x2 w2 := (split_any B2 y2 d2 x2 hR2 hl2 (by omega)).mono fun e w2 h => by
            obtain ⟨B, d, qs, h1, h2, h3⟩ := h
            have e1 : Ln.chk y2 = 0 := by rw [hy.out]; exact T1.out
            rw [e1] at h1
            rw [if_pos e1, hy.out, T2.out] at h2
            exact ⟨B, d, qs, h1, h2, h3⟩
          go_wp2_with fail
          refine CS.mono ?_
          rintro e x3 ⟨B3, d3, qs, rfl, hq, hS3, hx3⟩
          have BD : Ab w x3 := Ab.trans (by exact abA) hx3
          clear CS hx3 BC
          have CM := fun w' (hk : Ab x3 w') => rsame_any B3 B d3 d qs ps w' (hS3.ab hk) (HS.ab (BD.trans hk)) hq.out
          go_wp2_with fail
          refine (CM _ abA).mono ?_
          rintro e x4 ⟨rfl, hx4⟩
          go_wp2
          go_ret
          exact ⟨rfl, Ab.trans (by exact abA) hx4⟩
        · have hz : ¬ (Ln.err (Ln.L ps) : Int) = 0 := by omega
          generalize Ln.err (Ln.L ps) = en at *
          go_wp2
          go_ret
          exact ⟨rfl, by exact abA⟩
end Go.Proofs.YtegnkmfdchljkaaDoor
