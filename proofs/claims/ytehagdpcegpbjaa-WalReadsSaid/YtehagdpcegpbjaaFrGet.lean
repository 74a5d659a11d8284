/- get, walked. Own work. -/
import Derived.Test.YtehagdpcegpbjaaFrPut
import Derived.Test.YtehagdpcegpbjaaFrRec
import Derived.Lib.LazyBuf
set_option linter.unusedVariables false
set_option linter.unusedSimpArgs false
namespace Go.Proofs.Ytehagdpcegpbjaa
open Go.RowKit

theorem clone_any (A : Option Addr) (l : List UInt8) (c : Nat) (w : World) (h : RB w 0 A l) (hc : l.length ≤ c) (ll : l.length ≤ 1000000) :
    Calls Try.prog 83 #[.slice A l.length c] w fun e w' => ∃ A' c' L, Hid (L = l) ∧ e = .returned (.slice A' L.length c') ∧ OR 5 w.heap.size w' A' c' L ∧ Ab w w' := by
  cases A with
  | none =>
    have hl : l = [] := List.eq_nil_of_length_eq_zero (by rcases Nat.eq_zero_or_pos l.length with h0 | h0; exact h0; obtain ⟨a, ha, _⟩ := h h0; cases ha)
    subst hl
    have hq := fun w => run_eql_slice_nil (P := Try.prog) w 22 5 none 0 c Try.underlying22
    simp at hq
    go_enter Try.func83, Try.ntmps83
    go_wp2
    go_ret
    exact ⟨none, 0, [], Lib.hid rfl, rfl, OR.none_, Ab.refl _⟩
  | some ad =>
    have hq := fun w => run_eql_slice_nil (P := Try.prog) w 22 5 (some ad) l.length c Try.underlying22
    simp at hq
    go_enter Try.func83, Try.ntmps83
    go_wp2_with ((at_builtin
                  refine listLit rfl _ _ rfl rfl rfl (m := l) rfl (by (repeat (first | exact new_plain (by first | (simp; done) | omega | (simp; omega)) | with_reducible refine old_alloc ?_ | with_reducible refine old_drew ?_ | with_reducible refine old_set ?_ (by first | (simp; done) | omega | (simp; omega)) | with_reducible refine old_ab (by assumption) ?_))) (RB.ab h (by repeat (first | with_reducible exact Ab.refl _ | with_reducible assumption | with_reducible refine Ab.drew ?_ | with_reducible refine Ab.drewN ?_ _ | with_reducible refine Ab.alloc ?_ _ | with_reducible refine Ab.trans ?_ (by assumption) | with_reducible refine Ab.set ?_ (by first | (simp; done) | omega | (simp; omega)) _))) hc (by omega) ?_
                  intro A1 c1 w1 L1 e1 a1 o1
                  have p1 := o1 w.heap.size (by omega) (by simp)
                  have b1 : Ab w w1 := (by repeat (first | with_reducible exact Ab.refl _ | with_reducible assumption | with_reducible refine Ab.drew ?_ | with_reducible refine Ab.drewN ?_ _ | with_reducible refine Ab.alloc ?_ _ | with_reducible refine Ab.trans ?_ (by assumption) | with_reducible refine Ab.set ?_ (by first | (simp; done) | omega | (simp; omega)) _))))
    go_ret
    exact ⟨A1, c1, L1, e1, rfl, p1, b1⟩

def GotRec (w : World) (b : List UInt8) (e : Ending) (w' : World) : Prop := ∃ (x : RecM) (ok : Bool), e = .returned (.tuple #[.agg #[.int .i64 x.num, .slice x.A x.b.length x.c], .bool ok]) ∧
  Hid (ok = true → Frame.Pre x.r b) ∧ Hid (ok = false → ∀ r, ¬ Frame.Pre r b) ∧ Laid w' w.heap.size x ∧ Ab w w' ∧ x.b.length ≤ 1000
theorem GotRec.no {w w' : World} {b : List UInt8} {e : Ending} (he : e = .returned (.tuple #[.agg #[.int .i64 0, .slice none 0 0], .bool false])) (h : ∀ r, ¬ Frame.Pre r b) (hb : Ab w w') : GotRec w b e w' :=
  ⟨⟨0, none, 0, []⟩, false, he, Lib.hid (fun h => by cases h), Lib.hid (fun _ => h), ⟨RB.nil, Nat.le_refl _, by simp⟩, hb, by simp⟩

attribute [local irreducible] cutA
set_option maxHeartbeats 400000 in
set_option maxRecDepth 100000 in
theorem get_any (A : Option Addr) (b : List UInt8) (c : Nat) (w : World) (hb : RB w 0 A b) (hc : b.length ≤ c) (lb : b.length ≤ 20000) :
    Calls Try.prog 77 #[.slice A b.length c] w (GotRec w b) := by
  by_cases h12 : b.length < 12
  · go_enter Try.func77, Try.ntmps77
    go_wp2
    refine bodyPost_ret (v := .tuple #[.agg #[.int .i64 0, .slice none 0 0], .bool false]) (by simp [results, Try.results77, go_sem]) rfl ?_
    exact GotRec.no rfl (Frame.no_short h12) (by repeat (first | with_reducible exact Ab.refl _ | with_reducible assumption | with_reducible refine Ab.drew ?_ | with_reducible refine Ab.drewN ?_ _ | with_reducible refine Ab.alloc ?_ _ | with_reducible refine Ab.trans ?_ (by assumption) | with_reducible refine Ab.set ?_ (by first | (simp; done) | omega | (simp; omega)) _))
  · have hc12 : 12 ≤ b.length := by omega
    have hs0 : ∀ w, (Instr.slice 22 (.slice A (b.length) c) (some (.int .i64 0)) none none).run Try.prog w = .ok (.slice (cutA A c 0) (b.length - 0) (c - 0)) w := fun w => run_cut 0 .i64 A (b.length) c w (by omega)
    have hs4 : ∀ w, (Instr.slice 22 (.slice A (b.length) c) (some (.int .i64 4)) none none).run Try.prog w = .ok (.slice (cutA A c 4) (b.length - 4) (c - 4)) w := fun w => run_cut 4 .i64 A (b.length) c w (by omega)
    have hs8 : ∀ w, (Instr.slice 22 (.slice A (b.length) c) (some (.int .i64 8)) none none).run Try.prog w = .ok (.slice (cutA A c 8) (b.length - 8) (c - 8)) w := fun w => run_cut 8 .i64 A (b.length) c w (by omega)
    simp only [Nat.sub_zero] at hs0
    generalize hn0 : (Frame.rd b 0).toNat = n0
    generalize hn4 : (Frame.rd b 4).toNat = n4
    generalize hn8 : (Frame.rd b 8).toNat = n8
    have l0 : n0 ≤ 4294967295 := by have := (Frame.rd b 0).isLt; omega
    have l4 : n4 ≤ 4294967295 := by have := (Frame.rd b 4).isLt; omega
    have N0 := Lib.hid hn0
    have N4 := Lib.hid hn4
    have N8 := Lib.hid hn8
    clear hn0 hn4 hn8
    have W0 : ∀ w', Ab w w' → Calls Try.prog 82 #[.slice (cutA A c 0) b.length c] w' (fun e w'' => e = .returned (.int .u32 (n0 : Int)) ∧ ∃ n, w'' = w'.drewN n) := fun w' h => word_at A b c b.length 0 n0 w' (hb.ab h) hc (by omega) (by omega) (by omega) N0.out
    have W4 : ∀ w', Ab w w' → Calls Try.prog 82 #[.slice (cutA A c 4) (b.length - 4) (c - 4)] w' (fun e w'' => e = .returned (.int .u32 (n4 : Int)) ∧ ∃ n, w'' = w'.drewN n) := fun w' h => word_at A b c (b.length - 4) 4 n4 w' (hb.ab h) hc (by omega) (by omega) (by omega) N4.out
    have W8 : ∀ w', Ab w w' → Calls Try.prog 82 #[.slice (cutA A c 8) (b.length - 8) (c - 8)] w' (fun e w'' => e = .returned (.int .u32 (n8 : Int)) ∧ ∃ n, w'' = w'.drewN n) := fun w' h => word_at A b c (b.length - 8) 8 n8 w' (hb.ab h) hc (by omega) (by omega) (by omega) N8.out
    go_enter Try.func77, Try.ntmps77
    go_wp2
    go_quiet ((go_at_call 82
               first
               | with_reducible exact Calls.quiet_of (W0 _ (by repeat (first | with_reducible exact Ab.refl _ | with_reducible assumption | with_reducible refine Ab.drew ?_ | with_reducible refine Ab.drewN ?_ _ | with_reducible refine Ab.alloc ?_ _ | with_reducible refine Ab.trans ?_ (by assumption) | with_reducible refine Ab.set ?_ (by first | (simp; done) | omega | (simp; omega)) _)))
               | with_reducible exact Calls.quiet_of (W4 _ (by repeat (first | with_reducible exact Ab.refl _ | with_reducible assumption | with_reducible refine Ab.drew ?_ | with_reducible refine Ab.drewN ?_ _ | with_reducible refine Ab.alloc ?_ _ | with_reducible refine Ab.trans ?_ (by assumption) | with_reducible refine Ab.set ?_ (by first | (simp; done) | omega | (simp; omega)) _)))))
    have hq : Ab (w.alloc (.cells #[.int .i64 0, .slice none 0 0] 72)) ((w.alloc (.cells #[.int .i64 0, .slice none 0 0] 72)).drewN nq) := (by repeat (first | with_reducible exact Ab.refl _ | with_reducible assumption | with_reducible refine Ab.drew ?_ | with_reducible refine Ab.drewN ?_ _ | with_reducible refine Ab.alloc ?_ _ | with_reducible refine Ab.trans ?_ (by assumption) | with_reducible refine Ab.set ?_ (by first | (simp; done) | omega | (simp; omega)) _))
    generalize ((w.alloc (.cells #[.int .i64 0, .slice none 0 0] 72)).drewN nq) = wq at *
    have zq0 := hq.at (p := ⟨w.heap.size, 0, none⟩) (v := .int .i64 0) (by simp [go_sem]); have zq1 := hq.at (p := ⟨w.heap.size, 1, none⟩) (v := .slice none 0 0) (by simp [go_sem])
    have zr0 : wq.frozen? ⟨w.heap.size, 0, none⟩ = false := (hq.frozen (p := ⟨w.heap.size, 0, none⟩) (by simp)).trans (by simp [go_sem]); have zr1 : wq.frozen? ⟨w.heap.size, 1, none⟩ = false := (hq.frozen (p := ⟨w.heap.size, 1, none⟩) (by simp)).trans (by simp [go_sem])
    have bq : Ab w wq := (by repeat (first | with_reducible exact Ab.refl _ | with_reducible assumption | with_reducible refine Ab.drew ?_ | with_reducible refine Ab.drewN ?_ _ | with_reducible refine Ab.alloc ?_ _ | with_reducible refine Ab.trans ?_ (by assumption) | with_reducible refine Ab.set ?_ (by first | (simp; done) | omega | (simp; omega)) _))
    clear hq
    by_cases h1 : 1000 < n0
    · go_wp2
      refine bodyPost_ret (v := .tuple #[.agg #[.int .i64 0, .slice none 0 0], .bool false]) (by simp [results, Try.results77, go_sem, zq0, zq1, zr0, zr1]) rfl ?_
      exact GotRec.no rfl (Frame.no_len (by rw [N0.out]; exact h1)) (by repeat (first | with_reducible exact Ab.refl _ | with_reducible assumption | with_reducible refine Ab.drew ?_ | with_reducible refine Ab.drewN ?_ _ | with_reducible refine Ab.alloc ?_ _ | with_reducible refine Ab.trans ?_ (by assumption) | with_reducible refine Ab.set ?_ (by first | (simp; done) | omega | (simp; omega)) _))
    · by_cases h2 : 1000000000 < n4
      · go_wp2
        refine bodyPost_ret (v := .tuple #[.agg #[.int .i64 0, .slice none 0 0], .bool false]) (by simp [results, Try.results77, go_sem, zq0, zq1, zr0, zr1]) rfl ?_
        exact GotRec.no rfl (Frame.no_num (by rw [N4.out]; exact h2)) (by repeat (first | with_reducible exact Ab.refl _ | with_reducible assumption | with_reducible refine Ab.drew ?_ | with_reducible refine Ab.drewN ?_ _ | with_reducible refine Ab.alloc ?_ _ | with_reducible refine Ab.trans ?_ (by assumption) | with_reducible refine Ab.set ?_ (by first | (simp; done) | omega | (simp; omega)) _))
      · by_cases h3 : (b.length : Int) - 12 < (n0 : Int)
        · go_wp2
          refine bodyPost_ret (v := .tuple #[.agg #[.int .i64 0, .slice none 0 0], .bool false]) (by simp [results, Try.results77, go_sem, zq0, zq1, zr0, zr1]) rfl ?_
          exact GotRec.no rfl (Frame.no_room (by rw [N0.out]; omega)) (by repeat (first | with_reducible exact Ab.refl _ | with_reducible assumption | with_reducible refine Ab.drew ?_ | with_reducible refine Ab.drewN ?_ _ | with_reducible refine Ab.alloc ?_ _ | with_reducible refine Ab.trans ?_ (by assumption) | with_reducible refine Ab.set ?_ (by first | (simp; done) | omega | (simp; omega)) _))
        · have h3' : n0 + 12 ≤ b.length := by omega
          have hd12 : ∀ w, (Instr.slice 22 (.slice A b.length c) (some (.int .i64 12)) (some (.int .i64 (12 + (n0 : Int)))) none).run Try.prog w = .ok (.slice (cutA A c 12) n0 (c - 12)) w := fun w => by
            have := run_cuts 12 (12 + n0) .i64 .i64 A b.length c w (by omega) (by omega)
            rw [show 12 + n0 - 12 = n0 by omega] at this
            rw [← this]; norm_cast
          have hD0 : RB w 0 (cutA A c 12) ((b.drop 12).take n0) := (hb.cut 12 c hc).take n0
          have hDl : ((b.drop 12).take n0).length = n0 := by simp; omega
          have hH0 : RB w 0 A (b.take 8) := hb.take 8
          have hHl : (b.take 8).length = 8 := by simp; omega
          have HPN := Lib.hid (fun h => Frame.no_sum (b := b) h)
          have HPO := Lib.hid (fun h => Frame.pre_of (b := b) (by rw [N0.out]; omega) (by rw [N4.out]; omega) (by rw [N0.out]; omega) h)
          rw [N0.out] at HPN HPO
          rw [N4.out] at HPO
          generalize (b.drop 12).take n0 = D at *
          generalize b.take 8 = H at *
          have hc8 : (8 : Int) ≤ (c : Int) := by omega
          generalize hms : (Crc.sum (H ++ D)).toNat = ms
          have S0 : ∀ w', Ab w w' → Calls Try.prog 79 #[.slice A 8 c, .slice (cutA A c 12) n0 (c - 12)] w' (fun e w'' => e = .returned (.int .u32 (ms : Int)) ∧ w'' = w') := fun w' h => by
            have := fsum_any A (cutA A c 12) H D c (c - 12) w' (hH0.ab h) (by omega) (hD0.ab h) (by omega) (by omega) (by omega)
            rw [hHl, hDl, hms] at this
            exact this.mono fun _ _ k => ⟨k.1, k.2.symm⟩
          have HS : Hid (n8 = ms ↔ Frame.rd b 8 = Crc.sum (H ++ D)) := Lib.hid (by rw [← N8.out, ← hms]; exact BitVec.toNat_inj)
          have MS := Lib.hid hms
          clear hms hH0 hHl
          go_wp2
          go_quiet ((first
                     | (go_at_call 82
                        with_reducible exact Calls.quiet_of (W8 _ (by repeat (first | with_reducible exact Ab.refl _ | with_reducible assumption | with_reducible refine Ab.drew ?_ | with_reducible refine Ab.drewN ?_ _ | with_reducible refine Ab.alloc ?_ _ | with_reducible refine Ab.trans ?_ (by assumption) | with_reducible refine Ab.set ?_ (by first | (simp; done) | omega | (simp; omega)) _))))
                     | (go_at_call 79
                        with_reducible exact Calls.quiet_of_same (S0 _ (by repeat (first | with_reducible exact Ab.refl _ | with_reducible assumption | with_reducible refine Ab.drew ?_ | with_reducible refine Ab.drewN ?_ _ | with_reducible refine Ab.alloc ?_ _ | with_reducible refine Ab.trans ?_ (by assumption) | with_reducible refine Ab.set ?_ (by first | (simp; done) | omega | (simp; omega)) _))))))
          have bq2 : Ab wq (wq.drewN nq) := (by repeat (first | with_reducible exact Ab.refl _ | with_reducible assumption | with_reducible refine Ab.drew ?_ | with_reducible refine Ab.drewN ?_ _ | with_reducible refine Ab.alloc ?_ _ | with_reducible refine Ab.trans ?_ (by assumption) | with_reducible refine Ab.set ?_ (by first | (simp; done) | omega | (simp; omega)) _))
          generalize wq.drewN nq = wr at *
          have zz0 := cell_lt zq0
          replace zq0 := bq2.at zq0
          replace zq1 := bq2.at zq1
          have zz := cell_lt zq0
          replace bq : Ab w wr := bq.trans bq2
          replace zr0 := bq2.fr (p := ⟨w.heap.size, 0, none⟩) zz0 zr0
          replace zr1 := bq2.fr (p := ⟨w.heap.size, 1, none⟩) zz0 zr1
          clear zz0 bq2
          by_cases hsm : n8 = ms
          · have hpre := HPO.out (HS.out.1 hsm)
            have HP := Lib.hid hpre
            have hn1 : n0 ≤ 1000 := by omega
            clear hpre HPO HPN HS MS W0 W4 W8 S0 hs0 hs4 hs8 hd12 N0 N4 N8
            have C0 : ∀ w', Ab w w' → Calls Try.prog 83 #[.slice (cutA A c 12) n0 (c - 12)] w' (fun e w'' => ∃ A' c' L, Hid (L = D) ∧ e = .returned (.slice A' L.length c') ∧ OR 5 w'.heap.size w'' A' c' L ∧ Ab w' w'') := fun w' h => by
              have := clone_any (cutA A c 12) D (c - 12) w' (hD0.ab h) (by omega) (by omega)
              rw [hDl] at this
              exact this
            subst hsm
            go_wp2_with fail
            refine (C0 _ (by repeat (first | with_reducible exact Ab.refl _ | with_reducible assumption | with_reducible refine Ab.drew ?_ | with_reducible refine Ab.drewN ?_ _ | with_reducible refine Ab.alloc ?_ _ | with_reducible refine Ab.trans ?_ (by assumption) | with_reducible refine Ab.set ?_ (by first | (simp; done) | omega | (simp; omega)) _))).mono ?_
            rintro e w5 ⟨A5, c5, L5, e5, rfl, o5, b5⟩
            replace zq0 := b5.at zq0
            replace zq1 := b5.at zq1
            replace zr0 := b5.fr (p := ⟨w.heap.size, 0, none⟩) zz zr0
            replace zr1 := b5.fr (p := ⟨w.heap.size, 1, none⟩) zz zr1
            have l5 : L5.length ≤ 1000 := by rw [e5.out, hDl]; exact hn1
            go_wp2
            refine bodyPost_ret (v := .tuple #[.agg #[.int .i64 n4, .slice A5 L5.length c5], .bool true]) (by simp [results, Try.results77, go_sem, zq0, zq1, zr0, zr1]) rfl ?_
            refine ⟨⟨n4, A5, c5, L5⟩, true, rfl, Lib.hid (fun _ => ?_), Lib.hid (fun h => by cases h), ⟨RB.mono (lo := wr.heap.size) (OR.rb (e := 5) (c := c5) (by (repeat (first | with_reducible exact OR.none_ | with_reducible assumption | with_reducible refine OR.drew ?_ | with_reducible refine OR.drewN ?_ _ | with_reducible refine OR.alloc ?_ _ | (with_reducible refine OR.setNew ?_ _ ?_ _; rotate_left; focus (first | (simp; done) | omega | (simp; omega))) | with_reducible refine OR.set ?_ (by first | (simp; done) | omega | (simp; omega)) _ | (with_reducible refine OR.keep ?_ (by assumption)))))) (by omega), o5.le, by simp only; omega⟩, (by repeat (first | with_reducible exact Ab.refl _ | with_reducible assumption | with_reducible refine Ab.drew ?_ | with_reducible refine Ab.drewN ?_ _ | with_reducible refine Ab.alloc ?_ _ | with_reducible refine Ab.trans ?_ (by assumption) | with_reducible refine Ab.set ?_ (by first | (simp; done) | omega | (simp; omega)) _)), l5⟩
            show Frame.Pre ⟨_, L5⟩ b
            rw [e5.out]
            exact HP.out
          · go_wp2
            refine bodyPost_ret (v := .tuple #[.agg #[.int .i64 0, .slice none 0 0], .bool false]) (by simp [results, Try.results77, go_sem, zq0, zq1, zr0, zr1]) rfl ?_
            exact GotRec.no rfl (HPN.out (fun h => hsm (HS.out.2 h))) (by repeat (first | with_reducible exact Ab.refl _ | with_reducible assumption | with_reducible refine Ab.drew ?_ | with_reducible refine Ab.drewN ?_ _ | with_reducible refine Ab.alloc ?_ _ | with_reducible refine Ab.trans ?_ (by assumption) | with_reducible refine Ab.set ?_ (by first | (simp; done) | omega | (simp; omega)) _))
end Go.Proofs.Ytehagdpcegpbjaa
