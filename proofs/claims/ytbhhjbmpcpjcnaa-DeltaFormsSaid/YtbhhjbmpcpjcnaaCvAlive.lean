/- The statements' own functions, walked: values made, examples, fit. Own work. -/
import Derived.Test.YtbhhjbmpcpjcnaaCvRefC
import Derived.Test.YtbhhjbmpcpjcnaaCvRefF
set_option linter.unusedVariables false
set_option linter.unusedSimpArgs false
namespace Go.Proofs.Ytbhhjbmpcpjcnaa
open Go.RowKit
open Codec (V)

/-- A guarded load of a whole variable that comes. -/
theorem list_ldG7 {ops : Array Oper} {rest : List Oper} {o : Oper} {a : Act} {w : World} {b : Nat} {vs : List Value} {Q : Exit → Act → World → Prop} (T : TypeId) {n : Nat} {d : TypeDesc} (hT : (Try.prog.info? T).map (·.size) = some n) (hu : Try.prog.underlying T = some d) (hd : d.isRow = true) (hw : Region.wanted o (yielded ops a.tmps) = true) (x : Operand) (ho : o.op = .load T x) (hx : a.eval x = .pointer (some ⟨b, 0, none⟩)) (hv : VB w b vs) (hl : vs.length = n)
    (h : wpList Try.prog ops Q rest (a.put o.dst (.agg vs.toArray)) w) : wpList Try.prog ops Q (o :: rest) a w :=
  wpList_step fun K hK => by
    rw [if_pos hw]
    exact wp_load_mid _ x ho b 0 hx vs _ hv.range hu hd (by rw [hT, hl]) (hK _ _ h)
set_option maxRecDepth 100000 in
theorem number_any (n : Int) (w : World) : Calls Try.prog 42 #[.int .i64 n] w fun e w' => e = .returned (VM.val ⟨1, n, none, [], 0, none, [], 0⟩) ∧ Ab w w' := by
  go_enter Try.func42, Try.ntmps42
  have Y0 : VB (w.alloc (.cells VM.zero.cells.toArray 58)) w.heap.size VM.zero.cells := VB.box (xs := VM.zero.cells.toArray) (T := 58) (by (repeat (first | exact new_plain wnA | with_reducible refine old_alloc ?_ | with_reducible refine old_drew ?_ | with_reducible refine old_set ?_ wnA | with_reducible refine old_ab (by assumption) ?_)))
  go_wp2_with (refine list_stV (o := ⟨none, _, _, _, _, _⟩) (us := [.int .u8 1, .int .i64 n, .slice none 0 0, .slice none 0 0]) _ infoV rfl _ _ rfl rfl rfl Y0 rfl rfl rfl ?_; intro w9 h9)
  refine bodyPost_ret (res_V1 _ infoV Try.underlying58 rfl Try.results42 _ rfl h9.v rfl) rfl ?_
  exact ⟨rfl, h9.ab w abA (Nat.le_refl _)⟩
set_option maxRecDepth 100000 in
theorem list_any (L : Option Addr) (n c : Nat) (w : World) : Calls Try.prog 41 #[.slice L n c] w fun e w' => e = .returned (.agg #[.int .u8 3, .int .i64 0, .slice none 0 0, .slice L n c]) ∧ Ab w w' := by
  go_enter Try.func41, Try.ntmps41
  have Y0 : VB (w.alloc (.cells VM.zero.cells.toArray 58)) w.heap.size VM.zero.cells := VB.box (xs := VM.zero.cells.toArray) (T := 58) (by (repeat (first | exact new_plain wnA | with_reducible refine old_alloc ?_ | with_reducible refine old_drew ?_ | with_reducible refine old_set ?_ wnA | with_reducible refine old_ab (by assumption) ?_)))
  go_wp2_with (refine list_stV (o := ⟨none, _, _, _, _, _⟩) (us := [.int .u8 3, .int .i64 0, .slice none 0 0, .slice L n c]) _ infoV rfl _ _ rfl rfl rfl Y0 rfl rfl rfl ?_; intro w9 h9)
  refine bodyPost_ret (res_V1 _ infoV Try.underlying58 rfl Try.results41 _ rfl h9.v rfl) rfl ?_
  exact ⟨rfl, h9.ab w abA (Nat.le_refl _)⟩
set_option maxRecDepth 100000 in
theorem text_any (A : Option Addr) (l : List UInt8) (c : Nat) (w : World) (hb : RB w 0 A l) (hc : l.length ≤ c) (ll : l.length ≤ 1000000) :
    Calls Try.prog 43 #[.slice A l.length c] w fun e w' => ∃ (A' : Option Addr) (c' : Nat), e = .returned (VM.val ⟨2, 0, A', l, c', none, [], 0⟩) ∧ VL 1 w' (fun _ => True) ⟨2, 0, A', l, c', none, [], 0⟩ ∧ Ab w w' := by
  go_enter Try.func43, Try.ntmps43
  have Y0 : VB (w.alloc (.cells VM.zero.cells.toArray 58)) w.heap.size VM.zero.cells := VB.box (xs := VM.zero.cells.toArray) (T := 58) (by (repeat (first | exact new_plain wnA | with_reducible refine old_alloc ?_ | with_reducible refine old_drew ?_ | with_reducible refine old_set ?_ wnA | with_reducible refine old_ab (by assumption) ?_)))
  have Y1 := Y0.ab (show Ab _ ((w.alloc (.cells VM.zero.cells.toArray 58)).alloc (.cells #[] 5)) from abA)
  go_wp2_with (first
    | ((at_builtin
        refine listLit rfl _ _ rfl rfl rfl (m := l) rfl (by (repeat (first | exact new_plain wnA | with_reducible refine old_alloc ?_ | with_reducible refine old_drew ?_ | with_reducible refine old_set ?_ wnA | with_reducible refine old_ab (by assumption) ?_))) (RB.ab hb (show Ab w _ from abA)) hc (by omega) ?_
        intro A1 d1 w1 L1 e1 b1 o1
        have oA := o1 (w.heap.size + 1) (by simp) (by simp)
        have ab1 : Ab w w1 := Ab.trans (by exact abA) b1
        have YA := Y1.ab b1
        clear o1))
    | (refine list_stV (o := ⟨none, _, _, _, _, _⟩) (us := [.int .u8 2, .int .i64 0, .slice A1 L1.length d1, .slice none 0 0]) _ infoV rfl _ _ rfl rfl rfl YA rfl rfl rfl ?_; intro w9 h9))
  refine bodyPost_ret (res_V1 _ infoV Try.underlying58 rfl Try.results43 _ rfl h9.v rfl) rfl ?_
  have hl1 : L1 = l := e1.out
  subst hl1
  refine ⟨A1, d1, rfl, ⟨⟨by simp, by simp, by simp, oA.le, by show L1.length ≤ _; omega, by simp, by simp⟩, ?_, fun h => absurd h (by simp)⟩, h9.ab w ab1 (Nat.le_refl _)⟩
  exact RS.mono' (fun _ _ => trivial) ((oA.rb.rs (S := fun g => w.heap.size + 1 ≤ g) (fun g h => h)).keep (w' := w9) fun g hg hl => h9.blk g (by omega))
end Go.Proofs.Ytbhhjbmpcpjcnaa
