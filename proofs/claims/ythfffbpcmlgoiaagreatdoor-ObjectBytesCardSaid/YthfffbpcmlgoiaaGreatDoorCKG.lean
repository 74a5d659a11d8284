/- The texts CodecG, CvRefF, CvAlive, one behind the other. Own work. -/
import Derived.Test.YthfffbpcmlgoiaaGreatDoorCKA
import Derived.Test.YthfffbpcmlgoiaaGreatDoorCCvRefE
import Derived.Test.YthfffbpcmlgoiaaGreatDoorCKF
set_option linter.unusedVariables false
set_option linter.unusedSimpArgs false
/- Plain mathematics of layer 7: values that are not great. No program is named. Own work. -/
namespace Go.Proofs.YthfffbpcmlgoiaaGreatDoor
namespace Codec

/-- How many values there are down to a depth. -/
def tot : Nat → V → Nat
  | 0, _ => 1
  | d + 1, v => 1 + (v.l.map (tot d)).sum
def tsum (d : Nat) (l : List V) (k : Nat) : Nat := ((l.take k).map (tot d)).sum
theorem tsum_succ (d : Nat) (l : List V) (k : Nat) (h : k < l.length) : tsum d l (k + 1) = tsum d l k + tot d l[k] := by
  unfold tsum
  rw [List.take_succ_eq_append_getElem h, List.map_append, List.sum_append]
  simp only [List.map_cons, List.map_nil, List.sum_cons, List.sum_nil, Nat.add_zero]
theorem tsum_all (d : Nat) (v : V) : tot (d + 1) v = 1 + tsum d v.l v.l.length := by unfold tsum; rw [List.take_length]; rfl
/-- Not deeper than d, with bytes of at most 4,000. -/
def wok : Nat → V → Prop
  | 0, _ => False
  | d + 1, v => v.b.length ≤ 4000 ∧ ∀ x ∈ v.l, wok d x
theorem code_le_ : ∀ (k n : Nat), n < 128 ^ (k + 1) → (code n).length ≤ k + 1 := by
  intro k
  induction k with
  | zero => intro n h; rw [code_small (by simpa using h)]; simp
  | succ k ih =>
    intro n h
    by_cases hn : n < 128
    · rw [code_small hn]; simp
    · rw [code_big hn, List.length_cons]
      have := ih (n / 128) (by rw [Nat.div_lt_iff_lt_mul (by decide)]; rw [Nat.pow_succ] at h; exact h)
      omega
theorem flat_le (d f : Nat) : ∀ (l : List V), (∀ x ∈ l, (enc d x).length ≤ 4011 * tot f x) → ((l.map (enc d)).flatten).length ≤ 4011 * (l.map (tot f)).sum := by
  intro l
  induction l with
  | nil => intro _; simp
  | cons x l ih =>
    intro h
    have h1 := h x (by simp)
    have h2 := ih fun y hy => h y (by simp [hy])
    simp only [List.map_cons, List.flatten_cons, List.length_append, List.sum_cons]
    omega
theorem enc_tot : ∀ (d e f : Nat) (v : V), kinds d v = true → wf d v → wok e v → d ≤ e → d ≤ f + 1 → (enc d v).length ≤ 4011 * tot f v := by
  intro d
  induction d with
  | zero => intro e f v hk; simp [kinds] at hk
  | succ d ih =>
    intro e f v hk hw ho he hf
    cases e with
    | zero => exact ho.elim
    | succ e =>
      have ht : 1 ≤ tot f v := by cases f <;> unfold tot <;> omega
      obtain ⟨w1, w2, w3, w4, w5⟩ := hw
      rcases kinds_cases hk with ⟨n, rfl⟩ | ⟨b, rfl⟩ | ⟨l, rfl, hl⟩
      · have h1 := code_le_ 9 (fold n) (Nat.lt_of_lt_of_le (fold_lt w1 w2) (by decide))
        have e1 : enc (d + 1) (.mk 1 n [] []) = 1 :: code (fold n) := rfl
        rw [e1, List.length_cons]; omega
      · have hb : b.length ≤ 4000 := ho.1
        have h1 := code_le_ 9 b.length (Nat.lt_of_le_of_lt hb (by decide))
        have e1 : enc (d + 1) (.mk 2 0 b []) = 2 :: (code b.length ++ b) := rfl
        rw [e1, List.length_cons, List.length_append]; omega
      · simp only [V.l] at w4 w5
        have h1 := code_le_ 9 l.length (Nat.lt_of_lt_of_le w4 (by decide))
        have e1 : enc (d + 1) (.mk 3 0 [] l) = 3 :: (code l.length ++ (l.map (enc d)).flatten) := rfl
        rw [e1, List.length_cons, List.length_append]
        cases l with
        | nil =>
          have : (code ([] : List V).length).length = 1 := by rw [code_small (by simp)]; rfl
          rw [this]; simp; omega
        | cons y l =>
          have hd : 1 ≤ d := by
            cases d with
            | zero => have := hl y (by simp); simp [kinds] at this
            | succ d => omega
          obtain ⟨f', rfl⟩ : ∃ f', f = f' + 1 := ⟨f - 1, by omega⟩
          have h2 := flat_le d f' (y :: l) fun x hx => ih e f' x (hl x hx) (w5 x hx) (ho.2 x hx) (by omega) (by omega)
          have e2 : tot (f' + 1) (.mk 3 0 [] (y :: l)) = 1 + ((y :: l).map (tot f')).sum := rfl
          rw [e2]
          omega
end Codec
end Go.Proofs.YthfffbpcmlgoiaaGreatDoor

/- The reference of the codec: Check; values that are not great, walked. Own work. -/
namespace Go.Proofs.YthfffbpcmlgoiaaGreatDoor
open Go.RowKit
open Codec (V)

theorem VL.wf : ∀ {d : Nat} {w : World} {S : Nat → Prop} {x : VM}, VL d w S x → Codec.wf d x.v := by
  intro d
  induction d with
  | zero => intro w S x h; exact h.elim
  | succ d ih =>
    intro w S x h
    refine ⟨h.1.2.1, h.1.2.2.1, by show x.b.length < _; have := h.1.2.2.2.2.1; omega, by show x.l.length < _; have := h.1.2.2.2.2.2.2; omega, fun e he => ?_⟩
    obtain ⟨i, hi, rfl⟩ := List.mem_iff_getElem.1 he
    obtain ⟨g, o, _, _, h3⟩ := h.2.2 (by show 0 < x.l.length; have : i < x.l.length := hi; omega)
    obtain ⟨y, y1, _, y3⟩ := h3 i hi
    have := ih y3
    rw [y1] at this
    exact this
theorem wf_kinds : ∀ (d e : Nat) (v : V), Codec.kinds d v = true → Codec.wf e v → Codec.wf d v := by
  intro d
  induction d with
  | zero => intro e v h; simp [Codec.kinds] at h
  | succ d ih =>
    intro e v hk hw
    cases e with
    | zero => exact hw.elim
    | succ e =>
      refine ⟨hw.1, hw.2.1, hw.2.2.1, hw.2.2.2.1, fun x hx => ?_⟩
      rcases Codec.kinds_cases hk with ⟨n, rfl⟩ | ⟨b, rfl⟩ | ⟨l, rfl, hl⟩
      · simp [V.l] at hx
      · simp [V.l] at hx
      · exact ih e x (hl x hx) (hw.2.2.2.2 x hx)
/-- A value that is not great has a size. -/
theorem fits_of {D : Nat} {w : World} {S : Nat → Prop} {x : VM} (hx : VL D w S x) (h : Codec.tot 20 x.v ≤ 2000 ∧ Codec.wok 21 x.v) : Fits x.v := by
  intro hk
  have := Codec.enc_tot 6 21 20 x.v hk (wf_kinds 6 D _ hk hx.wf) h.2 (by omega) (by omega)
  omega
/-- What wide returns. -/
def RetWd (d : Nat) (w : World) (v : V) (e : Ending) (w' : World) : Prop := ∃ r, e = .returned (.bool r) ∧ Hid (r = false → Codec.wok d v) ∧ Ab w w'
/-- What Great returns. -/
def RetGr (w : World) (v : V) (e : Ending) (w' : World) : Prop := ∃ r, e = .returned (.bool r) ∧ Hid (r = false → Codec.tot 20 v ≤ 2000 ∧ Codec.wok 21 v) ∧ Ab w w'
end Go.Proofs.YthfffbpcmlgoiaaGreatDoor

/- The statements' own functions, walked: values made, examples, fit. Own work. -/
namespace Go.Proofs.YthfffbpcmlgoiaaGreatDoor
open Go.RowKit
open Codec (V)

/-- A guarded load of a whole variable that comes. -/
theorem list_ldG7 {ops : Array Oper} {rest : List Oper} {o : Oper} {a : Act} {w : World} {b : Nat} {vs : List Value} {Q : Exit → Act → World → Prop} (T : TypeId) {n : Nat} {d : TypeDesc} (hT : (Tryz.prog.info? T).map (·.size) = some n) (hu : Tryz.prog.underlying T = some d) (hd : d.isRow = true) (hw : Region.wanted o (yielded ops a.tmps) = true) (x : Operand) (ho : o.op = .load T x) (hx : a.eval x = .pointer (some ⟨b, 0, none⟩)) (hv : VB w b vs) (hl : vs.length = n)
    (h : wpList Tryz.prog ops Q rest (a.put o.dst (.agg vs.toArray)) w) : wpList Tryz.prog ops Q (o :: rest) a w :=
  wpList_step fun K hK => by
    rw [if_pos hw]
    exact wp_load_mid _ x ho b 0 hx vs _ hv.range hu hd (by rw [hT, hl]) (hK _ _ h)
set_option maxRecDepth 100000 in
theorem number_any (n : Int) (w : World) : Calls Tryz.prog 82 #[.int .i64 n] w fun e w' => e = .returned (VM.val ⟨1, n, none, [], 0, none, [], 0⟩) ∧ Ab w w' := by
  go_enter Tryz.func82, Tryz.ntmps82
  have Y0 : VB (w.alloc (.cells VM.zero.cells.toArray 88)) w.heap.size VM.zero.cells := VB.box (xs := VM.zero.cells.toArray) (T := 88) (by (repeat (first | exact new_plain wnA | with_reducible refine old_alloc ?_ | with_reducible refine old_drew ?_ | with_reducible refine old_set ?_ wnA | with_reducible refine old_ab (by assumption) ?_)))
  go_wp2_with (refine list_stV (o := ⟨none, _, _, _, _, _⟩) (us := [.int .u8 1, .int .i64 n, .slice none 0 0, .slice none 0 0]) _ infoV rfl _ _ rfl rfl rfl Y0 rfl rfl rfl ?_; intro w9 h9)
  refine bodyPost_ret (res_V1 _ infoV Tryz.underlying88 rfl Tryz.results82 _ rfl h9.v rfl) rfl ?_
  exact ⟨rfl, h9.ab w abA (Nat.le_refl _)⟩
set_option maxRecDepth 100000 in
theorem list_any (L : Option Addr) (n c : Nat) (w : World) : Calls Tryz.prog 84 #[.slice L n c] w fun e w' => e = .returned (.agg #[.int .u8 3, .int .i64 0, .slice none 0 0, .slice L n c]) ∧ Ab w w' := by
  go_enter Tryz.func84, Tryz.ntmps84
  have Y0 : VB (w.alloc (.cells VM.zero.cells.toArray 88)) w.heap.size VM.zero.cells := VB.box (xs := VM.zero.cells.toArray) (T := 88) (by (repeat (first | exact new_plain wnA | with_reducible refine old_alloc ?_ | with_reducible refine old_drew ?_ | with_reducible refine old_set ?_ wnA | with_reducible refine old_ab (by assumption) ?_)))
  go_wp2_with (refine list_stV (o := ⟨none, _, _, _, _, _⟩) (us := [.int .u8 3, .int .i64 0, .slice none 0 0, .slice L n c]) _ infoV rfl _ _ rfl rfl rfl Y0 rfl rfl rfl ?_; intro w9 h9)
  refine bodyPost_ret (res_V1 _ infoV Tryz.underlying88 rfl Tryz.results84 _ rfl h9.v rfl) rfl ?_
  exact ⟨rfl, h9.ab w abA (Nat.le_refl _)⟩
set_option maxRecDepth 100000 in
theorem text_any (A : Option Addr) (l : List UInt8) (c : Nat) (w : World) (hb : RB w 0 A l) (hc : l.length ≤ c) (ll : l.length ≤ 1000000) :
    Calls Tryz.prog 83 #[.slice A l.length c] w fun e w' => ∃ (A' : Option Addr) (c' : Nat), e = .returned (VM.val ⟨2, 0, A', l, c', none, [], 0⟩) ∧ VL 1 w' (fun _ => True) ⟨2, 0, A', l, c', none, [], 0⟩ ∧ Ab w w' := by
  go_enter Tryz.func83, Tryz.ntmps83
  have Y0 : VB (w.alloc (.cells VM.zero.cells.toArray 88)) w.heap.size VM.zero.cells := VB.box (xs := VM.zero.cells.toArray) (T := 88) (by (repeat (first | exact new_plain wnA | with_reducible refine old_alloc ?_ | with_reducible refine old_drew ?_ | with_reducible refine old_set ?_ wnA | with_reducible refine old_ab (by assumption) ?_)))
  have Y1 := Y0.ab (show Ab _ ((w.alloc (.cells VM.zero.cells.toArray 88)).alloc (.cells #[] 5)) from abA)
  go_wp2_with (first
    | ((at_builtin
        refine listLit rfl _ _ rfl rfl rfl (m := l) rfl (by (repeat (first | exact new_plain wnA | with_reducible refine old_alloc ?_ | with_reducible refine old_drew ?_ | with_reducible refine old_set ?_ wnA | with_reducible refine old_ab (by assumption) ?_))) (RB.ab hb (show Ab w _ from abA)) hc (by omega) ?_
        intro A1 d1 w1 L1 e1 b1 o1
        have oA := o1 (w.heap.size + 1) (by simp) (by simp)
        have ab1 : Ab w w1 := Ab.trans (by exact abA) b1
        have YA := Y1.ab b1
        clear o1))
    | (refine list_stV (o := ⟨none, _, _, _, _, _⟩) (us := [.int .u8 2, .int .i64 0, .slice A1 L1.length d1, .slice none 0 0]) _ infoV rfl _ _ rfl rfl rfl YA rfl rfl rfl ?_; intro w9 h9))
  refine bodyPost_ret (res_V1 _ infoV Tryz.underlying88 rfl Tryz.results83 _ rfl h9.v rfl) rfl ?_
  have hl1 : L1 = l := e1.out
  subst hl1
  refine ⟨A1, d1, rfl, ⟨⟨by simp, by simp, by simp, oA.le, by show L1.length ≤ _; omega, by simp, by simp⟩, ?_, fun h => absurd h (by simp)⟩, h9.ab w ab1 (Nat.le_refl _)⟩
  exact RS.mono' (fun _ _ => trivial) ((oA.rb.rs (S := fun g => w.heap.size + 1 ≤ g) (fun g h => h)).keep (w' := w9) fun g hg hl => h9.blk g (by omega))
end Go.Proofs.YthfffbpcmlgoiaaGreatDoor
