/- The texts CvInt, CvFunG, CvFunH, one behind the other. Own work. -/
import Derived.Test.YthfffbpcmlgoiaaGreatDoorCKA
import Derived.Laws.Shifts
import Derived.Test.YthfffbpcmlgoiaaGreatDoorCKH
import Derived.Deep.DeepCutAuto
import Derived.Test.YthfffbpcmlgoiaaGreatDoorCCvFunF
set_option linter.unusedVariables false
set_option linter.unusedSimpArgs false
/- Shifts and bits of uint64, as the codec makes them. Own work. -/
namespace Go.Proofs.YthfffbpcmlgoiaaGreatDoor
open Go.RowKit

theorem pow7 (s : Nat) : 128 ^ s = 2 ^ (7 * s) := by rw [Nat.pow_mul]
theorem wrap64u (n : Nat) : IntKind.u64.wrap (n : Int) = ((n % 18446744073709551616 : Nat) : Int) := by
  simp [IntKind.wrap, IntKind.bits, IntKind.signed]
theorem big_mod (p k : Nat) (h : 64 ≤ k) : p * 2 ^ k % 18446744073709551616 = 0 := by
  obtain ⟨j, rfl⟩ : ∃ j, k = 64 + j := ⟨k - 64, by omega⟩
  rw [Nat.pow_add, show (2 : Nat) ^ 64 = 18446744073709551616 by decide, Nat.mul_comm 18446744073709551616, ← Nat.mul_assoc]
  exact Nat.mul_mod_left _ _
theorem shl7 (p s : Nat) (v : Int) (hv : v = 7 * (s : Int)) : Op.shift .shl .u64 (p : Int) .i64 v = pure (.int .u64 ((p * 128 ^ s % 18446744073709551616 : Nat) : Int)) := by
  subst hv
  rw [shift_shl_any _ _ _ _ (by omega), show (7 * (s : Int)).toNat = 7 * s by omega, pow7]
  have e : (p : Int) * 2 ^ min (7 * s) IntKind.u64.bits = ((p * 2 ^ min (7 * s) 64 : Nat) : Int) := by
    rw [Int.natCast_mul, Int.natCast_pow]; rfl
  rw [e, wrap64u]
  by_cases h : 7 * s ≤ 64
  · rw [Nat.min_eq_left h]
  · rw [Nat.min_eq_right (by omega), big_mod _ _ (by omega), big_mod _ _ (by omega)]
theorem shr7 (P s : Nat) (v : Int) (hv : v = 7 * (s : Int)) : Op.shift .shr .u64 (P : Int) .i64 v = pure (.int .u64 ((P / 2 ^ min (7 * s) 64 : Nat) : Int)) := by
  subst hv
  rw [shift_shr_any _ _ _ _ (by omega), show (7 * (s : Int)).toNat = 7 * s by omega]
  have e : (P : Int) / 2 ^ min (7 * s) IntKind.u64.bits = ((P / 2 ^ min (7 * s) 64 : Nat) : Int) := by
    rw [Int.natCast_ediv, Int.natCast_pow]; rfl
  rw [e]
theorem back7 (p s : Nat) (hp : p < 128) : (p * 128 ^ s % 18446744073709551616) / 2 ^ min (7 * s) 64 = p ↔ p * 128 ^ s < 18446744073709551616 := by
  rw [pow7]
  by_cases h : p * 2 ^ (7 * s) < 18446744073709551616
  · rw [Nat.mod_eq_of_lt h]
    refine ⟨fun _ => h, fun _ => ?_⟩
    by_cases h7 : 7 * s ≤ 64
    · rw [Nat.min_eq_left h7, Nat.mul_div_cancel _ (Nat.two_pow_pos _)]
    · have hz : p = 0 := by
        refine Decidable.byContradiction fun hp0 => ?_
        have h1 : 2 ^ 64 ≤ 2 ^ (7 * s) := Nat.pow_le_pow_right (by decide) (by omega)
        have h2 : 1 * 2 ^ (7 * s) ≤ p * 2 ^ (7 * s) := Nat.mul_le_mul_right _ (by omega)
        have h3 : (2 : Nat) ^ 64 = 18446744073709551616 := by decide
        omega
      subst hz
      simp
  · refine ⟨fun e => ?_, fun e => absurd e h⟩
    exfalso
    by_cases h7 : 64 ≤ 7 * s
    · rw [big_mod _ _ h7, Nat.zero_div] at e
      subst e
      simp at h
    · rw [Nat.min_eq_left (by omega)] at e
      have h1 : p * 2 ^ (7 * s) % 18446744073709551616 < 18446744073709551616 := Nat.mod_lt _ (by decide)
      generalize hm : p * 2 ^ (7 * s) % 18446744073709551616 = m at *
      have h2 := Nat.div_mul_le_self m (2 ^ (7 * s))
      rw [e] at h2
      omega
theorem or64 (n P i : Nat) (h : n < 2 ^ i) (q : Nat) (hP : P = q * 2 ^ i) (hb : P < 18446744073709551616) (hn : n < 18446744073709551616) : bits .or .u64 (n : Int) (P : Int) = ((n + P : Nat) : Int) := by
  show IntKind.u64.wrap ((BitVec.ofInt 64 (n : Int) ||| BitVec.ofInt 64 (P : Int)).toNat : Int) = _
  have e : n ||| P = n + P := by
    subst hP
    have := Nat.shiftLeft_add_eq_or_of_lt h q
    rw [Nat.shiftLeft_eq] at this
    rw [Nat.or_comm, ← this, Nat.add_comm]
  have h1 : n ||| P < 2 ^ 64 := Nat.or_lt_two_pow (by omega) (by omega)
  rw [wrap64u, BitVec.toNat_or, BitVec.toNat_ofInt, BitVec.toNat_ofInt]
  have en : ((n : Int) % ((2 ^ 64 : Nat) : Int)).toNat = n := by omega
  have eP : ((P : Int) % ((2 ^ 64 : Nat) : Int)).toNat = P := by omega
  rw [en, eP, e, Nat.mod_eq_of_lt (by rw [← e]; exact h1)]
theorem wrapu (v : Int) (h0 : 0 ≤ v) (h1 : v < 18446744073709551616) : IntKind.u64.wrap v = v := by
  simp [IntKind.wrap, IntKind.bits, IntKind.signed]; omega
theorem and1 (n : Nat) (h : n < 18446744073709551616) : bits .and .u64 (n : Int) 1 = ((n % 2 : Nat) : Int) := by
  show IntKind.u64.wrap ((BitVec.ofInt 64 (n : Int) &&& BitVec.ofInt 64 1).toNat : Int) = _
  rw [wrap64u, BitVec.toNat_and, BitVec.toNat_ofInt, BitVec.toNat_ofInt]
  have en : ((n : Int) % ((2 ^ 64 : Nat) : Int)).toNat = n := by omega
  have e1 : ((1 : Int) % ((2 ^ 64 : Nat) : Int)).toNat = 1 := by decide
  rw [en, e1, Nat.and_one_is_mod]
  congr 1
  omega
theorem xor_m1 (m : Nat) (h : m < 9223372036854775808) : bits .xor .i64 (m : Int) (-1) = -(m : Int) - 1 := by
  show IntKind.i64.wrap ((BitVec.ofInt 64 (m : Int) ^^^ BitVec.ofInt 64 (-1)).toNat : Int) = _
  have e1 : BitVec.ofInt 64 (-1) = BitVec.allOnes 64 := by decide
  rw [e1, BitVec.xor_allOnes, BitVec.toNat_not, BitVec.toNat_ofInt]
  have en : ((m : Int) % ((2 ^ 64 : Nat) : Int)).toNat = m := by omega
  rw [en]
  simp [IntKind.wrap, IntKind.bits, IntKind.signed]
  omega
theorem xor_00 (m : Nat) (h : m < 9223372036854775808) : bits .xor .i64 (m : Int) 0 = (m : Int) := by
  show IntKind.i64.wrap ((BitVec.ofInt 64 (m : Int) ^^^ BitVec.ofInt 64 0).toNat : Int) = _
  have e1 : BitVec.ofInt 64 0 = 0#64 := by decide
  rw [e1, BitVec.xor_zero, BitVec.toNat_ofInt]
  have en : ((m : Int) % ((2 ^ 64 : Nat) : Int)).toNat = m := by omega
  rw [en]
  simp [IntKind.wrap, IntKind.bits, IntKind.signed]
  omega
end Go.Proofs.YthfffbpcmlgoiaaGreatDoor

/- Codes of whole numbers: their sizes, folds, walked. Own work. -/
namespace Go.Proofs.YthfffbpcmlgoiaaGreatDoor
open Go.RowKit
open Codec (V)

theorem code_le : ∀ (k n : Nat), n < 128 ^ (k + 1) → (Codec.code n).length ≤ k + 1 := by
  intro k
  induction k with
  | zero => intro n h; rw [Codec.code_small (by simpa using h)]; simp
  | succ k ih =>
    intro n h
    by_cases hn : n < 128
    · rw [Codec.code_small hn]; simp
    · rw [Codec.code_big hn, List.length_cons]
      have := ih (n / 128) (by rw [Nat.div_lt_iff_lt_mul (by decide)]; rw [Nat.pow_succ] at h; exact h)
      omega
theorem code_10 {n : Nat} (h : n < 18446744073709551616) : (Codec.code n).length ≤ 10 := code_le 9 n (Nat.lt_of_lt_of_le h (by decide))
def natOf (v : Value) : Nat := (intOf v).toNat
set_option maxRecDepth 100000 in
theorem codeSize_any (n : Nat) (w : World) (hn : n < 18446744073709551616) :
    Calls Tryz.prog 136 #[.int .u64 (n : Int)] w fun e w' => e = .returned (.int .i64 ((Codec.code n).length : Int)) ∧ w = w' := by
  have h10 := Lib.hid (code_10 hn)
  clear hn
  go_enter Tryz.func136, Tryz.ntmps136
  go_wp2
  go_loop [0, 3] (fun n0 s => ∃ (k j : Nat), n0 = .int .u64 (k : Int) ∧ s = .int .i64 (j : Int) ∧ Hid (j + (Codec.code k).length = (Codec.code n).length + 1)) (fun n0 _ => (intOf n0).toNat)
  case atStart => exact ⟨n, 1, rfl, rfl, Lib.hid (by omega)⟩
  case round =>
    obtain ⟨k, j, rfl, rfl, hj⟩ := hrel
    by_cases hlt : k < 128
    · have hk : ¬ (128 : Int) ≤ (k : Int) := by omega
      have HR : Hid (j = (Codec.code n).length) := by have := hj.out; unfold Hid; rw [Codec.code_small hlt] at this; simp at this; omega
      clear hlt
      go_wp2
      go_ret
      exact ⟨ret_int (by rw [HR.out]), rfl⟩
    · have hk : (128 : Int) ≤ (k : Int) := by omega
      have HR : Hid ((j + 1) + (Codec.code (k / 128)).length = (Codec.code n).length + 1) := by have := hj.out; unfold Hid; rw [Codec.code_big hlt, List.length_cons] at this; omega
      have hjb : (j : Int) ≤ 11 := by have := hj.out; have := h10.out; omega
      go_wp2
      go_round
      case rel => exact ⟨k / 128, j + 1, congrArg (Value.int .u64) (by omega), by go_num, HR⟩
      case measure => simp [intOf]; omega
theorem fold_form (n : Int) (h1 : -9223372036854775808 ≤ n) (h2 : n ≤ 9223372036854775807) : IntKind.u64.wrap (bits .xor .i64 (wrap64 (n * 2)) (n / 9223372036854775808)) = (Codec.fold n : Int) := by
  unfold Codec.fold
  by_cases h : 0 ≤ n
  · rw [if_pos h, Int.ediv_eq_zero_of_lt h (by omega)]
    obtain ⟨a, rfl⟩ : ∃ a : Nat, n = (a : Int) := ⟨n.toNat, by omega⟩
    have e : bits .xor .i64 (wrap64 ((a : Int) * 2)) 0 = wrap64 ((a : Int) * 2) := by
      show IntKind.i64.wrap ((BitVec.ofInt 64 (wrap64 ((a : Int) * 2)) ^^^ BitVec.ofInt 64 0).toNat : Int) = _
      have e1 : BitVec.ofInt 64 0 = 0#64 := by decide
      rw [e1, BitVec.xor_zero, BitVec.toNat_ofInt]
      simp [IntKind.wrap, IntKind.bits, IntKind.signed, wrap64]
      omega
    rw [e]
    simp [IntKind.wrap, IntKind.bits, IntKind.signed, wrap64]
    omega
  · rw [if_neg h]
    have e0 : n / 9223372036854775808 = -1 := by omega
    rw [e0]
    have e : bits .xor .i64 (wrap64 (n * 2)) (-1) = -(wrap64 (n * 2)) - 1 := by
      show IntKind.i64.wrap ((BitVec.ofInt 64 (wrap64 (n * 2)) ^^^ BitVec.ofInt 64 (-1)).toNat : Int) = _
      have e1 : BitVec.ofInt 64 (-1) = BitVec.allOnes 64 := by decide
      rw [e1, BitVec.xor_allOnes, BitVec.toNat_not, BitVec.toNat_ofInt]
      simp [IntKind.wrap, IntKind.bits, IntKind.signed, wrap64]
      omega
    rw [e]
    simp [IntKind.wrap, IntKind.bits, IntKind.signed, wrap64]
    omega
theorem fold_any (n : Int) (w : World) (h1 : -9223372036854775808 ≤ n) (h2 : n ≤ 9223372036854775807) :
    Calls Tryz.prog 100 #[.int .i64 n] w fun e w' => e = .returned (.int .u64 (Codec.fold n : Int)) ∧ w = w' := by
  have HF := Lib.hid (fold_form n h1 h2)
  clear h1 h2
  go_enter Tryz.func100, Tryz.ntmps100
  go_wp2
  go_ret
  refine ⟨ret_int ?_, rfl⟩
  rw [← HF.out]
end Go.Proofs.YthfffbpcmlgoiaaGreatDoor

/- Codes and sizes of values, walked. Own work. -/
namespace Go.Proofs.YthfffbpcmlgoiaaGreatDoor
open Go.RowKit
open Codec (V)

set_option maxRecDepth 100000 in
theorem appendCode_any (lo : Nat) (A : Option Addr) (l : List UInt8) (c n : Nat) (w : World) (ho : OR 5 lo w A c l) (hlo : lo ≤ w.heap.size) (hn : n < 18446744073709551616) (ll : l.length ≤ 1000000000) :
    Calls Tryz.prog 99 #[.slice A l.length c, .int .u64 (n : Int)] w fun e w' => ∃ A' c' L, e = .returned (.slice A' L.length c') ∧ Hid (L = l ++ Codec.code n) ∧ Apd lo w A w' A' c' L := by
  have h10 := Lib.hid (code_10 hn)
  clear hn
  go_enter Tryz.func99, Tryz.ntmps99
  go_wp2
  go_loopw [0, 1] (fun s0 s1 w' => ∃ (A' : Option Addr) (c' k : Nat) (L : List UInt8), s0 = .slice A' L.length c' ∧ s1 = .int .u64 (k : Int) ∧ Apd lo w A w' A' c' L ∧ Hid (L ++ Codec.code k = l ++ Codec.code n)) (fun _ s1 _ => (intOf s1).toNat)
  case atStart => exact ⟨A, c, n, l, rfl, rfl, ⟨ho, World.grownBy.refl w _, Nxt.refl _ _⟩, Lib.hid rfl⟩
  case round =>
    obtain ⟨B, d, k, L, rfl, rfl, hp, hL⟩ := hrel
    rename World => w1
    have hs1 := hp.g.size
    have hLl : L.length ≤ 1000000010 := by
      have := congrArg List.length hL.out
      rw [List.length_append, List.length_append] at this
      have := h10.out
      omega
    by_cases hlt : k < 128
    · have hk : ¬ (128 : Int) ≤ (k : Int) := by omega
      obtain ⟨x, hx⟩ : ∃ x, x = UInt8.ofNat k := ⟨_, rfl⟩
      have hv : (k : Int) = (x.toNat : Int) := by rw [hx]; simp; omega
      have HR : Hid (L ++ [x] = l ++ Codec.code n) := by have := hL.out; rw [Codec.code_small hlt] at this; rw [hx]; exact this
      have HV := Lib.hid hv
      have hkb : (k : Int) ≤ 127 := by omega
      clear hlt hx hv
      go_wp2_with ((at_builtin
                    refine listApn rfl _ _ rfl rfl rfl (m := [x]) rfl (hp.o.alloc _) (by simp; omega) (rb_one (by (repeat (first | exact new_plain wnA | with_reducible refine old_alloc ?_ | with_reducible refine old_drew ?_ | with_reducible refine old_set ?_ wnA | with_reducible refine old_ab (by assumption) ?_))) HV.out) (Nat.le_refl _) (by simp; omega) ?_
                    intro A2 c2 w2 L2 hL2 h2))
      go_ret
      exact ⟨A2, c2, L2, rfl, Lib.hid (by rw [hL2.out]; exact HR.out), (hp.ab abA).step h2⟩
    · have hk : (128 : Int) ≤ (k : Int) := by omega
      obtain ⟨x, hx⟩ : ∃ x, x = UInt8.ofNat (k % 128 + 128) := ⟨_, rfl⟩
      have hv : (k : Int) % 128 + 128 = (x.toNat : Int) := by rw [hx]; simp; omega
      have HR : Hid ((L ++ [x]) ++ Codec.code (k / 128) = l ++ Codec.code n) := by have := hL.out; rw [Codec.code_big hlt] at this; rw [hx, List.append_assoc]; exact this
      have HV := Lib.hid hv
      clear hlt hx hv
      go_wp2_with ((at_builtin
                    refine listApn rfl _ _ rfl rfl rfl (m := [x]) rfl (hp.o.alloc _) (by simp; omega) (rb_one (by (repeat (first | exact new_plain wnA | with_reducible refine old_alloc ?_ | with_reducible refine old_drew ?_ | with_reducible refine old_set ?_ wnA | with_reducible refine old_ab (by assumption) ?_))) HV.out) (Nat.le_refl _) (by simp; omega) ?_
                    intro A2 c2 w2 L2 hL2 h2))
      go_roundw
      case rel => exact ⟨A2, c2, k / 128, L2, rfl, congrArg (Value.int .u64) (by omega), (hp.ab abA).step h2, Lib.hid (by rw [hL2.out]; exact HR.out)⟩
      case measure => simp [intOf]; omega
/-- How many bytes values have. -/
def Sz (d : Nat) : Prop := ∀ (D : Nat) (S : Nat → Prop) (x : VM) (w : World), VL D w S x → Codec.kinds d x.v = true → (Codec.enc d x.v).length ≤ 1000000000 →
    Calls Tryz.prog 122 #[x.val] w fun e w' => e = .returned (.int .i64 ((Codec.enc d x.v).length : Int)) ∧ Ab w w'
theorem Sz.out {d : Nat} (h : Sz d) {D : Nat} {S : Nat → Prop} (x : VM) (w : World) (hx : VL D w S x) (hk : Codec.kinds d x.v = true) (hl : (Codec.enc d x.v).length ≤ 1000000000) :
    Calls Tryz.prog 122 #[x.val] w fun e w' => e = .returned (.int .i64 ((Codec.enc d x.v).length : Int)) ∧ Ab w w' := h D S x w hx hk hl
/-- The bytes of the first k elements. -/
def pre (d : Nat) (l : List V) (k : Nat) : List UInt8 := ((l.take k).map (Codec.enc d)).flatten
theorem pre_succ (d : Nat) (l : List V) (k : Nat) (h : k < l.length) : pre d l (k + 1) = pre d l k ++ Codec.enc d l[k] := by
  unfold pre
  rw [List.take_succ_eq_append_getElem h, List.map_append, List.flatten_append]
  simp only [List.map_cons, List.map_nil, List.flatten_cons, List.flatten_nil, List.append_nil]
theorem pre_all (d : Nat) (l : List V) : pre d l l.length = (l.map (Codec.enc d)).flatten := by unfold pre; rw [List.take_length]
theorem pre_le (d : Nat) (l : List V) (k : Nat) : (pre d l k).length ≤ ((l.map (Codec.enc d)).flatten).length := by
  have e : (l.map (Codec.enc d)).flatten = pre d l k ++ ((l.drop k).map (Codec.enc d)).flatten := by
    unfold pre
    rw [← List.flatten_append, ← List.map_append, List.take_append_drop]
  rw [e, List.length_append]; omega
theorem enc_1 {d : Nat} {n : Int} : Codec.enc (d + 1) (.mk 1 n [] []) = 1 :: Codec.code (Codec.fold n) := rfl
theorem enc_2 {d : Nat} {b : List UInt8} : Codec.enc (d + 1) (.mk 2 0 b []) = 2 :: (Codec.code b.length ++ b) := rfl
theorem enc_3 {d : Nat} {l : List V} : Codec.enc (d + 1) (.mk 3 0 [] l) = 3 :: (Codec.code l.length ++ (l.map (Codec.enc d)).flatten) := rfl
set_option maxRecDepth 100000 in
set_option maxHeartbeats 2000000 in
theorem sizeOf_1 (d : Nat) (hS : Sz d) (D : Nat) (S : Nat → Prop) (x : VM) (w : World) (hx : VL (D + 1) w S x) (hk : Codec.kinds (d + 1) x.v = true) (hl : (Codec.enc (d + 1) x.v).length ≤ 1000000000) :
    Calls Tryz.prog 122 #[x.val] w fun e w' => e = .returned (.int .i64 ((Codec.enc (d + 1) x.v).length : Int)) ∧ Ab w w' := by
  obtain ⟨k1, n1, A1, s1, c1, L1, l1, d1⟩ := x
  have hn1 : -9223372036854775808 ≤ n1 := hx.1.2.1
  have hn2 : n1 ≤ 9223372036854775807 := hx.1.2.2.1
  have hL := hx.els
  unfold VM.val VM.cells
  rcases Codec.kinds_cases hk with ⟨n, he⟩ | ⟨b, he⟩ | ⟨l, he, hel⟩
  · obtain ⟨rfl, rfl, rfl, rfl⟩ := V.mk.inj he
    have HE : Hid ((Codec.enc (d + 1) (VM.v ⟨1, n1, A1, [], c1, L1, [], d1⟩)).length = 1 + (Codec.code (Codec.fold n1)).length) := by
      show (Codec.enc (d + 1) (.mk 1 n1 [] [])).length = _
      rw [enc_1, List.length_cons, Nat.add_comm]
    have hf := Codec.fold_lt hn1 hn2
    have hc10 := code_10 hf
    have HF := Lib.hid hf
    have HB := Lib.hid (And.intro hn1 hn2)
    clear he hk hl hL hx hf hn1 hn2
    go_enter Tryz.func122, Tryz.ntmps122
    go_wp2_with fail
    refine (fold_any n1 _ HB.out.1 HB.out.2).mono ?_
    rintro e w2 ⟨rfl, rfl⟩
    generalize Codec.fold n1 = F at *
    go_wp2_with fail
    refine (codeSize_any F _ HF.out).mono ?_
    rintro e w3 ⟨rfl, rfl⟩
    go_wp2
    go_ret
    exact ⟨ret_int (by rw [HE.out]; omega), abA⟩
  · obtain ⟨rfl, rfl, rfl, rfl⟩ := V.mk.inj he
    have HE : Hid ((Codec.enc (d + 1) (VM.v ⟨2, 0, A1, s1, c1, L1, [], d1⟩)).length = 1 + (Codec.code s1.length).length + s1.length) := by
      show (Codec.enc (d + 1) (.mk 2 0 s1 [])).length = _
      rw [enc_2, List.length_cons, List.length_append]; omega
    have hsl : s1.length ≤ 1000000000 := by rw [HE.out] at hl; omega
    have hc10 := code_10 (n := s1.length) (by omega)
    have HC : ∀ w, Calls Tryz.prog 136 #[.int .u64 (s1.length : Int)] w (fun e w' => e = .returned (.int .i64 ((Codec.code s1.length).length : Int)) ∧ w' = w) := fun w => (codeSize_any s1.length w (by omega)).mono fun _ _ ⟨h1, h2⟩ => ⟨h1, h2.symm⟩
    have j1 : IntKind.u64.wrap (s1.length : Int) = (s1.length : Int) := wrapu _ (by omega) (by omega)
    have j2 : IntKind.i64.wrap (1 + ((Codec.code s1.length).length : Int)) = 1 + ((Codec.code s1.length).length : Int) := IntWalk.i64_in _ (by omega)
    have j3 : IntKind.i64.wrap (1 + ((Codec.code s1.length).length : Int) + (s1.length : Int)) = 1 + ((Codec.code s1.length).length : Int) + (s1.length : Int) := IntWalk.i64_in _ (by omega)
    clear he hk hl hL hx hn1 hn2
    go_enter Tryz.func122, Tryz.ntmps122
    go_upto_region 5 with fail
    go_quiet ((go_at_call 136; exact Calls.quiet_of_same (HC _)))
    go_wp2
    go_ret
    exact ⟨ret_int (by rw [HE.out]; omega), abA⟩
  · obtain ⟨rfl, rfl, rfl, rfl⟩ := V.mk.inj he
    have HE : Hid ((Codec.enc (d + 1) (VM.v ⟨3, 0, A1, [], c1, L1, l1, d1⟩)).length = 1 + (Codec.code l1.length).length + (pre d l1 l1.length).length) := by
      show (Codec.enc (d + 1) (.mk 3 0 [] l1)).length = _
      rw [enc_3, List.length_cons, List.length_append, pre_all]; omega
    have hpl : (pre d l1 l1.length).length ≤ 1000000000 := by rw [HE.out] at hl; omega
    have hlf : l1.length ≤ 1000000000 := by
      have := Codec.flat_ge l1 hel
      rw [← pre_all] at this; omega
    have hpk : Hid (∀ k, k < l1.length → (pre d l1 (k + 1)).length ≤ 1000000000) := by
      intro k hk
      have := pre_le d l1 (k + 1)
      rw [← pre_all] at this; omega
    have HEL := Lib.hid hel
    have HSZ := Lib.hid hS
    have hc10 := code_10 (n := l1.length) (by omega)
    have hlu : (l1.length : Int) ≤ 1000000000 := by omega
    have HLL := Lib.hid hL
    have h10L : Hid (l1.length < 18446744073709551616) := by unfold Hid; omega
    clear he hk hl hL hx hn1 hn2 hel hS hpl
    go_enter Tryz.func122, Tryz.ntmps122
    have hab : Ab w (w.alloc (.cells #[.int .u8 3, .int .i64 0, .slice A1 0 c1, .slice L1 l1.length d1] 88)) := abA
    go_wp2_with fail
    refine (codeSize_any l1.length _ h10L.out).mono ?_
    rintro e w3 ⟨rfl, rfl⟩
    generalize (Codec.code l1.length).length = h at *
    go_wp2
    go_loopw [3, 36] (fun s3 s36 w' => ∃ k : Nat, k ≤ l1.length ∧ s36 = .int .i64 (k : Int) ∧ s3 = .int .i64 (1 + (h : Int) + ((pre d l1 k).length : Int)) ∧ Ab w w') (fun _ s36 _ => l1.length - (intOf s36).toNat)
    case atStart => exact ⟨0, by omega, rfl, congrArg (Value.int .i64) (by simp [pre]), hab⟩
    case round =>
      obtain ⟨k, hk, rfl, rfl, hb⟩ := hrel
      rename World => w1
      by_cases hlt : k < l1.length
      · obtain ⟨p, ⟨k3, n3, A3, s3, c3, L3, l3, d3⟩, rfl, yv, yl, p0, p1, p2, p3⟩ := HLL.out.at4 hlt
        have q0 := hb.at p0
        have q1 := hb.at p1
        have q2 := hb.at p2
        have q3 := hb.at p3
        have hki : (k : Int) < (l1.length : Int) := by omega
        have hps : (pre d l1 (k + 1)).length = (pre d l1 k).length + (Codec.enc d (VM.v ⟨k3, n3, A3, s3, c3, L3, l3, d3⟩)).length := by
          rw [pre_succ d l1 k hlt, List.length_append, yv]
        have hpb := hpk.out k hlt
        have HC := fun w' (hk' : Ab w1 w') => HSZ.out.out ⟨k3, n3, A3, s3, c3, L3, l3, d3⟩ w' ((yl.ab hb).ab hk') (by rw [yv]; exact HEL.out _ (List.getElem_mem hlt)) (by omega)
        have HPS := Lib.hid hps
        have e1 : (pre d l1 k).length + (Codec.enc d (VM.v ⟨k3, n3, A3, s3, c3, L3, l3, d3⟩)).length ≤ 1000000000 := by omega
        generalize (Codec.enc d (VM.v ⟨k3, n3, A3, s3, c3, L3, l3, d3⟩)).length = z at *
        generalize (pre d l1 k).length = y at *
        generalize hy1 : (pre d l1 (k + 1)).length = y1 at *
        have HY1 := Lib.hid hy1
        clear hy1
        have HCC := Lib.hid HC
        clear p0 p1 p2 p3 yv yl hps hpb HC
        dsimp only at q0 q1 q2 q3
        have hyz : (y : Int) + (z : Int) ≤ 1000000000 := by omega
        go_wp2_with fail
        have HC := HCC.out (w1.alloc (.cells #[.int .u8 (k3 : Int), .int .i64 n3, .slice A3 s3.length c3, .slice L3 l3.length d3] 88)) abA
        unfold VM.val VM.cells at HC
        with_reducible refine HC.mono ?_
        rintro e w4 ⟨rfl, hb4⟩
        clear HC
        go_wp2
        go_roundw
        case rel => exact ⟨k + 1, by omega, by go_num, congrArg (Value.int .i64) (by have := HPS.out; have := HY1.out; omega), hb.trans (Ab.trans abA hb4)⟩
        case measure => simp [intOf]; omega
      · obtain rfl : k = l1.length := by omega
        go_wp2
        go_ret
        exact ⟨ret_int (by rw [HE.out]; omega), hb⟩
theorem sizeOf_any : ∀ d, Sz d := by
  intro d
  induction d with
  | zero => intro D S x w hx hk; simp [Codec.kinds] at hk
  | succ d ih =>
    intro D S x w hx hk hl
    cases D with
    | zero => exact hx.elim
    | succ D => exact sizeOf_1 d ih D S x w hx hk hl
end Go.Proofs.YthfffbpcmlgoiaaGreatDoor
