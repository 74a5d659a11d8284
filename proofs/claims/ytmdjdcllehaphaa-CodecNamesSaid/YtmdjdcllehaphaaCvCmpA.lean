/- Comparisons of numbers and of bytes, walked. Own work. -/
import Derived.Test.YtmdjdcllehaphaaCvMem
import Derived.Test.YtmdjdcllehaphaaCodecO
import Derived.Lib.Bytealg
import Derived.Laws.Externs
set_option linter.unusedVariables false
set_option linter.unusedSimpArgs false
namespace Go.Proofs.Ytmdjdcllehaphaa
open Go.RowKit
open Codec (V)

theorem run_loadBytes {P : Program} (w : World) : ∀ (l : List UInt8) (a : Addr) (acc : ByteArray), (∀ i (h : i < l.length), w.cell? (a.add i) = some (cb l[i])) → (Extern.Bytes.loadBytes a l.length acc).run P w = .ok ⟨acc.data ++ l.toArray⟩ w := by
  intro l
  induction l with
  | nil => intro a acc _; simp [Extern.Bytes.loadBytes]
  | cons x t ih =>
    intro a acc h
    have h0 : w.cell? a = some (cb x) := h 0 (by simp)
    have h1 : ∀ i (hi : i < t.length), w.cell? ((a.add 1).add i) = some (cb t[i]) := fun i hi => by
      have := h (i + 1) (by rw [List.length_cons]; omega)
      rw [addr_add_add, Nat.add_comm 1 i]
      simpa using this
    have := ih (a.add 1) (acc.push x) h1
    show (load a .plain >>= fun v => match v with
      | .int .u8 b => Extern.Bytes.loadBytes (a.add 1) t.length (acc.push b.toNat.toUInt8)
      | _ => stuck "loadBytes: a byte expected").run P w = _
    rw [Sem.run_bind, run_load, h0]
    show (Extern.Bytes.loadBytes (a.add 1) t.length (acc.push ((x.toNat : Int).toNat.toUInt8))).run P w = _
    rw [show ((x.toNat : Int).toNat.toUInt8) = x by simp, this]
    simp [ByteArray.push]
theorem run_bytesOf {P : Program} (w : World) {A : Option Addr} {l : List UInt8} (c : Nat) (h : RB w 0 A l) : (Extern.Bytes.bytesOf (.slice A l.length c)).run P w = .ok ⟨l.toArray⟩ w := by
  cases A with
  | none =>
    have : l = [] := by
      cases l with
      | nil => rfl
      | cons x t => obtain ⟨ad, h1, _⟩ := h (by simp); cases h1
    subst this
    rfl
  | some a =>
    have := run_loadBytes (P := P) w l a .empty (fun i hi => by obtain ⟨ad, h1, _, h3⟩ := h (by omega); cases h1; exact h3 i hi)
    show (Extern.Bytes.loadBytes a l.length .empty).run P w = _
    rw [this]
    simp [ByteArray.empty, ByteArray.emptyWithCapacity]
    rfl
theorem run_compareSlices {P : Program} (w : World) {A B : Option Addr} {a b : List UInt8} (c d : Nat) (ha : RB w 0 A a) (hb : RB w 0 B b) :
    (Extern.BytealgCompare.compare #[.slice A a.length c, .slice B b.length d]).run P w = .ok (.int .i64 (Lib.compareBytes a b)) w := by
  change Sem.run P (do pure (goInt (Extern.BytealgCompare.cmp (← Extern.Bytes.bytesOf (.slice A a.length c)) (← Extern.Bytes.bytesOf (.slice B b.length d))))) w = _
  simp only [Sem.run_bind, Sem.run_pure, run_bytesOf w c ha, run_bytesOf w d hb, Result.andThen]
  rw [Lib.cmp_eq]
  rfl
theorem compareBytes_lex : ∀ a b : List UInt8, Lib.compareBytes a b = Codec.lex Codec.threeB a b
  | [], [] => rfl
  | [], _ :: _ => rfl
  | _ :: _, [] => rfl
  | x :: a, y :: b => by
    rw [Lib.compareBytes, Codec.lex, compareBytes_lex a b]
    have e1 : (x < y) = (((x.toNat : Nat) : Int) < ((y.toNat : Nat) : Int)) := by rw [UInt8.lt_iff_toNat_lt]; exact propext (by omega)
    have e2 : (y < x) = (((y.toNat : Nat) : Int) < ((x.toNat : Nat) : Int)) := by rw [UInt8.lt_iff_toNat_lt]; exact propext (by omega)
    unfold Codec.threeB Codec.three
    simp only [e1, e2]
    by_cases h1 : ((x.toNat : Nat) : Int) < ((y.toNat : Nat) : Int)
    · simp [h1]
    · by_cases h2 : ((y.toNat : Nat) : Int) < ((x.toNat : Nat) : Int)
      · simp [h1, h2]
      · simp [h1, h2]
theorem isNaN8 (a : Int) (w : World) : Calls Try.prog 41 #[.int .u8 a] w fun e w' => e = .returned (.bool false) ∧ w' = w := by
  have h : (a != a) = false := by simp
  go_enter Try.func41, Try.ntmps41
  go_wp2
  go_ret
  exact ⟨by (first | rfl | rw [h]), rfl⟩
theorem cmp8 (a b : Int) (w : World) : Calls Try.prog 34 #[.int .u8 a, .int .u8 b] w fun e w' => e = .returned (.int .i64 (Codec.three a b)) ∧ w' = w := by
  have HT : Hid (Codec.three a b = if a < b then -1 else if b < a then 1 else 0) := Lib.hid rfl
  have HN := fun (x : Int) => Lib.hid (isNaN8 x w)
  by_cases h1 : a < b
  · have HR : Hid (Codec.three a b = -1) := by unfold Hid; rw [HT.out, if_pos h1]
    go_enter Try.func34, Try.ntmps34
    go_wp2_with (go_at_call 41
                 refine (HN _).out.mono ?_
                 rintro e w' ⟨rfl, rfl⟩)
    go_ret
    exact ⟨by rw [HR.out]; (try rfl), rfl⟩
  · by_cases h2 : b < a
    · have HR : Hid (Codec.three a b = 1) := by unfold Hid; rw [HT.out, if_neg h1, if_pos h2]
      go_enter Try.func34, Try.ntmps34
      go_wp2_with (go_at_call 41
                   refine (HN _).out.mono ?_
                   rintro e w' ⟨rfl, rfl⟩)
      go_ret
      exact ⟨by rw [HR.out]; (try rfl), rfl⟩
    · have HR : Hid (Codec.three a b = 0) := by unfold Hid; rw [HT.out, if_neg h1, if_neg h2]
      go_enter Try.func34, Try.ntmps34
      go_wp2_with (go_at_call 41
                   refine (HN _).out.mono ?_
                   rintro e w' ⟨rfl, rfl⟩)
      go_ret
      exact ⟨by rw [HR.out]; (try rfl), rfl⟩
theorem isNaN64 (a : Int) (w : World) : Calls Try.prog 42 #[.int .i64 a] w fun e w' => e = .returned (.bool false) ∧ w' = w := by
  have h : (a != a) = false := by simp
  go_enter Try.func42, Try.ntmps42
  go_wp2
  go_ret
  exact ⟨by (first | rfl | rw [h]), rfl⟩
theorem cmp64 (a b : Int) (w : World) : Calls Try.prog 35 #[.int .i64 a, .int .i64 b] w fun e w' => e = .returned (.int .i64 (Codec.three a b)) ∧ w' = w := by
  have HT : Hid (Codec.three a b = if a < b then -1 else if b < a then 1 else 0) := Lib.hid rfl
  have HN := fun (x : Int) => Lib.hid (isNaN64 x w)
  by_cases h1 : a < b
  · have HR : Hid (Codec.three a b = -1) := by unfold Hid; rw [HT.out, if_pos h1]
    go_enter Try.func35, Try.ntmps35
    go_wp2_with (go_at_call 42
                 refine (HN _).out.mono ?_
                 rintro e w' ⟨rfl, rfl⟩)
    go_ret
    exact ⟨by rw [HR.out]; (try rfl), rfl⟩
  · by_cases h2 : b < a
    · have HR : Hid (Codec.three a b = 1) := by unfold Hid; rw [HT.out, if_neg h1, if_pos h2]
      go_enter Try.func35, Try.ntmps35
      go_wp2_with (go_at_call 42
                   refine (HN _).out.mono ?_
                   rintro e w' ⟨rfl, rfl⟩)
      go_ret
      exact ⟨by rw [HR.out]; (try rfl), rfl⟩
    · have HR : Hid (Codec.three a b = 0) := by unfold Hid; rw [HT.out, if_neg h1, if_neg h2]
      go_enter Try.func35, Try.ntmps35
      go_wp2_with (go_at_call 42
                   refine (HN _).out.mono ?_
                   rintro e w' ⟨rfl, rfl⟩)
      go_ret
      exact ⟨by rw [HR.out]; (try rfl), rfl⟩
theorem bcmp_any (A B : Option Addr) (a b : List UInt8) (c d : Nat) (w : World) (ha : RB w 0 A a) (hb : RB w 0 B b) :
    Calls Try.prog 36 #[.slice A a.length c, .slice B b.length d] w fun e w' => e = .returned (.int .i64 (Codec.lex Codec.threeB a b)) ∧ w' = w := by
  have HX := Lib.hid (run_compareSlices (P := Try.prog) w c d ha hb)
  go_enter Try.func36, Try.ntmps36
  go_wp2
  rw [run_callFunc_extern Try.func43 (by kernel_rfl) (by kernel_rfl) (by kernel_rfl) (e := Extern.BytealgCompare.compare) (by kernel_rfl), HX.out]
  simp only [Result.andThen]
  rw [Oper.upon_value]
  go_wp2
  go_ret
  exact ⟨by rw [compareBytes_lex]; (try rfl), rfl⟩
/-- The first that is not zero. -/
def orL : List Int → Int
  | [] => 0
  | a :: l => if a ≠ 0 then a else orL l
theorem orL_zero : ∀ (l : List Int), (∀ i (h : i < l.length), l[i] = 0) → orL l = 0
  | [], _ => rfl
  | a :: l, h => by
    rw [orL, if_neg (by have := h 0 (by simp); simpa using this)]
    exact orL_zero l fun i hi => by have := h (i + 1) (by rw [List.length_cons]; omega); simpa using this
theorem orL_at : ∀ (l : List Int) (k : Nat) (hk : k < l.length), (∀ i (h : i < l.length), i < k → l[i] = 0) → l[k] ≠ 0 → orL l = l[k]
  | a :: l, 0, _, _, h0 => by rw [orL, if_pos (by simpa using h0)]; rfl
  | a :: l, k + 1, hk, h, h0 => by
    rw [orL, if_neg (by have := h 0 (by simp) (by omega); simpa using this)]
    have := orL_at l k (by rw [List.length_cons] at hk; omega) (fun i hi hik => by have := h (i + 1) (by rw [List.length_cons]; omega) (by omega); simpa using this) (by simpa using h0)
    rw [this]; rfl
theorem cmpOr_any (a : Addr) (zs : List Int) (c : Nat) (w : World) (hl : zs.length ≤ 1000) (hz : ∀ k (h : k < zs.length), w.cell? (a.add k) = some (.int .i64 zs[k])) :
    Calls Try.prog 33 #[.slice (some a) zs.length c] w fun e w' => e = .returned (.int .i64 (orL zs)) ∧ Ab w w' := by
  have HZ := Lib.hid hz
  clear hz
  go_enter Try.func33, Try.ntmps33
  go_wp2
  go_loopw [8] (fun i w' => ∃ k : Nat, k ≤ zs.length ∧ i = .int .i64 (k : Int) ∧ Ab w w' ∧ Hid (∀ i (h : i < zs.length), i < k → zs[i] = 0)) (fun i _ => zs.length - (intOf i).toNat)
  case atStart => exact ⟨0, Nat.zero_le _, rfl, Ab.refl _, fun i _ h => absurd h (by omega)⟩
  case round =>
    obtain ⟨k, hk, rfl, hb, hq⟩ := hrel
    rename World => w1
    by_cases hlt : k < zs.length
    · have hki : (k : Int) < (zs.length : Int) := by omega
      have y := hb.at (HZ.out k hlt)
      obtain ⟨z, hzk⟩ : ∃ z, z = zs[k] := ⟨_, rfl⟩
      have HK := Lib.hid hzk
      rw [← hzk] at y
      clear hzk
      by_cases h0 : z = 0
      · have h0' : (z != 0) = false := by rw [bne_eq_false_iff_eq]; exact h0
        have H0 := Lib.hid h0
        clear h0
        go_wp2
        go_roundw
        case rel =>
          refine ⟨k + 1, by omega, by go_num, hb, fun i h hi => ?_⟩
          by_cases hik : i = k
          · subst hik; rw [← HK.out]; exact H0.out
          · exact hq.out i h (by omega)
        case measure => simp [intOf]; omega
      · have h0' : (z != 0) = true := by rw [bne_iff_ne]; exact h0
        have HR : Hid (orL zs = z) := by
          unfold Hid
          rw [orL_at zs k hlt hq.out (by rw [← HK.out]; exact h0), HK.out]
        clear h0
        go_wp2
        go_ret
        exact ⟨by rw [HR.out]; (try rfl), hb⟩
    · have HR : Hid (orL zs = 0) := by
        unfold Hid
        exact orL_zero zs fun i hi => hq.out i hi (by omega)
      have hki : ¬ (k : Int) < (zs.length : Int) := by omega
      go_wp2
      go_ret
      exact ⟨by rw [HR.out]; (try rfl), hb⟩
end Go.Proofs.Ytmdjdcllehaphaa
