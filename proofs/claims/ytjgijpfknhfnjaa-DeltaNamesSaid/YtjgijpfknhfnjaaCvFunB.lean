/- Bytes taken, the number of a fold, walked. Own work. -/
import Derived.Test.YtjgijpfknhfnjaaCvFunA
import Derived.Lib.LazyBuf
set_option linter.unusedVariables false
set_option linter.unusedSimpArgs false
namespace Go.Proofs.Ytjgijpfknhfnjaa
open Go.RowKit

theorem bclone_any (A : Option Addr) (l : List UInt8) (c : Nat) (w : World) (h : RB w 0 A l) (hc : l.length ≤ c) (ll : l.length ≤ 1000000) :
    Calls Try.prog 32 #[.slice A l.length c] w fun e w' => ∃ A' c' L, Hid (L = l) ∧ e = .returned (.slice A' L.length c') ∧ OR 5 w.heap.size w' A' c' L ∧ Ab w w' := by
  cases A with
  | none =>
    have hl : l = [] := List.eq_nil_of_length_eq_zero (by rcases Nat.eq_zero_or_pos l.length with h0 | h0; exact h0; obtain ⟨a, ha, _⟩ := h h0; cases ha)
    subst hl
    have hq := fun w => run_eql_slice_nil (P := Try.prog) w 22 5 none 0 c Try.underlying22
    simp at hq
    go_enter Try.func32, Try.ntmps32
    go_wp2
    go_ret
    exact ⟨none, 0, [], Lib.hid rfl, rfl, OR.none_, Ab.refl _⟩
  | some ad =>
    have hq := fun w => run_eql_slice_nil (P := Try.prog) w 22 5 (some ad) l.length c Try.underlying22
    simp at hq
    go_enter Try.func32, Try.ntmps32
    go_wp2_with ((at_builtin
                  refine listLit rfl _ _ rfl rfl rfl (m := l) rfl (by (repeat (first | exact new_plain wnA | with_reducible refine old_alloc ?_ | with_reducible refine old_drew ?_ | with_reducible refine old_set ?_ wnA | with_reducible refine old_ab (by assumption) ?_))) (RB.ab h abA) hc (by omega) ?_
                  intro A1 c1 w1 L1 e1 a1 o1
                  have p1 := o1 w.heap.size (by omega) (by simp)
                  have b1 : Ab w w1 := abA))
    go_ret
    exact ⟨A1, c1, L1, e1, rfl, p1, b1⟩
/-- s[:h] of bytes. -/
theorem cv_head (h : Nat) (kd : IntKind) (a : Option Addr) (len cap : Nat) (w : World) (h2 : h ≤ cap) :
    (Instr.slice 22 (.slice a len cap) none (some (.int kd (h : Int))) none).run Try.prog w = .ok (.slice a h cap) w := by
  have hu : Try.prog.underlying 22 = some (.slice (Try.prog.elem 22)) := by kernel_rfl
  obtain ⟨i0, hi0, _, hz1, _⟩ := info_parts infoU8
  have he : Try.prog.elem 22 = 5 := by kernel_rfl
  rw [run_slice_h w 22 a len cap hu kd (h : Int) (by omega) (by omega), he]
  simp only [sizeOf, typeInfo, sliced, Int.toNat_natCast, Sem.run_bind, Sem.run_pure]
  simp [hi0, hz1]
  intro _
  cases a <;> simp [Addr.add]
theorem unfold_form (n : Nat) (hn : n < 18446744073709551616) : bits .xor .i64 ((n : Int) / 2) (wrap64 (-wrap64 (bits .and .u64 (n : Int) 1))) = Codec.unfold_ n := by
  rw [and1 n hn]
  have e : (n : Int) / 2 = ((n / 2 : Nat) : Int) := by omega
  rw [e]
  unfold Codec.unfold_
  by_cases h : n % 2 = 0
  · rw [if_pos h, h]
    have e0 : wrap64 (-wrap64 ((0 : Nat) : Int)) = 0 := by decide +kernel
    rw [e0]
    exact xor_00 (n / 2) (by omega)
  · have h1 : n % 2 = 1 := by omega
    rw [if_neg h, h1]
    have e0 : wrap64 (-wrap64 ((1 : Nat) : Int)) = -1 := by decide +kernel
    rw [e0]
    exact xor_m1 (n / 2) (by omega)
theorem Rd.len {w : World} {R : Nat} {l : List UInt8} (h : Rd w R l) : l.length ≤ 1000000 := by obtain ⟨A, c, _, _, _, h⟩ := h; exact h
theorem takeBytes_no (R : Nat) (l : List UInt8) (n : Nat) (w : World) (h : Rd w R l) (hn : l.length < n) :
    Calls Try.prog 76 #[.pointer (some ⟨R, 0, none⟩), .int .u64 (n : Int)] w fun e w' => e = .returned (.tuple #[.slice none 0 0, .bool false]) ∧ w = w' := by
  obtain ⟨A, c, hv, hs, hc, ll⟩ := h
  have c0 := hv.at 0 rfl
  clear hv
  have hx : ((l.length : Nat) : Int) < (n : Int) := by omega
  go_enter Try.func76, Try.ntmps76
  go_wp2
  go_ret2
  exact ⟨rfl, rfl⟩
theorem takeBytes_ok (R : Nat) (l : List UInt8) (n : Nat) (w : World) (h : Rd w R l) (hn : n ≤ l.length) :
    Calls Try.prog 76 #[.pointer (some ⟨R, 0, none⟩), .int .u64 (n : Int)] w fun e w' => ∃ A' c', e = .returned (.tuple #[.slice A' n c', .bool true]) ∧ RS w' (fun g => w.heap.size ≤ g) A' (l.take n) ∧ n ≤ c' ∧ Rd w' R (l.drop n) ∧ w.grownBy w' (some R) := by
  obtain ⟨A, c, hv, hs, hc, ll⟩ := h
  have c0 := hv.at 0 rfl
  have g0 := hv.g 0
  have HV := Lib.hid hv
  have zR := hv.lt
  have HS := Lib.hid (hs.cut n c hc)
  have htl : (l.take n).length = n := by rw [List.length_take]; omega
  have CL : ∀ w', Ab w w' → Calls Try.prog 32 #[.slice A n c] w' (fun e w2 => ∃ A' c' L, Hid (L = l.take n) ∧ e = .returned (.slice A' L.length c') ∧ OR 5 w'.heap.size w2 A' c' L ∧ Ab w' w2) := fun w' hk => by
    have := bclone_any A (l.take n) c w' ((hs.rb.take n).ab hk) (by omega) (by omega)
    rwa [htl] at this
  have HT := Lib.hid htl
  have hx : ¬ ((l.length : Nat) : Int) < (n : Int) := by omega
  have M1 : ∀ w0, (Instr.slice 22 (.slice A l.length c) none (some (.int .u64 (n : Int))) none).run Try.prog w0 = .ok (.slice A n c) w0 := fun w0 => cv_head n .u64 A l.length c w0 (by omega)
  have M2 : ∀ w0, (Instr.slice 22 (.slice A l.length c) (some (.int .u64 (n : Int))) none none).run Try.prog w0 = .ok (.slice (cutA A c n) (l.length - n) (c - n)) w0 := fun w0 => run_cut n .u64 A l.length c w0 hn
  clear hv htl hs
  go_enter Try.func76, Try.ntmps76
  go_wp2_with fail
  refine (CL _ (Ab.refl _)).mono ?_
  rintro e w1 ⟨A1, c1, L, hL, rfl, ho, hb⟩
  have d0 := hb.at c0
  have d1 := hb.fr (by exact zR) g0
  go_wp2
  go_ret2
  have hl : L.length = n := by rw [hL.out]; exact HT.out
  rw [hl]
  refine ⟨A1, c1, rfl, ?_, by rw [← hl]; exact ho.le, ?_, ?_⟩
  · rw [← hL.out]
    exact ((ho.rb.rs (S := fun g => w.heap.size ≤ g) (fun g h => h)).setb (by simp; omega) _)
  · have hs1 := HS.out.ab hb
    have := Rd.store (HV.out.ab hb) hs1 (c := c - n) (by rw [List.length_drop]; omega) (by rw [List.length_drop]; omega)
    rwa [List.length_drop] at this
  · exact grown_trans ⟨hb.out.os, hb.out.tape, hb.out.output, hb.out.size, fun g hg _ => hb.out.block g hg⟩ (grown_cell0 _ _ _)
theorem unfold_any (n : Nat) (w : World) (hn : n < 18446744073709551616) :
    Calls Try.prog 75 #[.int .u64 (n : Int)] w fun e w' => e = .returned (.int .i64 (Codec.unfold_ n)) ∧ w = w' := by
  go_enter Try.func75, Try.ntmps75
  go_wp2
  go_ret
  exact ⟨ret_int (unfold_form n hn), rfl⟩
end Go.Proofs.Ytjgijpfknhfnjaa
