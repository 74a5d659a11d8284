/- The reference of the codec: kinds, folds, codes, walked. Own work. -/
import Derived.Test.YtbhhjbmpcpjcnaaCvFunI
set_option linter.unusedVariables false
set_option linter.unusedSimpArgs false
namespace Go.Proofs.Ytbhhjbmpcpjcnaa
open Go.RowKit
open Codec (V)

/-- What the reference's kinds returns, at most m deep. -/
def Rk (m : Nat) : Prop := ∀ (D : Nat) (S : Nat → Prop) (x : VM) (w : World), VL D w S x → Calls Try.prog 67 #[x.val, .int .i64 (m : Int)] w fun e w' => e = .returned (.bool (Codec.kinds m x.v)) ∧ Ab w w'
theorem Rk.out {m : Nat} (h : Rk m) {D : Nat} {S : Nat → Prop} (x : VM) (w : World) (hx : VL D w S x) : Calls Try.prog 67 #[x.val, .int .i64 (m : Int)] w fun e w' => e = .returned (.bool (Codec.kinds m x.v)) ∧ Ab w w' := h D S x w hx
theorem rkinds_0 (x : VM) (w : World) : Calls Try.prog 67 #[x.val, .int .i64 0] w fun e w' => e = .returned (.bool (Codec.kinds 0 x.v)) ∧ Ab w w' := by
  obtain ⟨k1, n1, A1, s1, c1, L1, l1, d1⟩ := x
  unfold VM.val VM.cells
  go_enter Try.func67, Try.ntmps67
  go_wp2
  go_ret
  exact ⟨rfl, abA⟩
set_option maxRecDepth 100000 in
set_option maxHeartbeats 4000000 in
theorem rkinds_1 (m : Nat) (hm : m ≤ 999) (hI : Rk m) (D : Nat) (S : Nat → Prop) (x : VM) (w : World) (hx : VL (D + 1) w S x) : Calls Try.prog 67 #[x.val, .int .i64 ((m + 1 : Nat) : Int)] w fun e w' => e = .returned (.bool (Codec.kinds (m + 1) x.v)) ∧ Ab w w' := by
  obtain ⟨k1, n1, A1, s1, c1, L1, l1, d1⟩ := x
  have ll : l1.length ≤ 9223372036854775807 := hx.1.2.2.2.2.2.2
  have hL := hx.els
  have HLL := Lib.hid hL
  have HII := Lib.hid hI
  have dj : ((m + 1 : Nat) : Int) - 1 = (m : Int) := by omega
  have dlo : 1 ≤ ((m + 1 : Nat) : Int) := by omega
  have dhi : ((m + 1 : Nat) : Int) ≤ 1000 := by omega
  generalize ((m + 1 : Nat) : Int) = M at *
  clear hL hx hI
  unfold VM.val VM.cells
  have key : ∀ r : Bool, Codec.kinds (m + 1) (VM.v ⟨k1, n1, A1, s1, c1, L1, l1, d1⟩) = r → Hid (Codec.kinds (m + 1) (VM.v ⟨k1, n1, A1, s1, c1, L1, l1, d1⟩) = r) := fun _ h => h
  by_cases h1 : k1 = 1
  · have K := kinds_1 (m := m) (z := n1) (b := s1) (l := l1) h1
    have e1 : ((k1 : Int) == 1) = true := by rw [beq_iff_eq]; omega
    by_cases hs : s1.length = 0
    · have es : ((s1.length : Int) == 0) = true := by rw [beq_iff_eq]; omega
      by_cases hl : l1.length = 0
      · have el : ((l1.length : Int) == 0) = true := by rw [beq_iff_eq]; omega
        have HR := key true (by show Codec.kinds (m + 1) (.mk k1 n1 s1 l1) = true; rw [K]; simp only [hs, hl]; rfl)
        clear K h1 hs hl key
        go_enter Try.func67, Try.ntmps67
        go_wp2
        go_ret
        exact ⟨by rw [HR.out]; rfl, abA⟩
      · have el : ((l1.length : Int) == 0) = false := by rw [beq_eq_false_iff_ne]; omega
        have HR := key false (by show Codec.kinds (m + 1) (.mk k1 n1 s1 l1) = false; rw [K]; simp only [hs, hl]; rfl)
        clear K h1 hs hl key
        go_enter Try.func67, Try.ntmps67
        go_wp2
        go_ret
        exact ⟨by rw [HR.out]; rfl, abA⟩
    · have es : ((s1.length : Int) == 0) = false := by rw [beq_eq_false_iff_ne]; omega
      have HR := key false (by show Codec.kinds (m + 1) (.mk k1 n1 s1 l1) = false; rw [K]; simp only [hs]; rfl)
      clear K h1 hs key
      go_enter Try.func67, Try.ntmps67
      go_wp2
      go_ret
      exact ⟨by rw [HR.out]; rfl, abA⟩
  have e1 : ((k1 : Int) == 1) = false := by rw [beq_eq_false_iff_ne]; omega
  by_cases h2 : k1 = 2
  · have K := kinds_2 (m := m) (z := n1) (b := s1) (l := l1) h2
    have e2 : ((k1 : Int) == 2) = true := by rw [beq_iff_eq]; omega
    by_cases hs : n1 = 0
    · have es : (n1 == 0) = true := by rw [beq_iff_eq]; omega
      by_cases hl : l1.length = 0
      · have el : ((l1.length : Int) == 0) = true := by rw [beq_iff_eq]; omega
        have HR := key true (by show Codec.kinds (m + 1) (.mk k1 n1 s1 l1) = true; rw [K]; simp only [es, hl]; rfl)
        clear K h1 h2 hs hl key
        go_enter Try.func67, Try.ntmps67
        go_wp2
        go_ret
        exact ⟨by rw [HR.out]; rfl, abA⟩
      · have el : ((l1.length : Int) == 0) = false := by rw [beq_eq_false_iff_ne]; omega
        have HR := key false (by show Codec.kinds (m + 1) (.mk k1 n1 s1 l1) = false; rw [K]; simp only [es, hl]; rfl)
        clear K h1 h2 hs hl key
        go_enter Try.func67, Try.ntmps67
        go_wp2
        go_ret
        exact ⟨by rw [HR.out]; rfl, abA⟩
    · have es : (n1 == 0) = false := by rw [beq_eq_false_iff_ne]; exact hs
      have HR := key false (by show Codec.kinds (m + 1) (.mk k1 n1 s1 l1) = false; rw [K]; simp only [es]; rfl)
      clear K h1 h2 hs key
      go_enter Try.func67, Try.ntmps67
      go_wp2
      go_ret
      exact ⟨by rw [HR.out]; rfl, abA⟩
  have e2 : ((k1 : Int) == 2) = false := by rw [beq_eq_false_iff_ne]; omega
  by_cases h3 : k1 = 3
  · have K := kinds_3 (m := m) (z := n1) (b := s1) (l := l1) h3
    have e3 : ((k1 : Int) == 3) = true := by rw [beq_iff_eq]; omega
    by_cases hs : n1 = 0
    · have es : (n1 == 0) = true := by rw [beq_iff_eq]; omega
      have es' : (n1 != 0) = false := by rw [bne_eq_false_iff_eq]; exact hs
      by_cases hl : s1.length = 0
      · have el : ((s1.length : Int) == 0) = true := by rw [beq_iff_eq]; omega
        have el' : ¬ (0 : Int) < (s1.length : Int) := by omega
        have HR := key (l1.all (Codec.kinds m)) (by show Codec.kinds (m + 1) (.mk k1 n1 s1 l1) = _; rw [K]; simp only [es, hl]; simp)
        clear K h1 h2 h3 hs hl key es el
        go_enter Try.func67, Try.ntmps67
        have V0 : VB (w.alloc (.cells #[.int .u8 (k1 : Int), .int .i64 n1, .slice A1 s1.length c1, .slice L1 l1.length d1] 58)) w.heap.size [.int .u8 (k1 : Int), .int .i64 n1, .slice A1 s1.length c1, .slice L1 l1.length d1] := VB.box (xs := #[.int .u8 (k1 : Int), .int .i64 n1, .slice A1 s1.length c1, .slice L1 l1.length d1]) (T := 58) (by (repeat (first | exact new_plain wnA | with_reducible refine old_alloc ?_ | with_reducible refine old_drew ?_ | with_reducible refine old_set ?_ wnA | with_reducible refine old_ab (by assumption) ?_)))
        have hab : Ab w (w.alloc (.cells #[.int .u8 (k1 : Int), .int .i64 n1, .slice A1 s1.length c1, .slice L1 l1.length d1] 58)) := abA
        go_wp2
        have v3 := V0.at 3 rfl
        clear V0
        go_loopw [5] (fun i w' => ∃ k : Nat, k ≤ l1.length ∧ i = .int .i64 (k : Int) ∧ Ab w w' ∧ w'.cell? ⟨w.heap.size, 3, none⟩ = some (.slice L1 l1.length d1) ∧ Hid (∀ i (h : i < l1.length), i < k → Codec.kinds m l1[i] = true)) (fun i _ => l1.length - (intOf i).toNat)
        case atStart => exact ⟨0, by omega, rfl, hab, v3, fun i _ h => absurd h (by omega)⟩
        case round =>
          clear v3
          obtain ⟨k, hk, rfl, hb, hbx, hq⟩ := hrel
          rename World => w1
          by_cases hlt : k < l1.length
          · obtain ⟨p, ⟨k3, n3, A3, s3, c3, L3, l3, d3⟩, rfl, yv, yl, p0, p1, p2, p3⟩ := HLL.out.at4 hlt
            have q0 := hb.at p0
            have q1 := hb.at p1
            have q2 := hb.at p2
            have q3 := hb.at p3
            have HC := HII.out.out ⟨k3, n3, A3, s3, c3, L3, l3, d3⟩ w1 (yl.ab hb)
            have HY := Lib.hid yv
            have hki : (k : Int) < (l1.length : Int) := by omega
            clear p0 p1 p2 p3 yv
            dsimp only at q0 q1 q2 q3
            unfold VM.val VM.cells at HC
            go_wp2_with fail
            with_reducible refine HC.mono ?_
            rintro e w2 ⟨rfl, hb2⟩
            clear HC
            rcases hkd : Codec.kinds m (VM.v ⟨k3, n3, A3, s3, c3, L3, l3, d3⟩) with _ | _
            · have HF : Hid (l1.all (Codec.kinds m) = false) := by
                unfold Hid
                rw [List.all_eq_false]
                exact ⟨l1[k], List.getElem_mem hlt, by rw [← HY.out, hkd]; simp⟩
              clear hkd
              go_wp2
              go_ret
              exact ⟨by rw [HR.out, HF.out]; rfl, hb.trans hb2⟩
            · have HT := Lib.hid hkd
              clear hkd
              have hbx2 := hb2.at hbx
              go_wp2
              go_roundw
              case rel =>
                refine ⟨k + 1, by omega, by go_num, hb.trans hb2, hbx2, fun i h hi => ?_⟩
                by_cases hik : i = k
                · subst hik; rw [← HY.out]; exact HT.out
                · exact hq.out i h (by omega)
              case measure => simp [intOf]; omega
          · have HT : Hid (l1.all (Codec.kinds m) = true) := by
              unfold Hid
              rw [List.all_eq_true]
              intro x hx
              obtain ⟨i, hi, rfl⟩ := List.mem_iff_getElem.1 hx
              exact hq.out i hi (by omega)
            have hki : ¬ (k : Int) < (l1.length : Int) := by omega
            go_wp2
            go_ret
            exact ⟨by rw [HR.out, HT.out]; rfl, hb⟩
      · have el : ((s1.length : Int) == 0) = false := by rw [beq_eq_false_iff_ne]; omega
        have el' : (0 : Int) < (s1.length : Int) := by omega
        have HR := key false (by show Codec.kinds (m + 1) (.mk k1 n1 s1 l1) = false; rw [K]; simp only [es, hl]; rfl)
        clear K h1 h2 h3 hs hl key es el
        go_enter Try.func67, Try.ntmps67
        go_wp2
        go_ret
        exact ⟨by rw [HR.out]; rfl, abA⟩
    · have es : (n1 == 0) = false := by rw [beq_eq_false_iff_ne]; exact hs
      have es' : (n1 != 0) = true := by rw [bne_iff_ne]; exact hs
      have HR := key false (by show Codec.kinds (m + 1) (.mk k1 n1 s1 l1) = false; rw [K]; simp only [es]; rfl)
      clear K h1 h2 h3 hs key es
      go_enter Try.func67, Try.ntmps67
      go_wp2
      go_ret
      exact ⟨by rw [HR.out]; rfl, abA⟩
  · have e3 : ((k1 : Int) == 3) = false := by rw [beq_eq_false_iff_ne]; omega
    have HR := key false (kinds_4 h1 h2 h3)
    clear h1 h2 h3 key
    go_enter Try.func67, Try.ntmps67
    go_wp2
    go_ret
    exact ⟨by rw [HR.out]; rfl, abA⟩
theorem rkinds_any : ∀ m, m ≤ 1000 → Rk m := by
  intro m
  induction m with
  | zero => intro _ D S x w _; exact rkinds_0 x w
  | succ m ih =>
    intro hm D S x w hx
    cases D with
    | zero => exact hx.elim
    | succ D => exact rkinds_1 m (by omega) (ih (by omega)) D S x w hx
theorem rfold_any (n : Int) (w : World) (h1 : -9223372036854775808 ≤ n) (h2 : n ≤ 9223372036854775807) :
    Calls Try.prog 69 #[.int .i64 n] w fun e w' => e = .returned (.int .u64 (Codec.fold n : Int)) ∧ w = w' := by
  by_cases h : 0 ≤ n
  · have HF : Hid ((Codec.fold n : Int) = 2 * n) := by unfold Hid Codec.fold; rw [if_pos h]; omega
    have j1 : IntKind.u64.wrap n = n := wrapu _ h (by omega)
    have j2 : IntKind.u64.wrap (2 * n) = 2 * n := wrapu _ (by omega) (by omega)
    clear h1 h2
    go_enter Try.func69, Try.ntmps69
    go_wp2
    go_ret
    exact ⟨ret_int (by rw [HF.out]), rfl⟩
  · have HF : Hid ((Codec.fold n : Int) = 2 * (-(n + 1)) + 1) := by unfold Hid Codec.fold; rw [if_neg h]; omega
    obtain ⟨z, hz⟩ : ∃ z, z = -(n + 1) := ⟨_, rfl⟩
    have j0 : IntKind.i64.wrap (n + 1) = n + 1 := IntWalk.i64_in _ (by omega)
    have j1 : IntKind.u64.wrap (-(n + 1)) = -(n + 1) := wrapu _ (by omega) (by omega)
    have j2 : IntKind.u64.wrap (2 * (-(n + 1))) = 2 * (-(n + 1)) := wrapu _ (by omega) (by omega)
    have j3 : IntKind.u64.wrap (2 * (-(n + 1)) + 1) = 2 * (-(n + 1)) + 1 := wrapu _ (by omega) (by omega)
    have j4 : IntKind.i64.wrap (-(n + 1)) = -(n + 1) := IntWalk.i64_in _ (by omega)
    have hlo : -9223372036854775807 ≤ n + 1 := by omega
    clear hz
    go_enter Try.func69, Try.ntmps69
    go_wp2
    go_ret
    exact ⟨ret_int (by rw [HF.out]), rfl⟩
set_option maxRecDepth 100000 in
theorem rcode_any (n : Nat) (w : World) (hn : n < 18446744073709551616) :
    Calls Try.prog 68 #[.int .u64 (n : Int)] w fun e w' => ∃ A' c' L, e = .returned (.slice A' L.length c') ∧ Hid (L = Codec.code n) ∧ OR 5 w.heap.size w' A' c' L ∧ Ab w w' := by
  have h10 := Lib.hid (code_10 hn)
  have HN := Lib.hid hn
  clear hn
  go_enter Try.func68, Try.ntmps68
  go_wp2
  go_loopw [0, 3] (fun s1 s0 w' => ∃ (A' : Option Addr) (c' k : Nat) (L : List UInt8), s0 = .slice A' L.length c' ∧ s1 = .int .u64 (k : Int) ∧ Apd w.heap.size w none w' A' c' L ∧ Hid (k < 18446744073709551616) ∧ Hid (L ++ Codec.code k = Codec.code n)) (fun s1 _ _ => (intOf s1).toNat)
  case atStart => exact ⟨none, 0, n, [], rfl, rfl, ⟨OR.none_, World.grownBy.refl w _, Nxt.refl _ _⟩, HN, Lib.hid rfl⟩
  case round =>
    obtain ⟨B, d, k, L, rfl, rfl, hp, hkn, hL⟩ := hrel
    rename World => w1
    have hs1 := hp.g.size
    have hLl : L.length ≤ 10 := by
      have := congrArg List.length hL.out
      rw [List.length_append] at this
      have := h10.out
      omega
    by_cases hlt : k < 128
    · have hk : ¬ (128 : Int) ≤ (k : Int) := by omega
      obtain ⟨x, hx⟩ : ∃ x, x = UInt8.ofNat k := ⟨_, rfl⟩
      have hv : (k : Int) = (x.toNat : Int) := by rw [hx]; simp; omega
      have HR : Hid (L ++ [x] = Codec.code n) := by have := hL.out; rw [Codec.code_small hlt] at this; rw [hx]; exact this
      have HV := Lib.hid hv
      have hkb : (k : Int) ≤ 127 := by omega
      clear hlt hx hv
      go_wp2_with ((at_builtin
                    refine listApn rfl _ _ rfl rfl rfl (m := [x]) rfl (hp.o.alloc _) (by simp; omega) (rb_one (by (repeat (first | exact new_plain wnA | with_reducible refine old_alloc ?_ | with_reducible refine old_drew ?_ | with_reducible refine old_set ?_ wnA | with_reducible refine old_ab (by assumption) ?_))) HV.out) (Nat.le_refl _) (by simp; omega) ?_
                    intro A2 c2 w2 L2 hL2 h2))
      go_ret
      have hq := (hp.ab abA).step h2
      exact ⟨A2, c2, L2, rfl, Lib.hid (by rw [hL2.out]; exact HR.out), hq.o, grown_ab (Ab.refl _) hq.g (fun g e => by cases e)⟩
    · have hk : (128 : Int) ≤ (k : Int) := by omega
      obtain ⟨x, hx⟩ : ∃ x, x = UInt8.ofNat (k % 128 + 128) := ⟨_, rfl⟩
      have hv : (k : Int) % 128 + 128 = (x.toNat : Int) := by rw [hx]; simp; omega
      have HR : Hid ((L ++ [x]) ++ Codec.code (k / 128) = Codec.code n) := by have := hL.out; rw [Codec.code_big hlt] at this; rw [hx, List.append_assoc]; exact this
      have HV := Lib.hid hv
      have jq : IntKind.u64.wrap ((k : Int) / 128) = ((k / 128 : Nat) : Int) := by rw [wrapu _ (by omega) (by have := hkn.out; omega)]; omega
      have JQ := Lib.hid jq
      clear hlt hx hv
      go_wp2_with ((at_builtin
                    refine listApn rfl _ _ rfl rfl rfl (m := [x]) rfl (hp.o.alloc _) (by simp; omega) (rb_one (by (repeat (first | exact new_plain wnA | with_reducible refine old_alloc ?_ | with_reducible refine old_drew ?_ | with_reducible refine old_set ?_ wnA | with_reducible refine old_ab (by assumption) ?_))) HV.out) (Nat.le_refl _) (by simp; omega) ?_
                    intro A2 c2 w2 L2 hL2 h2))
      go_roundw
      case rel => exact ⟨A2, c2, k / 128, L2, rfl, (by first | rfl | exact congrArg (Value.int .u64) (by omega) | (rw [JQ.out])), (hp.ab abA).step h2, Lib.hid (by have := hkn.out; omega), Lib.hid (by rw [hL2.out]; exact HR.out)⟩
      case measure =>
        clear jq
        first | (simp [intOf]; omega) | (rw [JQ.out]; simp [intOf]; omega)
end Go.Proofs.Ytbhhjbmpcpjcnaa
