/- Codes and sizes of values, walked. Own work. -/
import Derived.Test.YtjgijpfknhfnjaaCvApp
import Derived.Test.YtjgijpfknhfnjaaCvFunF
import Derived.Test.YtjgijpfknhfnjaaCvFunG
set_option linter.unusedVariables false
set_option linter.unusedSimpArgs false
namespace Go.Proofs.Ytjgijpfknhfnjaa
open Go.RowKit
open Codec (V)

set_option maxRecDepth 100000 in
theorem appendCode_any (lo : Nat) (A : Option Addr) (l : List UInt8) (c n : Nat) (w : World) (ho : OR 5 lo w A c l) (hlo : lo ≤ w.heap.size) (hn : n < 18446744073709551616) (ll : l.length ≤ 1000000000) :
    Calls Try.prog 61 #[.slice A l.length c, .int .u64 (n : Int)] w fun e w' => ∃ A' c' L, e = .returned (.slice A' L.length c') ∧ Hid (L = l ++ Codec.code n) ∧ Apd lo w A w' A' c' L := by
  have h10 := Lib.hid (code_10 hn)
  clear hn
  go_enter Try.func61, Try.ntmps61
  go_wp2
  go_loopw [0, 1] (fun s0 s1 w' => ∃ (A' : Option Addr) (c' k : Nat) (L : List UInt8), s0 = .slice A' L.length c' ∧ s1 = .int .u64 (k : Int) ∧ Apd lo w A w' A' c' L ∧ Hid (L ++ Codec.code k = l ++ Codec.code n)) (fun _ s1 _ => (intOf s1).toNat)
  case atStart => exact ⟨A, c, n, l, rfl, rfl, ⟨ho, World.grownBy.refl w _, Nxt.refl _ _⟩, Lib.hid rfl⟩
  case round =>
    obtain ⟨B, d, k, L, rfl, rfl, hp, hL⟩ := hrel
    rename World => w1
    have hs1 := hp.g.size
    have hLl : L.length ≤ 1000000010 := by
      have := congrArg List.length hL.out
      rw [List.length_append, List.length_append] at this
      have := h10.out
      omega
    by_cases hlt : k < 128
    · have hk : ¬ (128 : Int) ≤ (k : Int) := by omega
      obtain ⟨x, hx⟩ : ∃ x, x = UInt8.ofNat k := ⟨_, rfl⟩
      have hv : (k : Int) = (x.toNat : Int) := by rw [hx]; simp; omega
      have HR : Hid (L ++ [x] = l ++ Codec.code n) := by have := hL.out; rw [Codec.code_small hlt] at this; rw [hx]; exact this
      have HV := Lib.hid hv
      have hkb : (k : Int) ≤ 127 := by omega
      clear hlt hx hv
      go_wp2_with ((at_builtin
                    refine listApn rfl _ _ rfl rfl rfl (m := [x]) rfl (hp.o.alloc _) (by simp; omega) (rb_one (by (repeat (first | exact new_plain wnA | with_reducible refine old_alloc ?_ | with_reducible refine old_drew ?_ | with_reducible refine old_set ?_ wnA | with_reducible refine old_ab (by assumption) ?_))) HV.out) (Nat.le_refl _) (by simp; omega) ?_
                    intro A2 c2 w2 L2 hL2 h2))
      go_ret
      exact ⟨A2, c2, L2, rfl, Lib.hid (by rw [hL2.out]; exact HR.out), (hp.ab abA).step h2⟩
    · have hk : (128 : Int) ≤ (k : Int) := by omega
      obtain ⟨x, hx⟩ : ∃ x, x = UInt8.ofNat (k % 128 + 128) := ⟨_, rfl⟩
      have hv : (k : Int) % 128 + 128 = (x.toNat : Int) := by rw [hx]; simp; omega
      have HR : Hid ((L ++ [x]) ++ Codec.code (k / 128) = l ++ Codec.code n) := by have := hL.out; rw [Codec.code_big hlt] at this; rw [hx, List.append_assoc]; exact this
      have HV := Lib.hid hv
      clear hlt hx hv
      go_wp2_with ((at_builtin
                    refine listApn rfl _ _ rfl rfl rfl (m := [x]) rfl (hp.o.alloc _) (by simp; omega) (rb_one (by (repeat (first | exact new_plain wnA | with_reducible refine old_alloc ?_ | with_reducible refine old_drew ?_ | with_reducible refine old_set ?_ wnA | with_reducible refine old_ab (by assumption) ?_))) HV.out) (Nat.le_refl _) (by simp; omega) ?_
                    intro A2 c2 w2 L2 hL2 h2))
      go_roundw
      case rel => exact ⟨A2, c2, k / 128, L2, rfl, congrArg (Value.int .u64) (by omega), (hp.ab abA).step h2, Lib.hid (by rw [hL2.out]; exact HR.out)⟩
      case measure => simp [intOf]; omega
/-- How many bytes values have. -/
def Sz (d : Nat) : Prop := ∀ (D : Nat) (S : Nat → Prop) (x : VM) (w : World), VL D w S x → Codec.kinds d x.v = true → (Codec.enc d x.v).length ≤ 1000000000 →
    Calls Try.prog 72 #[x.val] w fun e w' => e = .returned (.int .i64 ((Codec.enc d x.v).length : Int)) ∧ Ab w w'
theorem Sz.out {d : Nat} (h : Sz d) {D : Nat} {S : Nat → Prop} (x : VM) (w : World) (hx : VL D w S x) (hk : Codec.kinds d x.v = true) (hl : (Codec.enc d x.v).length ≤ 1000000000) :
    Calls Try.prog 72 #[x.val] w fun e w' => e = .returned (.int .i64 ((Codec.enc d x.v).length : Int)) ∧ Ab w w' := h D S x w hx hk hl
/-- The bytes of the first k elements. -/
def pre (d : Nat) (l : List V) (k : Nat) : List UInt8 := ((l.take k).map (Codec.enc d)).flatten
theorem pre_succ (d : Nat) (l : List V) (k : Nat) (h : k < l.length) : pre d l (k + 1) = pre d l k ++ Codec.enc d l[k] := by
  unfold pre
  rw [List.take_succ_eq_append_getElem h, List.map_append, List.flatten_append]
  simp only [List.map_cons, List.map_nil, List.flatten_cons, List.flatten_nil, List.append_nil]
theorem pre_all (d : Nat) (l : List V) : pre d l l.length = (l.map (Codec.enc d)).flatten := by unfold pre; rw [List.take_length]
theorem pre_le (d : Nat) (l : List V) (k : Nat) : (pre d l k).length ≤ ((l.map (Codec.enc d)).flatten).length := by
  have e : (l.map (Codec.enc d)).flatten = pre d l k ++ ((l.drop k).map (Codec.enc d)).flatten := by
    unfold pre
    rw [← List.flatten_append, ← List.map_append, List.take_append_drop]
  rw [e, List.length_append]; omega
theorem enc_1 {d : Nat} {n : Int} : Codec.enc (d + 1) (.mk 1 n [] []) = 1 :: Codec.code (Codec.fold n) := rfl
theorem enc_2 {d : Nat} {b : List UInt8} : Codec.enc (d + 1) (.mk 2 0 b []) = 2 :: (Codec.code b.length ++ b) := rfl
theorem enc_3 {d : Nat} {l : List V} : Codec.enc (d + 1) (.mk 3 0 [] l) = 3 :: (Codec.code l.length ++ (l.map (Codec.enc d)).flatten) := rfl
set_option maxRecDepth 100000 in
set_option maxHeartbeats 2000000 in
theorem sizeOf_1 (d : Nat) (hS : Sz d) (D : Nat) (S : Nat → Prop) (x : VM) (w : World) (hx : VL (D + 1) w S x) (hk : Codec.kinds (d + 1) x.v = true) (hl : (Codec.enc (d + 1) x.v).length ≤ 1000000000) :
    Calls Try.prog 72 #[x.val] w fun e w' => e = .returned (.int .i64 ((Codec.enc (d + 1) x.v).length : Int)) ∧ Ab w w' := by
  obtain ⟨k1, n1, A1, s1, c1, L1, l1, d1⟩ := x
  have hn1 : -9223372036854775808 ≤ n1 := hx.1.2.1
  have hn2 : n1 ≤ 9223372036854775807 := hx.1.2.2.1
  have hL := hx.els
  unfold VM.val VM.cells
  rcases Codec.kinds_cases hk with ⟨n, he⟩ | ⟨b, he⟩ | ⟨l, he, hel⟩
  · obtain ⟨rfl, rfl, rfl, rfl⟩ := V.mk.inj he
    have HE : Hid ((Codec.enc (d + 1) (VM.v ⟨1, n1, A1, [], c1, L1, [], d1⟩)).length = 1 + (Codec.code (Codec.fold n1)).length) := by
      show (Codec.enc (d + 1) (.mk 1 n1 [] [])).length = _
      rw [enc_1, List.length_cons, Nat.add_comm]
    have hf := Codec.fold_lt hn1 hn2
    have hc10 := code_10 hf
    have HF := Lib.hid hf
    have HB := Lib.hid (And.intro hn1 hn2)
    clear he hk hl hL hx hf hn1 hn2
    go_enter Try.func72, Try.ntmps72
    go_wp2_with fail
    refine (fold_any n1 _ HB.out.1 HB.out.2).mono ?_
    rintro e w2 ⟨rfl, rfl⟩
    generalize Codec.fold n1 = F at *
    go_wp2_with fail
    refine (codeSize_any F _ HF.out).mono ?_
    rintro e w3 ⟨rfl, rfl⟩
    go_wp2
    go_ret
    exact ⟨ret_int (by rw [HE.out]; omega), abA⟩
  · obtain ⟨rfl, rfl, rfl, rfl⟩ := V.mk.inj he
    have HE : Hid ((Codec.enc (d + 1) (VM.v ⟨2, 0, A1, s1, c1, L1, [], d1⟩)).length = 1 + (Codec.code s1.length).length + s1.length) := by
      show (Codec.enc (d + 1) (.mk 2 0 s1 [])).length = _
      rw [enc_2, List.length_cons, List.length_append]; omega
    have hsl : s1.length ≤ 1000000000 := by rw [HE.out] at hl; omega
    have hc10 := code_10 (n := s1.length) (by omega)
    have HC : ∀ w, Calls Try.prog 82 #[.int .u64 (s1.length : Int)] w (fun e w' => e = .returned (.int .i64 ((Codec.code s1.length).length : Int)) ∧ w' = w) := fun w => (codeSize_any s1.length w (by omega)).mono fun _ _ ⟨h1, h2⟩ => ⟨h1, h2.symm⟩
    have j1 : IntKind.u64.wrap (s1.length : Int) = (s1.length : Int) := wrapu _ (by omega) (by omega)
    have j2 : IntKind.i64.wrap (1 + ((Codec.code s1.length).length : Int)) = 1 + ((Codec.code s1.length).length : Int) := IntWalk.i64_in _ (by omega)
    have j3 : IntKind.i64.wrap (1 + ((Codec.code s1.length).length : Int) + (s1.length : Int)) = 1 + ((Codec.code s1.length).length : Int) + (s1.length : Int) := IntWalk.i64_in _ (by omega)
    clear he hk hl hL hx hn1 hn2
    go_enter Try.func72, Try.ntmps72
    go_upto_region 5 with fail
    go_quiet ((go_at_call 82; exact Calls.quiet_of_same (HC _)))
    go_wp2
    go_ret
    exact ⟨ret_int (by rw [HE.out]; omega), abA⟩
  · obtain ⟨rfl, rfl, rfl, rfl⟩ := V.mk.inj he
    have HE : Hid ((Codec.enc (d + 1) (VM.v ⟨3, 0, A1, [], c1, L1, l1, d1⟩)).length = 1 + (Codec.code l1.length).length + (pre d l1 l1.length).length) := by
      show (Codec.enc (d + 1) (.mk 3 0 [] l1)).length = _
      rw [enc_3, List.length_cons, List.length_append, pre_all]; omega
    have hpl : (pre d l1 l1.length).length ≤ 1000000000 := by rw [HE.out] at hl; omega
    have hlf : l1.length ≤ 1000000000 := by
      have := Codec.flat_ge l1 hel
      rw [← pre_all] at this; omega
    have hpk : Hid (∀ k, k < l1.length → (pre d l1 (k + 1)).length ≤ 1000000000) := by
      intro k hk
      have := pre_le d l1 (k + 1)
      rw [← pre_all] at this; omega
    have HEL := Lib.hid hel
    have HSZ := Lib.hid hS
    have hc10 := code_10 (n := l1.length) (by omega)
    have hlu : (l1.length : Int) ≤ 1000000000 := by omega
    have HLL := Lib.hid hL
    have h10L : Hid (l1.length < 18446744073709551616) := by unfold Hid; omega
    clear he hk hl hL hx hn1 hn2 hel hS hpl
    go_enter Try.func72, Try.ntmps72
    have hab : Ab w (w.alloc (.cells #[.int .u8 3, .int .i64 0, .slice A1 0 c1, .slice L1 l1.length d1] 58)) := abA
    go_wp2_with fail
    refine (codeSize_any l1.length _ h10L.out).mono ?_
    rintro e w3 ⟨rfl, rfl⟩
    generalize (Codec.code l1.length).length = h at *
    go_wp2
    go_loopw [3, 36] (fun s3 s36 w' => ∃ k : Nat, k ≤ l1.length ∧ s36 = .int .i64 (k : Int) ∧ s3 = .int .i64 (1 + (h : Int) + ((pre d l1 k).length : Int)) ∧ Ab w w') (fun _ s36 _ => l1.length - (intOf s36).toNat)
    case atStart => exact ⟨0, by omega, rfl, congrArg (Value.int .i64) (by simp [pre]), hab⟩
    case round =>
      obtain ⟨k, hk, rfl, rfl, hb⟩ := hrel
      rename World => w1
      by_cases hlt : k < l1.length
      · obtain ⟨p, ⟨k3, n3, A3, s3, c3, L3, l3, d3⟩, rfl, yv, yl, p0, p1, p2, p3⟩ := HLL.out.at4 hlt
        have q0 := hb.at p0
        have q1 := hb.at p1
        have q2 := hb.at p2
        have q3 := hb.at p3
        have hki : (k : Int) < (l1.length : Int) := by omega
        have hps : (pre d l1 (k + 1)).length = (pre d l1 k).length + (Codec.enc d (VM.v ⟨k3, n3, A3, s3, c3, L3, l3, d3⟩)).length := by
          rw [pre_succ d l1 k hlt, List.length_append, yv]
        have hpb := hpk.out k hlt
        have HC := fun w' (hk' : Ab w1 w') => HSZ.out.out ⟨k3, n3, A3, s3, c3, L3, l3, d3⟩ w' ((yl.ab hb).ab hk') (by rw [yv]; exact HEL.out _ (List.getElem_mem hlt)) (by omega)
        have HPS := Lib.hid hps
        have e1 : (pre d l1 k).length + (Codec.enc d (VM.v ⟨k3, n3, A3, s3, c3, L3, l3, d3⟩)).length ≤ 1000000000 := by omega
        generalize (Codec.enc d (VM.v ⟨k3, n3, A3, s3, c3, L3, l3, d3⟩)).length = z at *
        generalize (pre d l1 k).length = y at *
        generalize hy1 : (pre d l1 (k + 1)).length = y1 at *
        have HY1 := Lib.hid hy1
        clear hy1
        have HCC := Lib.hid HC
        clear p0 p1 p2 p3 yv yl hps hpb HC
        dsimp only at q0 q1 q2 q3
        have hyz : (y : Int) + (z : Int) ≤ 1000000000 := by omega
        go_wp2_with fail
        have HC := HCC.out (w1.alloc (.cells #[.int .u8 (k3 : Int), .int .i64 n3, .slice A3 s3.length c3, .slice L3 l3.length d3] 58)) abA
        unfold VM.val VM.cells at HC
        with_reducible refine HC.mono ?_
        rintro e w4 ⟨rfl, hb4⟩
        clear HC
        go_wp2
        go_roundw
        case rel => exact ⟨k + 1, by omega, by go_num, congrArg (Value.int .i64) (by have := HPS.out; have := HY1.out; omega), hb.trans (Ab.trans abA hb4)⟩
        case measure => simp [intOf]; omega
      · obtain rfl : k = l1.length := by omega
        go_wp2
        go_ret
        exact ⟨ret_int (by rw [HE.out]; omega), hb⟩
theorem sizeOf_any : ∀ d, Sz d := by
  intro d
  induction d with
  | zero => intro D S x w hx hk; simp [Codec.kinds] at hk
  | succ d ih =>
    intro D S x w hx hk hl
    cases D with
    | zero => exact hx.elim
    | succ D => exact sizeOf_1 d ih D S x w hx hk hl
end Go.Proofs.Ytjgijpfknhfnjaa
