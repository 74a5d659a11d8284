/- Bytes of values appended, walked. Own work. -/
import Derived.Test.YtjgijpfknhfnjaaCvFunH
set_option linter.unusedVariables false
set_option linter.unusedSimpArgs false
namespace Go.Proofs.Ytjgijpfknhfnjaa
open Go.RowKit
open Codec (V)

/-- An element's four cells, and where they lie. -/
theorem VLs.at5 {d : Nat} {w : World} {S : Nat → Prop} {L : Option Addr} {l : List V} (h : VLs d w S L l) {k : Nat} (hk : k < l.length) : ∃ (a : Addr) (y : VM), L = some a ∧ S a.block ∧ y.v = l[k] ∧ VL d w S y ∧
    w.cell? (a.add (k * 4)) = some (.int .u8 (y.kind : Int)) ∧ w.cell? ⟨(a.add (k * 4)).block, (a.add (k * 4)).off + 1, none⟩ = some (.int .i64 y.num) ∧
    w.cell? ⟨(a.add (k * 4)).block, (a.add (k * 4)).off + 2, none⟩ = some (.slice y.A y.b.length y.c) ∧ w.cell? ⟨(a.add (k * 4)).block, (a.add (k * 4)).off + 3, none⟩ = some (.slice y.L y.l.length y.d) := by
  obtain ⟨g, o, h1, h2, h3⟩ := h (by omega)
  obtain ⟨a, y, e, r⟩ := h.at4 hk
  rw [h1] at e
  cases e
  exact ⟨_, y, h1, h2, r⟩
theorem cell_keep {w w' : World} {p : Addr} {v : Value} (h : w.cell? p = some v) (k : p.block < w.heap.size → w'.heap[p.block]? = w.heap[p.block]?) : w'.cell? p = some v :=
  (World.cell?_of_block (k (cell_lt h))).trans h
def Av (d : Nat) : Prop := ∀ (D : Nat) (S : Nat → Prop) (lo : Nat) (A : Option Addr) (l : List UInt8) (c : Nat) (x : VM) (w : World), VL D w S x → (∀ g, S g → g < lo) → Codec.kinds d x.v = true → OR 5 lo w A c l → lo ≤ w.heap.size → l.length + (Codec.enc d x.v).length ≤ 1000000000 →
    Calls Try.prog 49 #[.slice A l.length c, x.val] w fun e w' => ∃ A' c' L, e = .returned (.slice A' L.length c') ∧ Hid (L = l ++ Codec.enc d x.v) ∧ Apd lo w A w' A' c' L
theorem Av.out {d : Nat} (h : Av d) {D : Nat} {S : Nat → Prop} {lo : Nat} (A : Option Addr) (l : List UInt8) (c : Nat) (x : VM) (w : World) (hx : VL D w S x) (hS : ∀ g, S g → g < lo) (hk : Codec.kinds d x.v = true) (ho : OR 5 lo w A c l) (hlo : lo ≤ w.heap.size) (hl : l.length + (Codec.enc d x.v).length ≤ 1000000000) :
    Calls Try.prog 49 #[.slice A l.length c, x.val] w fun e w' => ∃ A' c' L, e = .returned (.slice A' L.length c') ∧ Hid (L = l ++ Codec.enc d x.v) ∧ Apd lo w A w' A' c' L := h D S lo A l c x w hx hS hk ho hlo hl
set_option maxRecDepth 100000 in
set_option maxHeartbeats 4000000 in
theorem appendValue_1 (d : Nat) (hV : Av d) (D : Nat) (S : Nat → Prop) (lo : Nat) (A : Option Addr) (l : List UInt8) (c : Nat) (x : VM) (w : World) (hx : VL (D + 1) w S x) (hS : ∀ g, S g → g < lo) (hk : Codec.kinds (d + 1) x.v = true) (ho : OR 5 lo w A c l) (hlo : lo ≤ w.heap.size) (hl : l.length + (Codec.enc (d + 1) x.v).length ≤ 1000000000) :
    Calls Try.prog 49 #[.slice A l.length c, x.val] w fun e w' => ∃ A' c' L, e = .returned (.slice A' L.length c') ∧ Hid (L = l ++ Codec.enc (d + 1) x.v) ∧ Apd lo w A w' A' c' L := by
  obtain ⟨k1, n1, A1, s1, c1, L1, l1, d1⟩ := x
  have hn1 : -9223372036854775808 ≤ n1 := hx.1.2.1
  have hn2 : n1 ≤ 9223372036854775807 := hx.1.2.2.1
  have hsc : s1.length ≤ c1 := hx.1.2.2.2.1
  have hL := hx.els
  have hB := hx.bytes
  obtain ⟨kb, hkb⟩ : ∃ kb, kb = UInt8.ofNat k1 := ⟨_, rfl⟩
  have hk1 := hx.kd
  have hkv : (k1 : Int) = (kb.toNat : Int) := by
    have : k1 < 256 := hk1
    rw [hkb]; simp; omega
  have hll : l.length ≤ 1000000000 := by omega
  have hAlt : ∀ g, A.map (·.block) = some g → g < w.heap.size := by
    intro g e
    cases hA : A with
    | none => rw [hA] at e; cases e
    | some a => rw [hA] at e; have := (ho.rng a hA).2; simp at e; omega
  have HKV := Lib.hid hkv
  clear hkv HKV
  rcases Codec.kinds_cases hk with ⟨n, he⟩ | ⟨b, he⟩ | ⟨ls, he, hel⟩
  · obtain ⟨rfl, rfl, rfl, rfl⟩ := V.mk.inj he
    have HE : Hid (Codec.enc (d + 1) (VM.v ⟨1, n1, A1, [], c1, L1, [], d1⟩) = 1 :: Codec.code (Codec.fold n1)) := Lib.hid enc_1
    have hln : Hid (l.length + 1 + (Codec.code (Codec.fold n1)).length ≤ 1000000000) := by
      have := hl; rw [HE.out] at this; unfold Hid; simp at this; omega
    have hf := Codec.fold_lt hn1 hn2
    have HF := Lib.hid hf
    have HB := Lib.hid (And.intro hn1 hn2)
    clear he hk hl hL hx hf hn1 hn2 hB hkb hk1 hsc hV
    unfold VM.val VM.cells
    go_enter Try.func49, Try.ntmps49
    have hab : Ab w (w.alloc (.cells #[.int .u8 1, .int .i64 n1, .slice A1 0 c1, .slice L1 0 d1] 58)) := abA
    have V0 : VB (w.alloc (.cells #[.int .u8 1, .int .i64 n1, .slice A1 0 c1, .slice L1 0 d1] 58)) w.heap.size [.int .u8 1, .int .i64 n1, .slice A1 0 c1, .slice L1 0 d1] := VB.box (xs := #[.int .u8 1, .int .i64 n1, .slice A1 0 c1, .slice L1 0 d1]) (T := 58) (by (repeat (first | exact new_plain wnA | with_reducible refine old_alloc ?_ | with_reducible refine old_drew ?_ | with_reducible refine old_set ?_ wnA | with_reducible refine old_ab (by assumption) ?_)))
    have V1 := V0.ab (show Ab _ ((w.alloc (.cells #[.int .u8 1, .int .i64 n1, .slice A1 0 c1, .slice L1 0 d1] 58)).alloc (.cells #[.int .u8 1] 5)) from abA)
    go_upto_region 1 with fail
    go_wp2_with ((at_builtin
                  refine listApn (o := ⟨some 11, _, _, _, _, _⟩) rfl _ _ rfl rfl rfl (m := [1]) rfl ((ho.alloc _).alloc _) wnA (rb_one (v := 1) (by (repeat (first | exact new_plain wnA | with_reducible refine old_alloc ?_ | with_reducible refine old_drew ?_ | with_reducible refine old_set ?_ wnA | with_reducible refine old_ab (by assumption) ?_))) rfl) (Nat.le_refl _) (by simp; omega) ?_
                  intro A2 c2 w2 L2 hL2 h2
                  have V2 := V1.grw h2.g (fun e => absurd (hAlt _ e) (by omega))
                  have P2 : Apd lo w A w2 A2 c2 L2 := Apd.pre (by exact abA) h2
                  have hs2 := P2.g.size
                  have hA2 : ∀ g, A2.map (·.block) = some g → g ≠ w.heap.size := fun g e h0 => by
                    rcases h2.n g e with h1 | h1
                    · exact absurd (hAlt g h1) (by omega)
                    · simp at h1; omega
                  have q0 := V2.at 0 rfl
                  have q1 := V2.at 1 rfl
                  clear h2 V0 V1 V2))
    refine (fold_any n1 _ HB.out.1 HB.out.2).mono ?_
    rintro e w3 ⟨rfl, rfl⟩
    have hl2 : L2.length ≤ 1000000000 := by rw [hL2.out, List.length_append]; have := hln.out; simp; omega
    have hlo2 : lo ≤ w2.heap.size := by omega
    generalize Codec.fold n1 = F at *
    go_wp2_with fail
    refine (appendCode_any lo A2 L2 c2 F _ P2.o hlo2 HF.out hl2).mono ?_
    rintro e w4 ⟨A4, c4, L4, rfl, hL4, P4⟩
    go_wp2
    go_ret
    exact ⟨A4, c4, L4, rfl, Lib.hid (by rw [hL4.out, hL2.out, HE.out]; simp), P2.step P4⟩
  · obtain ⟨rfl, rfl, rfl, rfl⟩ := V.mk.inj he
    have HE : Hid (Codec.enc (d + 1) (VM.v ⟨2, 0, A1, s1, c1, L1, [], d1⟩) = 2 :: (Codec.code s1.length ++ s1)) := Lib.hid enc_2
    have hln : Hid (l.length + 1 + (Codec.code s1.length).length + s1.length ≤ 1000000000) := by
      have := hl; rw [HE.out] at this; unfold Hid; simp at this; omega
    have hsl : (s1.length : Int) ≤ 1000000000 := by have := hln.out; omega
    have hsu : Hid (s1.length < 18446744073709551616) := by have := hln.out; unfold Hid; omega
    have HBB := Lib.hid hB
    have j1 : IntKind.u64.wrap (s1.length : Int) = (s1.length : Int) := wrapu _ (by omega) (by omega)
    clear he hk hl hL hx hn1 hn2 hB hkb hk1 hV
    unfold VM.val VM.cells
    go_enter Try.func49, Try.ntmps49
    have hab : Ab w (w.alloc (.cells #[.int .u8 2, .int .i64 0, .slice A1 s1.length c1, .slice L1 0 d1] 58)) := abA
    have V0 : VB (w.alloc (.cells #[.int .u8 2, .int .i64 0, .slice A1 s1.length c1, .slice L1 0 d1] 58)) w.heap.size [.int .u8 2, .int .i64 0, .slice A1 s1.length c1, .slice L1 0 d1] := VB.box (xs := #[.int .u8 2, .int .i64 0, .slice A1 s1.length c1, .slice L1 0 d1]) (T := 58) (by (repeat (first | exact new_plain wnA | with_reducible refine old_alloc ?_ | with_reducible refine old_drew ?_ | with_reducible refine old_set ?_ wnA | with_reducible refine old_ab (by assumption) ?_)))
    have V1 := V0.ab (show Ab _ ((w.alloc (.cells #[.int .u8 2, .int .i64 0, .slice A1 s1.length c1, .slice L1 0 d1] 58)).alloc (.cells #[.int .u8 2] 5)) from abA)
    go_upto_region 1 with fail
    go_wp2_with ((at_builtin
                  refine listApn (o := ⟨some 11, _, _, _, _, _⟩) rfl _ _ rfl rfl rfl (m := [2]) rfl ((ho.alloc _).alloc _) wnA (rb_one (v := 2) (by (repeat (first | exact new_plain wnA | with_reducible refine old_alloc ?_ | with_reducible refine old_drew ?_ | with_reducible refine old_set ?_ wnA | with_reducible refine old_ab (by assumption) ?_))) rfl) (Nat.le_refl _) (by simp; omega) ?_
                  intro A2 c2 w2 L2 hL2 h2
                  have V2 := V1.grw h2.g (fun e => absurd (hAlt _ e) (by omega))
                  have P2 : Apd lo w A w2 A2 c2 L2 := Apd.pre (by exact abA) h2
                  have hs2 := P2.g.size
                  have hA2 : ∀ g, A2.map (·.block) = some g → g ≠ w.heap.size := fun g e h0 => by
                    rcases h2.n g e with h1 | h1
                    · exact absurd (hAlt g h1) (by omega)
                    · simp at h1; omega
                  have q0 := V2.at 0 rfl
                  have q2 := V2.at 2 rfl
                  clear h2 V0 V1 V2))
    have hl2 : L2.length ≤ 1000000000 := by rw [hL2.out, List.length_append]; have := hln.out; simp; omega
    have hlo2 : lo ≤ w2.heap.size := by omega
    have AC := fun w' (hk' : Ab w2 w') => appendCode_any lo A2 L2 c2 s1.length w' (P2.o.keep hk') (Nat.le_trans hlo2 hk'.size) hsu.out hl2
    have r2 : RS w2 S A1 s1 := HBB.out.keep fun g hS' hl => P2.keep ho.low g (hS g hS') hl
    have hzw : w.heap.size < w2.heap.size := cell_lt q2
    refine wp_region_held_drew (by kernel_rfl) (S := fun w' => w'.cell? ⟨w.heap.size, 2, none⟩ = some (.slice A1 s1.length c1)) ?_ (fun hHeld => ?_)
    · exact cell_drew q2
    (refine rtA 0 ?_ ?_
     (try simp only [Act.put, stA, st0, st1]))
    (refine rtA 1 ?_ ?_
     (try simp only [Act.put, stA, st0, st1]))
    (refine rtA 2 ?_ ?_
     (try simp only [Act.put, stA, st0, st1]))
    (refine rtA 3 ?_ ?_
     (try simp only [Act.put, stA, st0, st1]))
    (refine rtA 4 ?_ ?_
     (try simp only [Act.put, stA, st0, st1]))
    (refine rtA 6 ?_ ?_
     (try simp only [Act.put, stA, st0, st1]))
    (refine rtA 7 ?_ ?_
     (try simp only [Act.put, stA, st0, st1]))
    refine r1A 5 (fun K hK => ?_)
    (go_simp
     (refine (AC _ abA).mono ?_; rintro e w4 ⟨A4, c4, L4, rfl, hL4, P4⟩)
     (try go_wp2_with fail)
     (refine hK.out _ _ ?_ (fun hHeld => ?_)
      · (try dsimp only); exact cell_keep q2 (fun hl => P4.g.block _ hl (fun e => hA2 _ e.symm rfl))
      clear hK K
      (try simp only [Act.put, stA, st0, st1])))
    have r4 : RS w4 S A1 s1 := (RS.ab r2 (by exact abA)).keep fun g hS' hl => P4.keep P2.o.low g (hS g hS') hl
    have hA4 : ∀ g, A4.map (·.block) = some g → g ≠ w.heap.size := fun g e h0 => by
      rcases P4.n g e with h1 | h1
      · exact hA2 g h1 h0
      · simp at h1; omega
    have q4 : w4.cell? ⟨w.heap.size, 2, none⟩ = some (.slice A1 s1.length c1) := cell_keep q2 (fun hl => P4.g.block _ hl (fun e => hA2 _ e.symm rfl))
    have P24 : Apd lo w A w4 A4 c4 L4 := P2.step (Apd.pre (by exact abA) P4)
    have hs4 := P24.g.size
    refine r1A 8 (fun K hK => ?_)
    (refine stepApn (by rfl) _ _ (by rfl) (by rfl) (by rfl) (m := s1) rfl P4.o (Nat.le_trans hlo hs4) r4.rb hsc (by rw [hL4.out, hL2.out, List.length_append, List.length_append]; have := hln.out; simp; omega) ?_; intro A5 c5 w5 L5 hL5 P5
     (refine hK.out _ _ ?_ (fun hHeld => ?_)
      · (try dsimp only); exact cell_keep q4 (fun hl => P5.g.block _ hl (fun e => hA4 _ e.symm rfl))
      clear hK K
      (try simp only [Act.put, stA, st0, st1])))
    refine r1A 9 (fun K hK => ?_)
    (go_simp
     (refine hK.out _ _ ?_ (fun hHeld => ?_)
      · (try dsimp only); exact cell_keep q4 (fun hl => P5.g.block _ hl (fun e => hA4 _ e.symm rfl))
      clear hK K
      (try simp only [Act.put, stA, st0, st1])))
    refine wpAnyH_done (by kernel_rfl) ?_ _
    go_wp2
    go_ret
    exact ⟨A5, c5, L5, rfl, Lib.hid (by rw [hL5.out, hL4.out, hL2.out, HE.out]; simp), P24.step P5⟩
  · obtain ⟨rfl, rfl, rfl, rfl⟩ := V.mk.inj he
    have HE : Hid (Codec.enc (d + 1) (VM.v ⟨3, 0, A1, [], c1, L1, l1, d1⟩) = 3 :: (Codec.code l1.length ++ pre d l1 l1.length)) := by
      show Codec.enc (d + 1) (.mk 3 0 [] l1) = _
      rw [enc_3, pre_all]
    have hln : Hid (l.length + 1 + (Codec.code l1.length).length + (pre d l1 l1.length).length ≤ 1000000000) := by
      have := hl; rw [HE.out] at this; unfold Hid; simp at this; omega
    have hlf : l1.length ≤ 1000000000 := by
      have := Codec.flat_ge l1 hel
      rw [← pre_all] at this; have := hln.out; omega
    have hpk : Hid (∀ k, k < l1.length → l.length + 1 + (Codec.code l1.length).length + (pre d l1 (k + 1)).length ≤ 1000000000) := by
      intro k hk
      have := pre_le d l1 (k + 1)
      rw [← pre_all] at this; have := hln.out; omega
    have hsu : Hid (l1.length < 18446744073709551616) := by unfold Hid; omega
    have hlu : (l1.length : Int) ≤ 1000000000 := by omega
    have HEL := Lib.hid hel
    have HVV := Lib.hid hV
    have HLL := Lib.hid hL
    clear he hk hl hL hx hn1 hn2 hB hkb hk1 hV hel hsc
    unfold VM.val VM.cells
    go_enter Try.func49, Try.ntmps49
    have hab : Ab w (w.alloc (.cells #[.int .u8 3, .int .i64 0, .slice A1 0 c1, .slice L1 l1.length d1] 58)) := abA
    have V0 : VB (w.alloc (.cells #[.int .u8 3, .int .i64 0, .slice A1 0 c1, .slice L1 l1.length d1] 58)) w.heap.size [.int .u8 3, .int .i64 0, .slice A1 0 c1, .slice L1 l1.length d1] := VB.box (xs := #[.int .u8 3, .int .i64 0, .slice A1 0 c1, .slice L1 l1.length d1]) (T := 58) (by (repeat (first | exact new_plain wnA | with_reducible refine old_alloc ?_ | with_reducible refine old_drew ?_ | with_reducible refine old_set ?_ wnA | with_reducible refine old_ab (by assumption) ?_)))
    have V1 := V0.ab (show Ab _ ((w.alloc (.cells #[.int .u8 3, .int .i64 0, .slice A1 0 c1, .slice L1 l1.length d1] 58)).alloc (.cells #[.int .u8 3] 5)) from abA)
    go_upto_region 1 with fail
    go_wp2_with ((at_builtin
                  refine listApn (o := ⟨some 11, _, _, _, _, _⟩) rfl _ _ rfl rfl rfl (m := [3]) rfl ((ho.alloc _).alloc _) wnA (rb_one (v := 3) (by (repeat (first | exact new_plain wnA | with_reducible refine old_alloc ?_ | with_reducible refine old_drew ?_ | with_reducible refine old_set ?_ wnA | with_reducible refine old_ab (by assumption) ?_))) rfl) (Nat.le_refl _) (by simp; omega) ?_
                  intro A2 c2 w2 L2 hL2 h2
                  have V2 := V1.grw h2.g (fun e => absurd (hAlt _ e) (by omega))
                  have P2 : Apd lo w A w2 A2 c2 L2 := Apd.pre (by exact abA) h2
                  have hs2 := P2.g.size
                  have hA2 : ∀ g, A2.map (·.block) = some g → g ≠ w.heap.size := fun g e h0 => by
                    rcases h2.n g e with h1 | h1
                    · exact absurd (hAlt g h1) (by omega)
                    · simp at h1; omega
                  have q0 := V2.at 0 rfl
                  have q3 := V2.at 3 rfl
                  clear h2 V0 V1 V2))
    have hl2 : L2.length ≤ 1000000000 := by rw [hL2.out, List.length_append]; have := hln.out; simp; omega
    have hlo2 : lo ≤ w2.heap.size := by omega
    refine (appendCode_any lo A2 L2 c2 l1.length _ P2.o hlo2 hsu.out hl2).mono ?_
    rintro e w4 ⟨A4, c4, L4, rfl, hL4, P4⟩
    have q34 : w4.cell? ⟨w.heap.size, 3, none⟩ = some (.slice L1 l1.length d1) := cell_keep q3 (fun hl => P4.g.block _ hl (fun e => hA2 _ e.symm rfl))
    have P24 : Apd lo w A w4 A4 c4 L4 := P2.step P4
    have H4 : Hid (L4 = l ++ 3 :: Codec.code l1.length) := by unfold Hid; rw [hL4.out, hL2.out]; simp
    clear P4 P2 hL4 hL2 hA2 q3 q0
    go_wp2
    go_loopw [0, 41] (fun s0 s41 w' => ∃ (k : Nat) (B : Option Addr) (cB : Nat) (L : List UInt8), k ≤ l1.length ∧ s41 = .int .i64 (k : Int) ∧ s0 = .slice B L.length cB ∧ Apd lo w A w' B cB L ∧ Hid (L = l ++ 3 :: (Codec.code l1.length ++ pre d l1 k))) (fun _ s41 _ => l1.length - (intOf s41).toNat)
    case atStart => exact ⟨0, A4, c4, L4, by omega, rfl, rfl, P24, Lib.hid (by rw [H4.out]; simp [pre])⟩
    case round =>
      obtain ⟨k, B, cB, L, hk, rfl, rfl, P, hL5⟩ := hrel
      rename World => w5
      by_cases hlt : k < l1.length
      · obtain ⟨pp, ⟨k3, n3, A3, s3, c3, L3, l3, d3⟩, rfl, hSp, yv, yl, p0, p1, p2, p3⟩ := HLL.out.at5 hlt
        have hkp : ∀ g, S g → g < w.heap.size → w5.heap[g]? = w.heap[g]? := fun g hS' hl => P.keep ho.low g (hS g hS') hl
        have hbp : ((pp.add (k * 4)).block) = pp.block := addr_add_block _ _
        have q0 := cell_keep p0 (fun hl => hkp _ (by rw [hbp]; exact hSp) hl)
        have q1 := cell_keep p1 (fun hl => hkp _ (by show S (pp.add (k * 4)).block; rw [hbp]; exact hSp) hl)
        have q2 := cell_keep p2 (fun hl => hkp _ (by show S (pp.add (k * 4)).block; rw [hbp]; exact hSp) hl)
        have q3 := cell_keep p3 (fun hl => hkp _ (by show S (pp.add (k * 4)).block; rw [hbp]; exact hSp) hl)
        have yl5 := yl.keep hkp
        have hki : (k : Int) < (l1.length : Int) := by omega
        have hpb := hpk.out k hlt
        have hpe : pre d l1 (k + 1) = pre d l1 k ++ Codec.enc d (VM.v ⟨k3, n3, A3, s3, c3, L3, l3, d3⟩) := by rw [pre_succ d l1 k hlt, yv]
        have HPE := Lib.hid hpe
        have hlen : L.length + (Codec.enc d (VM.v ⟨k3, n3, A3, s3, c3, L3, l3, d3⟩)).length ≤ 1000000000 := by
          rw [hpe, List.length_append] at hpb
          rw [hL5.out]; simp; have := hln.out; omega
        have hs5 := P.g.size
        have HC := fun w' (hk' : Ab w5 w') => HVV.out.out B L cB ⟨k3, n3, A3, s3, c3, L3, l3, d3⟩ w' (yl5.ab hk') hS (by rw [yv]; exact HEL.out _ (List.getElem_mem hlt)) (P.o.keep hk') (Nat.le_trans hlo (Nat.le_trans hs5 hk'.size)) hlen
        have HCC := Lib.hid HC
        clear p0 p1 p2 p3 yv yl hpb hpe HC hbp hlen
        dsimp only at q0 q1 q2 q3
        go_wp2_with fail
        have HC := HCC.out (w5.alloc (.cells #[.int .u8 (k3 : Int), .int .i64 n3, .slice A3 s3.length c3, .slice L3 l3.length d3] 58)) abA
        unfold VM.val VM.cells at HC
        with_reducible refine HC.mono ?_
        rintro e w6 ⟨A6, c6, L6, rfl, hL6, P6⟩
        clear HC
        go_wp2
        go_roundw
        case rel => exact ⟨k + 1, A6, c6, L6, by omega, by go_num, rfl, P.step (Apd.pre (by exact abA) P6), Lib.hid (by rw [hL6.out, hL5.out, HPE.out]; simp)⟩
        case measure => simp [intOf]; omega
      · obtain rfl : k = l1.length := by omega
        go_wp2
        go_ret
        exact ⟨B, cB, L, rfl, Lib.hid (by rw [hL5.out, HE.out]), P⟩
theorem appendValue_any : ∀ d, Av d := by
  intro d
  induction d with
  | zero => intro D S lo A l c x w hx hS hk; simp [Codec.kinds] at hk
  | succ d ih =>
    intro D S lo A l c x w hx hS hk ho hlo hl
    cases D with
    | zero => exact hx.elim
    | succ D => exact appendValue_1 d ih D S lo A l c x w hx hS hk ho hlo hl
end Go.Proofs.Ytjgijpfknhfnjaa
