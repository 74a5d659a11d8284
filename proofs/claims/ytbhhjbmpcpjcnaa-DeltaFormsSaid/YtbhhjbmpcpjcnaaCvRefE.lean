/- The reference of the codec: the bytes of values, walked. Own work. -/
import Derived.Test.YtbhhjbmpcpjcnaaCvRefD
import Derived.Test.YtbhhjbmpcpjcnaaCvFunJ
set_option linter.unusedVariables false
set_option linter.unusedSimpArgs false
namespace Go.Proofs.Ytbhhjbmpcpjcnaa
open Go.RowKit
open Codec (V)

theorem or_one {lo g : Nat} {w : World} {v : Int} {x : UInt8} (hb : lo ≤ g) (hg : w.heap[g]? = some (.cells #[.int .u8 v] 5 (0, 0))) (hv : v = (x.toNat : Int)) : OR 5 lo w (some ⟨g, 0, none⟩) 1 [x] := by
  subst hv
  exact ⟨by simp, .inr ⟨g, 1, #[.int .u8 (x.toNat : Int)], rfl, hb, hg, Nat.le_refl _, by unfold maxLen; omega, rfl, rfl⟩⟩
/-- The bytes of a value, or more than 3,000 of them. -/
def Rb (d : Nat) : Prop := ∀ (D : Nat) (S : Nat → Prop) (x : VM) (w : World), VL D w S x → Codec.kinds d x.v = true → (Codec.enc d x.v).length ≤ 1000000000 →
    Calls Try.prog 58 #[x.val] w fun e w' => ∃ A c L, e = .returned (.slice A L.length c) ∧ Hid (L <+: Codec.enc d x.v ∧ (L = Codec.enc d x.v ∨ 3000 < L.length)) ∧ OR 5 w.heap.size w' A c L ∧ Ab w w'
theorem Rb.out {d : Nat} (h : Rb d) {D : Nat} {S : Nat → Prop} (x : VM) (w : World) (hx : VL D w S x) (hk : Codec.kinds d x.v = true) (hl : (Codec.enc d x.v).length ≤ 1000000000) :
    Calls Try.prog 58 #[x.val] w fun e w' => ∃ A c L, e = .returned (.slice A L.length c) ∧ Hid (L <+: Codec.enc d x.v ∧ (L = Codec.enc d x.v ∨ 3000 < L.length)) ∧ OR 5 w.heap.size w' A c L ∧ Ab w w' := h D S x w hx hk hl
set_option maxRecDepth 100000 in
set_option maxHeartbeats 4000000 in
theorem rbytes_1 (d : Nat) (hV : Rb d) (D : Nat) (S : Nat → Prop) (x : VM) (w : World) (hx : VL (D + 1) w S x) (hk : Codec.kinds (d + 1) x.v = true) (hl : (Codec.enc (d + 1) x.v).length ≤ 1000000000) :
    Calls Try.prog 58 #[x.val] w fun e w' => ∃ A c L, e = .returned (.slice A L.length c) ∧ Hid (L <+: Codec.enc (d + 1) x.v ∧ (L = Codec.enc (d + 1) x.v ∨ 3000 < L.length)) ∧ OR 5 w.heap.size w' A c L ∧ Ab w w' := by
  obtain ⟨k1, n1, A1, s1, c1, L1, l1, d1⟩ := x
  have hn1 : -9223372036854775808 ≤ n1 := hx.1.2.1
  have hn2 : n1 ≤ 9223372036854775807 := hx.1.2.2.1
  have hsc : s1.length ≤ c1 := hx.1.2.2.2.1
  have hL := hx.els
  have hB := hx.bytes
  rcases Codec.kinds_cases hk with ⟨n, he⟩ | ⟨b, he⟩ | ⟨ls, he, hel⟩
  · obtain ⟨rfl, rfl, rfl, rfl⟩ := V.mk.inj he
    have HE : Hid (Codec.enc (d + 1) (VM.v ⟨1, n1, A1, [], c1, L1, [], d1⟩) = 1 :: Codec.code (Codec.fold n1)) := Lib.hid enc_1
    have hf := Codec.fold_lt hn1 hn2
    have HF := Lib.hid hf
    have HB := Lib.hid (And.intro hn1 hn2)
    clear he hk hl hL hx hf hn1 hn2 hB hsc hV
    unfold VM.val VM.cells
    go_enter Try.func58, Try.ntmps58
    have V0 : VB (w.alloc (.cells #[.int .u8 1, .int .i64 n1, .slice A1 0 c1, .slice L1 0 d1] 58)) w.heap.size [.int .u8 1, .int .i64 n1, .slice A1 0 c1, .slice L1 0 d1] := VB.box (xs := #[.int .u8 1, .int .i64 n1, .slice A1 0 c1, .slice L1 0 d1]) (T := 58) (by (repeat (first | exact new_plain wnA | with_reducible refine old_alloc ?_ | with_reducible refine old_drew ?_ | with_reducible refine old_set ?_ wnA | with_reducible refine old_ab (by assumption) ?_)))
    have hab : Ab w ((w.alloc (.cells #[.int .u8 1, .int .i64 n1, .slice A1 0 c1, .slice L1 0 d1] 58)).alloc (.cells #[.int .u8 1] 5)) := abA
    have V1 := V0.ab (show Ab _ ((w.alloc (.cells #[.int .u8 1, .int .i64 n1, .slice A1 0 c1, .slice L1 0 d1] 58)).alloc (.cells #[.int .u8 1] 5)) from abA)
    have O1 : OR 5 (w.heap.size + 1) ((w.alloc (.cells #[.int .u8 1, .int .i64 n1, .slice A1 0 c1, .slice L1 0 d1] 58)).alloc (.cells #[.int .u8 1] 5)) (some ⟨w.heap.size + 1, 0, none⟩) 1 [1] := or_one (v := 1) (Nat.le_refl _) (by (repeat (first | exact new_plain wnA | with_reducible refine old_alloc ?_ | with_reducible refine old_drew ?_ | with_reducible refine old_set ?_ wnA | with_reducible refine old_ab (by assumption) ?_))) rfl
    have hsz : ((w.alloc (.cells #[.int .u8 1, .int .i64 n1, .slice A1 0 c1, .slice L1 0 d1] 58)).alloc (.cells #[.int .u8 1] 5)).heap.size = w.heap.size + 2 := by simp
    go_upto_region 2 with fail
    generalize ((w.alloc (.cells #[.int .u8 1, .int .i64 n1, .slice A1 0 c1, .slice L1 0 d1] 58)).alloc (.cells #[.int .u8 1] 5)) = w1 at *
    have q0 := V1.at 0 rfl
    have q1 := V1.at 1 rfl
    have q2 := V1.at 2 rfl
    have q3 := V1.at 3 rfl
    clear V0 V1
    go_wp2_with fail
    refine (rfold_any n1 _ HB.out.1 HB.out.2).mono ?_
    rintro e w3 ⟨rfl, rfl⟩
    generalize Codec.fold n1 = F at *
    go_wp2_with fail
    refine (rcode_any F _ HF.out).mono ?_
    rintro e w4 ⟨A4, c4, L4, rfl, hL4, O4, hb4⟩
    have hs4 := hb4.size
    have hl4 : L4.length ≤ 10 := by rw [hL4.out]; exact code_10 HF.out
    go_wp2_with ((at_builtin
                  refine listApn rfl _ _ rfl rfl rfl (m := L4) rfl (O1.keep hb4) (by omega) O4.rb O4.le (by simp; omega) ?_
                  intro A5 c5 w5 L5 hL5 h5))
    go_ret
    have e5 : L5 = 1 :: Codec.code F := by rw [hL5.out, hL4.out]; rfl
    exact ⟨A5, c5, L5, rfl, Lib.hid ⟨by rw [HE.out, e5]; exact List.prefix_rfl, .inl (by rw [HE.out, e5])⟩, h5.o.mono (by omega), grown_ab (hab.trans hb4) h5.g (fun g e => by have := (O1.keep hb4).low g e; omega)⟩
  · obtain ⟨rfl, rfl, rfl, rfl⟩ := V.mk.inj he
    have HE : Hid (Codec.enc (d + 1) (VM.v ⟨2, 0, A1, s1, c1, L1, [], d1⟩) = 2 :: (Codec.code s1.length ++ s1)) := Lib.hid enc_2
    have hsn : s1.length ≤ 1000000000 := by rw [HE.out] at hl; simp at hl; omega
    have hsl : (s1.length : Int) ≤ 1000000000 := by omega
    have hsu : Hid (s1.length < 18446744073709551616) := by unfold Hid; omega
    have HBB := Lib.hid hB
    have j1 : IntKind.u64.wrap (s1.length : Int) = (s1.length : Int) := wrapu _ (by omega) (by omega)
    clear he hk hl hL hx hn1 hn2 hB hV
    unfold VM.val VM.cells
    go_enter Try.func58, Try.ntmps58
    have V0 : VB (w.alloc (.cells #[.int .u8 2, .int .i64 0, .slice A1 s1.length c1, .slice L1 0 d1] 58)) w.heap.size [.int .u8 2, .int .i64 0, .slice A1 s1.length c1, .slice L1 0 d1] := VB.box (xs := #[.int .u8 2, .int .i64 0, .slice A1 s1.length c1, .slice L1 0 d1]) (T := 58) (by (repeat (first | exact new_plain wnA | with_reducible refine old_alloc ?_ | with_reducible refine old_drew ?_ | with_reducible refine old_set ?_ wnA | with_reducible refine old_ab (by assumption) ?_)))
    have hab : Ab w ((w.alloc (.cells #[.int .u8 2, .int .i64 0, .slice A1 s1.length c1, .slice L1 0 d1] 58)).alloc (.cells #[.int .u8 2] 5)) := abA
    have V1 := V0.ab (show Ab _ ((w.alloc (.cells #[.int .u8 2, .int .i64 0, .slice A1 s1.length c1, .slice L1 0 d1] 58)).alloc (.cells #[.int .u8 2] 5)) from abA)
    have O1 : OR 5 (w.heap.size + 1) ((w.alloc (.cells #[.int .u8 2, .int .i64 0, .slice A1 s1.length c1, .slice L1 0 d1] 58)).alloc (.cells #[.int .u8 2] 5)) (some ⟨w.heap.size + 1, 0, none⟩) 1 [2] := or_one (v := 2) (Nat.le_refl _) (by (repeat (first | exact new_plain wnA | with_reducible refine old_alloc ?_ | with_reducible refine old_drew ?_ | with_reducible refine old_set ?_ wnA | with_reducible refine old_ab (by assumption) ?_))) rfl
    have hsz : ((w.alloc (.cells #[.int .u8 2, .int .i64 0, .slice A1 s1.length c1, .slice L1 0 d1] 58)).alloc (.cells #[.int .u8 2] 5)).heap.size = w.heap.size + 2 := by simp
    go_upto_region 2 with fail
    generalize ((w.alloc (.cells #[.int .u8 2, .int .i64 0, .slice A1 s1.length c1, .slice L1 0 d1] 58)).alloc (.cells #[.int .u8 2] 5)) = w1 at *
    have q0 := V1.at 0 rfl
    have q1 := V1.at 1 rfl
    have q2 := V1.at 2 rfl
    have q3 := V1.at 3 rfl
    clear V0 V1
    have CC := fun w' => rcode_any s1.length w' hsu.out
    go_upto_region 6 with fail
    refine wp_region_held_drew (by kernel_rfl) (S := fun w' => w'.cell? ⟨w.heap.size, 2, none⟩ = some (.slice A1 s1.length c1)) ?_ (fun hHeld => ?_)
    · exact cell_drew q2
    (refine rtA 0 ?_ ?_
     (try simp only [Act.put, stA, st0, st1]))
    (refine rtA 1 ?_ ?_
     (try simp only [Act.put, stA, st0, st1]))
    (refine rtA 2 ?_ ?_
     (try simp only [Act.put, stA, st0, st1]))
    (refine rtA 3 ?_ ?_
     (try simp only [Act.put, stA, st0, st1]))
    (refine rtA 4 ?_ ?_
     (try simp only [Act.put, stA, st0, st1]))
    (refine rtA 7 ?_ ?_
     (try simp only [Act.put, stA, st0, st1]))
    (refine rtA 8 ?_ ?_
     (try simp only [Act.put, stA, st0, st1]))
    refine r1A 5 (fun K hK => ?_)
    (go_simp
     (refine (CC _).mono ?_; rintro e w4 ⟨A4, c4, L4, rfl, hL4, O4, hb4⟩)
     (try go_wp2_with fail)
     (refine hK.out _ _ ?_ (fun hHeld => ?_)
      · (try dsimp only); exact hb4.at (cell_drew q2)
      clear hK K
      (try simp only [Act.put, stA, st0, st1])))
    have b14 : Ab w1 w4 := Ab.trans (by exact abA) hb4
    have hs4 := b14.size
    have hl4 : L4.length ≤ 10 := by rw [hL4.out]; exact code_10 hsu.out
    refine r1A 6 (fun K hK => ?_)
    (refine stepApn (by rfl) _ _ (by rfl) (by rfl) (by rfl) (m := L4) rfl (O1.keep b14) (by omega) O4.rb O4.le (by simp; omega) ?_; intro A5 c5 w5 L5 hL5 h5
     (refine hK.out _ _ ?_ (fun hHeld => ?_)
      · (try dsimp only); exact cell_keep (b14.at q2) (fun hl => h5.g.block _ hl (fun e => by have := (O1.keep b14).low _ e.symm; simp at this; omega))
      clear hK K
      (try simp only [Act.put, stA, st0, st1])))
    have b5 : Ab w w5 := grown_ab (hab.trans b14) h5.g (fun g e => by have := (O1.keep b14).low g e; omega)
    have hs5 := b5.size
    have hl5 : L5.length ≤ 11 := by rw [hL5.out, List.length_append]; simp; omega
    have hz5 := h5.g.size
    refine r1A 9 (fun K hK => ?_)
    (refine stepApn (by rfl) _ _ (by rfl) (by rfl) (by rfl) (m := s1) rfl h5.o (by omega) (RS.ab HBB.out b5).rb hsc (by omega) ?_; intro A6 c6 w6 L6 hL6 h6
     (refine hK.out _ _ ?_ (fun hHeld => ?_)
      · (try dsimp only); exact cell_keep (cell_keep (b14.at q2) (fun hl => h5.g.block _ hl (fun e => by have := (O1.keep b14).low _ e.symm; simp at this; omega))) (fun hl => h6.g.block _ hl (fun e => by have := h5.o.low _ e.symm; simp at this; omega))
      clear hK K
      (try simp only [Act.put, stA, st0, st1])))
    refine r1A 10 (fun K hK => ?_)
    (go_simp
     (refine hK.out _ _ ?_ (fun hHeld => ?_)
      · (try dsimp only); exact cell_keep (cell_keep (b14.at q2) (fun hl => h5.g.block _ hl (fun e => by have := (O1.keep b14).low _ e.symm; simp at this; omega))) (fun hl => h6.g.block _ hl (fun e => by have := h5.o.low _ e.symm; simp at this; omega))
      clear hK K
      (try simp only [Act.put, stA, st0, st1])))
    refine wpAnyH_done (by kernel_rfl) ?_ _
    go_wp2
    go_ret
    have e6 : L6 = 2 :: (Codec.code s1.length ++ s1) := by rw [hL6.out, hL5.out, hL4.out]; simp
    exact ⟨A6, c6, L6, rfl, Lib.hid ⟨by rw [HE.out, e6]; exact List.prefix_rfl, .inl (by rw [HE.out, e6])⟩, h6.o.mono (by omega), grown_ab b5 h6.g (fun g e => by have := h5.o.low g e; omega)⟩
  · obtain ⟨rfl, rfl, rfl, rfl⟩ := V.mk.inj he
    have HE : Hid (Codec.enc (d + 1) (VM.v ⟨3, 0, A1, [], c1, L1, l1, d1⟩) = 3 :: (Codec.code l1.length ++ pre d l1 l1.length)) := by
      show Codec.enc (d + 1) (.mk 3 0 [] l1) = _
      rw [enc_3, pre_all]
    have hln : Hid ((3 :: (Codec.code l1.length ++ pre d l1 l1.length)).length ≤ 1000000000) := by
      have := hl; rw [HE.out] at this; exact this
    have hlf : l1.length ≤ 1000000000 := by
      have := Codec.flat_ge l1 hel
      rw [← pre_all] at this; have h2 := hln.out; simp at h2; omega
    have hpk : Hid (∀ k, k < l1.length → 1 + (Codec.code l1.length).length + (pre d l1 (k + 1)).length ≤ 1000000000) := by
      intro k hk
      have := pre_le d l1 (k + 1)
      rw [← pre_all] at this; have h2 := hln.out; simp at h2; omega
    have hsu : Hid (l1.length < 18446744073709551616) := by unfold Hid; omega
    have hlu : (l1.length : Int) ≤ 1000000000 := by omega
    have HEL := Lib.hid hel
    have HVV := Lib.hid hV
    have HLL := Lib.hid hL
    clear he hk hl hL hx hn1 hn2 hB hV hel hsc
    unfold VM.val VM.cells
    go_enter Try.func58, Try.ntmps58
    have V0 : VB (w.alloc (.cells #[.int .u8 3, .int .i64 0, .slice A1 0 c1, .slice L1 l1.length d1] 58)) w.heap.size [.int .u8 3, .int .i64 0, .slice A1 0 c1, .slice L1 l1.length d1] := VB.box (xs := #[.int .u8 3, .int .i64 0, .slice A1 0 c1, .slice L1 l1.length d1]) (T := 58) (by (repeat (first | exact new_plain wnA | with_reducible refine old_alloc ?_ | with_reducible refine old_drew ?_ | with_reducible refine old_set ?_ wnA | with_reducible refine old_ab (by assumption) ?_)))
    have hab : Ab w ((w.alloc (.cells #[.int .u8 3, .int .i64 0, .slice A1 0 c1, .slice L1 l1.length d1] 58)).alloc (.cells #[.int .u8 3] 5)) := abA
    have V1 := V0.ab (show Ab _ ((w.alloc (.cells #[.int .u8 3, .int .i64 0, .slice A1 0 c1, .slice L1 l1.length d1] 58)).alloc (.cells #[.int .u8 3] 5)) from abA)
    have O1 : OR 5 (w.heap.size + 1) ((w.alloc (.cells #[.int .u8 3, .int .i64 0, .slice A1 0 c1, .slice L1 l1.length d1] 58)).alloc (.cells #[.int .u8 3] 5)) (some ⟨w.heap.size + 1, 0, none⟩) 1 [3] := or_one (v := 3) (Nat.le_refl _) (by (repeat (first | exact new_plain wnA | with_reducible refine old_alloc ?_ | with_reducible refine old_drew ?_ | with_reducible refine old_set ?_ wnA | with_reducible refine old_ab (by assumption) ?_))) rfl
    have hsz : ((w.alloc (.cells #[.int .u8 3, .int .i64 0, .slice A1 0 c1, .slice L1 l1.length d1] 58)).alloc (.cells #[.int .u8 3] 5)).heap.size = w.heap.size + 2 := by simp
    go_upto_region 2 with fail
    generalize ((w.alloc (.cells #[.int .u8 3, .int .i64 0, .slice A1 0 c1, .slice L1 l1.length d1] 58)).alloc (.cells #[.int .u8 3] 5)) = w1 at *
    have q0 := V1.at 0 rfl
    have q1 := V1.at 1 rfl
    have q2 := V1.at 2 rfl
    have q3 := V1.at 3 rfl
    clear V0 V1
    go_wp2_with fail
    refine (rcode_any l1.length _ hsu.out).mono ?_
    rintro e w4 ⟨A4, c4, L4, rfl, hL4, O4, hb4⟩
    have hs4 := hb4.size
    have hl4 : L4.length ≤ 10 := by rw [hL4.out]; exact code_10 hsu.out
    go_upto_region 8 with ((at_builtin
                            refine listApn rfl _ _ rfl rfl rfl (m := L4) rfl (O1.keep hb4) (by omega) O4.rb O4.le (by simp; omega) ?_
                            intro A5 c5 w5 L5 hL5 h5))
    have b5 : Ab w w5 := grown_ab (hab.trans hb4) h5.g (fun g e => by have := (O1.keep hb4).low g e; omega)
    have q5 : w5.cell? ⟨w.heap.size, 3, none⟩ = some (.slice L1 l1.length d1) := cell_keep (hb4.at q3) (fun hl => h5.g.block _ hl (fun e => by have := (O1.keep hb4).low _ e.symm; simp at this; omega))
    have H5 : Hid (L5 = 3 :: Codec.code l1.length) := by unfold Hid; rw [hL5.out, hL4.out]; rfl
    have O5 := h5.o
    clear h5 hL5 hL4 O4 hb4 O1 hab q0 q1 q2 q3 hsz hs4 hl4
    go_wp2
    go_loopw [3, 4] (fun s3 s4 w' => ∃ (k : Nat) (B : Option Addr) (cB : Nat) (L : List UInt8), k ≤ l1.length ∧ s4 = .int .i64 (k : Int) ∧ s3 = .slice B L.length cB ∧ OR 5 (w.heap.size + 1) w' B cB L ∧ Ab w w' ∧ w'.cell? ⟨w.heap.size, 3, none⟩ = some (.slice L1 l1.length d1) ∧ Hid (L <+: 3 :: (Codec.code l1.length ++ pre d l1 k)) ∧ Hid (L = 3 :: (Codec.code l1.length ++ pre d l1 k) ∨ 3000 < L.length)) (fun _ s4 _ => l1.length - (intOf s4).toNat)
    case atStart => exact ⟨0, A5, c5, L5, by omega, rfl, rfl, O5, b5, q5, Lib.hid (by rw [H5.out]; simp [pre]), Lib.hid (.inl (by rw [H5.out]; simp [pre]))⟩
    case round =>
      clear O5 b5 q5 H5
      obtain ⟨k, B, cB, L, hk, rfl, rfl, O, hb, qb, hpre, hex⟩ := hrel
      rename World => w6
      have hpf : Hid (3 :: (Codec.code l1.length ++ pre d l1 k) <+: 3 :: (Codec.code l1.length ++ pre d l1 l1.length)) := by
        unfold Hid
        rw [List.cons_prefix_cons]
        refine ⟨rfl, (List.prefix_append_right_inj _).2 ?_⟩
        exact ⟨((l1.drop k).map (Codec.enc d)).flatten, by rw [pre_all]; unfold pre; rw [← List.flatten_append, ← List.map_append, List.take_append_drop]⟩
      have hLl : L.length ≤ 1000000000 := by
        have h1 := hpre.out.length_le
        have h2 := hpf.out.length_le
        have h3 := hln.out
        simp at h1 h2
        simp at h3
        omega
      have hs6 := hb.size
      have hzw : w.heap.size < w6.heap.size := cell_lt qb
      by_cases hbig : 3000 < L.length
      · have hb' : ¬ (L.length : Int) ≤ 3000 := by omega
        have HBG := Lib.hid hbig
        clear hbig
        by_cases hki : (k : Int) < (l1.length : Int)
        all_goals
          go_wp2
          go_ret
          exact ⟨B, cB, L, rfl, Lib.hid ⟨by rw [HE.out]; exact hpre.out.trans hpf.out, .inr HBG.out⟩, O.mono (by omega), hb⟩
      · have hb' : (L.length : Int) ≤ 3000 := by omega
        have hLe : Hid (L = 3 :: (Codec.code l1.length ++ pre d l1 k)) := by
          rcases hex.out with h | h
          · exact h
          · exact absurd h hbig
        clear hbig hex
        by_cases hlt : k < l1.length
        · obtain ⟨pp, ⟨k3, n3, A3, s3, c3, L3, l3, d3⟩, rfl, hSp, yv, yl, p0, p1, p2, p3⟩ := HLL.out.at5 hlt
          have q0 := hb.at p0
          have q1 := hb.at p1
          have q2 := hb.at p2
          have q3 := hb.at p3
          have hki : (k : Int) < (l1.length : Int) := by omega
          have hpb := hpk.out k hlt
          have hpe : pre d l1 (k + 1) = pre d l1 k ++ Codec.enc d (VM.v ⟨k3, n3, A3, s3, c3, L3, l3, d3⟩) := by rw [pre_succ d l1 k hlt, yv]
          have HPE := Lib.hid hpe
          have hlen : L.length + (Codec.enc d (VM.v ⟨k3, n3, A3, s3, c3, L3, l3, d3⟩)).length ≤ 1000000000 := by
            rw [hpe, List.length_append] at hpb
            rw [hLe.out]; simp; omega
          have HC := HVV.out.out ⟨k3, n3, A3, s3, c3, L3, l3, d3⟩ w6 (yl.ab hb) (by rw [yv]; exact HEL.out _ (List.getElem_mem hlt)) (by omega)
          have HLEN := Lib.hid hlen
          clear p0 p1 p2 p3 yv yl hpb hpe hlen
          dsimp only at q0 q1 q2 q3
          unfold VM.val VM.cells at HC
          go_wp2_with fail
          with_reducible refine HC.mono ?_
          rintro e w7 ⟨A7, c7, L7, rfl, hL7, O7, hb7⟩
          clear HC
          have hs7 := hb7.size
          have hl7 : L.length + L7.length ≤ 1000000000 := by have h1 := hL7.out.1.length_le; have h2 := HLEN.out; omega
          go_wp2_with ((at_builtin
                        refine listApn rfl _ _ rfl rfl rfl (m := L7) rfl (O.keep hb7) (by omega) O7.rb O7.le (by omega) ?_
                        intro A8 c8 w8 L8 hL8 h8))
          have q8 : w8.cell? ⟨w.heap.size, 3, none⟩ = some (.slice (some pp) l1.length d1) := cell_keep (hb7.at qb) (fun hl => h8.g.block _ hl (fun e => by have := (O.keep hb7).low _ e.symm; simp at this; omega))
          have ab8 : Ab w w8 := grown_ab (hb.trans hb7) h8.g (fun g e => by have := (O.keep hb7).low g e; omega)
          have e8 : L8 = 3 :: (Codec.code l1.length ++ pre d l1 k) ++ L7 := by rw [hL8.out, hLe.out]
          have t8 : 3 :: (Codec.code l1.length ++ pre d l1 (k + 1)) = 3 :: (Codec.code l1.length ++ pre d l1 k) ++ Codec.enc d (VM.v ⟨k3, n3, A3, s3, c3, L3, l3, d3⟩) := by rw [HPE.out]; simp
          have E8 := Lib.hid e8
          have T8 := Lib.hid t8
          clear e8 t8
          go_roundw
          case rel =>
            refine ⟨k + 1, A8, c8, L8, by omega, by go_num, rfl, h8.o, ab8, q8, Lib.hid ?_, Lib.hid ?_⟩
            · rw [E8.out, T8.out]; exact (List.prefix_append_right_inj _).2 hL7.out.1
            · rcases hL7.out.2 with h | h
              · exact .inl (by rw [E8.out, T8.out, h])
              · exact .inr (by rw [E8.out, List.length_append]; omega)
          case measure => simp [intOf]; omega
        · obtain rfl : k = l1.length := by omega
          go_wp2
          go_ret
          exact ⟨B, cB, L, rfl, Lib.hid ⟨by rw [HE.out]; exact hpre.out, .inl (by rw [HE.out]; exact hLe.out)⟩, O.mono (by omega), hb⟩
theorem rbytes_any : ∀ d, Rb d := by
  intro d
  induction d with
  | zero => intro D S x w hx hk; simp [Codec.kinds] at hk
  | succ d ih =>
    intro D S x w hx hk hl
    cases D with
    | zero => exact hx.elim
    | succ D => exact rbytes_1 d ih D S x w hx hk hl
end Go.Proofs.Ytbhhjbmpcpjcnaa
