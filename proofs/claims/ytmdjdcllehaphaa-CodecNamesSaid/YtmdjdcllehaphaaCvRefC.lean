/- The reference of the codec: Next, Decode; values compared, walked. Own work. -/
import Derived.Test.YtmdjdcllehaphaaCvRefB
import Derived.Test.YtmdjdcllehaphaaCodecS
import Derived.Test.YtmdjdcllehaphaaCvTry
set_option linter.unusedVariables false
set_option linter.unusedSimpArgs false
namespace Go.Proofs.Ytmdjdcllehaphaa
open Go.RowKit
open Codec (V)

theorem VL.dep : ∀ {d : Nat} {w : World} {S : Nat → Prop} {x : VM}, VL d w S x → Codec.dep d x.v := by
  intro d
  induction d with
  | zero => intro w S x h; exact h.elim
  | succ d ih =>
    intro w S x h e he
    obtain ⟨i, hi, rfl⟩ := List.mem_iff_getElem.1 he
    obtain ⟨g, o, _, _, h3⟩ := h.2.2 (by show 0 < x.l.length; have : i < x.l.length := hi; omega)
    obtain ⟨y, y1, _, y3⟩ := h3 i hi
    have := ih y3
    rw [y1] at this
    exact this
/-- An element's four cells, as the walk reads them. -/
theorem VLs.at_ {d : Nat} {w : World} {S : Nat → Prop} {L : Option Addr} {l : List V} (h : VLs d w S L l) {k : Nat} (hk : k < l.length) : ∃ (a : Addr) (y : VM), L = some a ∧ y.v = l[k] ∧ VL d w S y ∧
    w.cell? (a.add (k * 4)) = some (.int .u8 (y.kind : Int)) ∧ w.cell? ⟨(a.add (k * 4)).block, (a.add (k * 4)).off + 1, none⟩ = some (.int .i64 y.num) ∧
    w.cell? ⟨(a.add (k * 4)).block, (a.add (k * 4)).off + 2, none⟩ = some (.slice y.A y.b.length y.c) ∧ w.cell? ⟨(a.add (k * 4)).block, (a.add (k * 4)).off + 3, none⟩ = some (.slice y.L y.l.length y.d) := by
  obtain ⟨g, o, h1, h2, h3⟩ := h (by omega)
  obtain ⟨y, y1, y2, y3⟩ := h3 k hk
  have e : (⟨g, o, none⟩ : Addr).add (k * 4) = ⟨g, o + k * 4, none⟩ := by
    unfold Addr.add
    split
    · rename_i h0; rw [h0]; rfl
    · rfl
  refine ⟨⟨g, o, none⟩, y, h1, y1, y3, ?_, ?_, ?_, ?_⟩
  · rw [e]; exact y2 0 _ rfl
  · rw [e]; exact y2 1 _ rfl
  · rw [e]; exact y2 2 _ rfl
  · rw [e]; exact y2 3 _ rfl
set_option maxRecDepth 100000 in
set_option maxHeartbeats 4000000 in
theorem same_of (d : Nat) (hV : ∀ (S S' : Nat → Prop) (x y : VM) (w : World), VL d w S x → VL d w S' y → Calls Try.prog 18 #[x.val, y.val] w fun e w' => e = .returned (.bool (Codec.same d x.v y.v)) ∧ Ab w w')
    (S S' : Nat → Prop) (x y : VM) (w : World) (hx : VL (d + 1) w S x) (hy : VL (d + 1) w S' y) : Calls Try.prog 18 #[x.val, y.val] w fun e w' => e = .returned (.bool (Codec.same (d + 1) x.v y.v)) ∧ Ab w w' := by
  obtain ⟨k1, n1, A1, s1, c1, L1, l1, d1⟩ := x
  obtain ⟨k2, n2, A2, s2, c2, L2, l2, d2⟩ := y
  have hsx := hx.bytes.rb
  have hsy := hy.bytes.rb
  have lx : s1.length ≤ 9223372036854775807 := hx.1.2.2.2.2.1
  have ly : s2.length ≤ 9223372036854775807 := hy.1.2.2.2.2.1
  have ml1 : l1.length ≤ 9223372036854775807 := hx.1.2.2.2.2.2.2
  have ml2 : l2.length ≤ 9223372036854775807 := hy.1.2.2.2.2.2.2
  have ex := hx.els
  have ey := hy.els
  have HS : Hid (Codec.same (d + 1) (VM.v ⟨k1, n1, A1, s1, c1, L1, l1, d1⟩) (VM.v ⟨k2, n2, A2, s2, c2, L2, l2, d2⟩) = (k1 == k2 && (n1 == n2 && (s1 == s2 && (l1.length == l2.length && (l1.zip l2).all fun p => Codec.same d p.1 p.2))))) := Lib.hid rfl
  have HVV := Lib.hid hV
  clear hV hx hy
  go_enter Try.func18, Try.ntmps18
  have hab : Ab w ((w.alloc (.cells #[.int .u8 (k1 : Int), .int .i64 n1, .slice A1 s1.length c1, .slice L1 l1.length d1] 26)).alloc (.cells #[.int .u8 (k2 : Int), .int .i64 n2, .slice A2 s2.length c2, .slice L2 l2.length d2] 26)) := abA
  have V1 : VB ((w.alloc (.cells #[.int .u8 (k1 : Int), .int .i64 n1, .slice A1 s1.length c1, .slice L1 l1.length d1] 26)).alloc (.cells #[.int .u8 (k2 : Int), .int .i64 n2, .slice A2 s2.length c2, .slice L2 l2.length d2] 26)) w.heap.size [.int .u8 (k1 : Int), .int .i64 n1, .slice A1 s1.length c1, .slice L1 l1.length d1] := VB.box (xs := #[.int .u8 (k1 : Int), .int .i64 n1, .slice A1 s1.length c1, .slice L1 l1.length d1]) (T := 26) (by (repeat (first | exact new_plain wnA | with_reducible refine old_alloc ?_ | with_reducible refine old_drew ?_ | with_reducible refine old_set ?_ wnA | with_reducible refine old_ab (by assumption) ?_)))
  have V2 : VB ((w.alloc (.cells #[.int .u8 (k1 : Int), .int .i64 n1, .slice A1 s1.length c1, .slice L1 l1.length d1] 26)).alloc (.cells #[.int .u8 (k2 : Int), .int .i64 n2, .slice A2 s2.length c2, .slice L2 l2.length d2] 26)) (w.heap.size + 1) [.int .u8 (k2 : Int), .int .i64 n2, .slice A2 s2.length c2, .slice L2 l2.length d2] := VB.box (xs := #[.int .u8 (k2 : Int), .int .i64 n2, .slice A2 s2.length c2, .slice L2 l2.length d2]) (T := 26) (by (repeat (first | exact new_plain wnA | with_reducible refine old_alloc ?_ | with_reducible refine old_drew ?_ | with_reducible refine old_set ?_ wnA | with_reducible refine old_ab (by assumption) ?_)))
  unfold VM.val VM.cells
  go_upto_region 1 with fail
  generalize ((w.alloc (.cells #[.int .u8 (k1 : Int), .int .i64 n1, .slice A1 s1.length c1, .slice L1 l1.length d1] 26)).alloc (.cells #[.int .u8 (k2 : Int), .int .i64 n2, .slice A2 s2.length c2, .slice L2 l2.length d2] 26)) = w0 at *
  generalize w.heap.size = b1 at *
  generalize b1 + 1 = b2 at *
  have a0 := V1.at 0 rfl
  have a1 := V1.at 1 rfl
  have a2 := V1.at 2 rfl
  have a3 := V1.at 3 rfl
  have e0 := V2.at 0 rfl
  have e1 := V2.at 1 rfl
  have e2 := V2.at 2 rfl
  have e3 := V2.at 3 rfl
  have SB : ∀ w', Ab w0 w' → Calls Try.prog 17 #[.slice A1 s1.length c1, .slice A2 s2.length c2] w' (fun e w2 => e = .returned (.bool (s1 == s2)) ∧ ∃ n, w2 = w'.drewN n) := fun w' hk => sameBytes_all A1 A2 c1 c2 s1 s2 w' (RB.ab (RB.ab hsx hab) hk) (RB.ab (RB.ab hsy hab) hk) lx ly
  replace ex := VLs.keep ex (fun g _ hg => hab.out.block g hg)
  replace ey := VLs.keep ey (fun g _ hg => hab.out.block g hg)
  have EX := Lib.hid ex
  have EY := Lib.hid ey
  clear ex ey hsx hsy V1 V2 lx ly
  by_cases hk : k1 = k2
  · by_cases hn : n1 = n2
    · by_cases hb : (s1 == s2) = true
      · by_cases hl : l1.length = l2.length
        · have hk' : ((k1 : Int) != (k2 : Int)) = false := by rw [bne_eq_false_iff_eq]; omega
          have hn' : (n1 != n2) = false := by rw [bne_eq_false_iff_eq]; exact hn
          have hl' : ((l1.length : Int) != (l2.length : Int)) = false := by rw [bne_eq_false_iff_eq]; omega
          have HS2 : Hid (Codec.same (d + 1) (VM.v ⟨k1, n1, A1, s1, c1, L1, l1, d1⟩) (VM.v ⟨k2, n2, A2, s2, c2, L2, l2, d2⟩) = ((l1.zip l2).all fun p => Codec.same d p.1 p.2)) := by
            unfold Hid
            rw [HS.out, hb, hk, hn, hl]; simp
          have HL := Lib.hid hl
          have HB := Lib.hid hb
          clear hk hn hb hl HS
          go_upto_region 3 with (go_at_call 17
                                 refine (SB _ (Ab.refl _)).mono ?_
                                 rintro e w4 ⟨rfl, n, rfl⟩
                                 rw [HB.out])
          have hlB : (l2.length : Int) = (l1.length : Int) := by have := HL.out; omega
          go_wp2
          go_loopw [5] (fun i w' => ∃ k : Nat, k ≤ l1.length ∧ i = .int .i64 (k : Int) ∧ Ab w0 w' ∧ Hid (∀ i (h : i < l1.length) (h' : i < l2.length), i < k → Codec.same d l1[i] l2[i] = true)) (fun i _ => l1.length - (intOf i).toNat)
          case atStart => exact ⟨0, Nat.zero_le _, rfl, (Ab.refl w0).drewN n, fun i _ _ h => absurd h (by omega)⟩
          case round =>
            obtain ⟨k, hk, rfl, hb1, hq⟩ := hrel
            rename World => w1
            by_cases hlt : k < l1.length
            · have hlt2 : k < l2.length := by have := HL.out; omega
              obtain ⟨p, ⟨k3, n3, A3, s3, c3, L3, l3, d3⟩, rfl, yv1, yl1, p0, p1, p2, p3⟩ := EX.out.at_ hlt
              obtain ⟨r, ⟨k4, n4, A4, s4, c4, L4, l4, d4⟩, rfl, yv2, yl2, r0, r1, r2, r3⟩ := EY.out.at_ hlt2
              have ca := hb1.at a3
              have ce := hb1.at e3
              replace p0 := hb1.at p0
              replace p1 := hb1.at p1
              replace p2 := hb1.at p2
              replace p3 := hb1.at p3
              replace r0 := hb1.at r0
              replace r1 := hb1.at r1
              replace r2 := hb1.at r2
              replace r3 := hb1.at r3
              replace yl1 := yl1.ab hb1
              replace yl2 := yl2.ab hb1
              have HY1 := Lib.hid yv1
              have HY2 := Lib.hid yv2
              have hki : (k : Int) < (l1.length : Int) := by omega
              have hki2 : (k : Int) < (l2.length : Int) := by omega
              clear yv1 yv2 hlB
              dsimp only at p0 p1 p2 p3 r0 r1 r2 r3
              go_upto_region 6 with fail
              refine wp_region_held_drew (by kernel_rfl) (S := fun w' => Ab w1 w') ?_ (fun hHeld => ?_)
              · exact (Ab.refl w1).drew
              (refine rtA 0 ?_ ?_
               (try simp only [Act.put, stA, st0, st1]))
              (refine rtA 1 ?_ ?_ (hy := by intro w hSw; have hS1 : Ab w1 w := hSw; have z0 := hS1.at ca; go_simp; (try with_reducible rfl))
               (try simp only [Act.put, stA, st0, st1]))
              (refine rtA 2 ?_ ?_
               (try simp only [Act.put, stA, st0, st1]))
              (refine rtA 3 ?_ ?_
               (try simp only [Act.put, stA, st0, st1]))
              (refine rtA 4 ?_ ?_ (hy := by intro w hSw; have hS1 : Ab w1 w := hSw; have z0 := hS1.at p0; have z1 := hS1.at p1; have z2 := hS1.at p2; have z3 := hS1.at p3; go_simp; (try with_reducible rfl))
               (try simp only [Act.put, stA, st0, st1]))
              (refine rtA 5 ?_ ?_
               (try simp only [Act.put, stA, st0, st1]))
              (refine rtA 6 ?_ ?_ (hy := by intro w hSw; have hS1 : Ab w1 w := hSw; have z0 := hS1.at ce; go_simp; (try with_reducible rfl))
               (try simp only [Act.put, stA, st0, st1]))
              (refine rtA 7 ?_ ?_
               (try simp only [Act.put, stA, st0, st1]))
              (refine rtA 8 ?_ ?_
               (try simp only [Act.put, stA, st0, st1]))
              (refine rtA 9 ?_ ?_ (hy := by intro w hSw; have hS1 : Ab w1 w := hSw; have z0 := hS1.at r0; have z1 := hS1.at r1; have z2 := hS1.at r2; have z3 := hS1.at r3; go_simp; (try with_reducible rfl))
               (try simp only [Act.put, stA, st0, st1]))
              refine r1A 10 (fun K hK => ?_)
              (go_simp
               (refine (HVV.out S S' ⟨k3, n3, A3, s3, c3, L3, l3, d3⟩ ⟨k4, n4, A4, s4, c4, L4, l4, d4⟩ _ (yl1.ab abA) (yl2.ab abA)).mono ?_; rintro e w5 ⟨rfl, hb5⟩)
               (try go_wp2_with fail)
               (refine hK.out _ _ ?_ (fun hHeld => ?_)
                · (try dsimp only); exact Ab.trans abA hb5
                clear hK K
                (try simp only [Act.put, stA, st0, st1])))
              (refine rtA 11 ?_ ?_
               (try simp only [Act.put, stA, st0, st1]))
              refine wpAnyH_done (by kernel_rfl) ?_ _
              (try simp only [Act.put, stA, st0, st1])
              rcases hsm : Codec.same d (VM.v ⟨k3, n3, A3, s3, c3, L3, l3, d3⟩) (VM.v ⟨k4, n4, A4, s4, c4, L4, l4, d4⟩) with _ | _
              · have HF : Hid (Codec.same (d + 1) (VM.v ⟨k1, n1, A1, s1, c1, some p, l1, d1⟩) (VM.v ⟨k2, n2, A2, s2, c2, some r, l2, d2⟩) = false) := by
                  unfold Hid
                  rw [HS2.out]
                  exact Codec.zip_false k hlt hlt2 (by rw [← HY1.out, ← HY2.out]; exact hsm)
                clear hsm
                go_wp2
                go_ret
                exact ⟨by rw [HF.out]; rfl, hab.trans (hb1.trans abA)⟩
              · have HT := Lib.hid hsm
                clear hsm
                go_wp2
                go_roundw
                case rel =>
                  refine ⟨k + 1, by omega, by go_num, hb1.trans abA, fun i h h' hi => ?_⟩
                  by_cases hik : i = k
                  · subst hik
                    rw [← HY1.out, ← HY2.out]; exact HT.out
                  · exact hq.out i h h' (by omega)
                case measure => simp [intOf]; omega
            · have HT : Hid (Codec.same (d + 1) (VM.v ⟨k1, n1, A1, s1, c1, L1, l1, d1⟩) (VM.v ⟨k2, n2, A2, s2, c2, L2, l2, d2⟩) = true) := by
                unfold Hid
                rw [HS2.out]
                exact Codec.zip_true HL.out fun i h h' => hq.out i h h' (by omega)
              have hki : ¬ (k : Int) < (l1.length : Int) := by omega
              have ca := hb1.at a3
              go_wp2
              go_ret
              exact ⟨by rw [HT.out]; (try rfl), hab.trans hb1⟩
        · have hk' : ((k1 : Int) != (k2 : Int)) = false := by rw [bne_eq_false_iff_eq]; omega
          have hn' : (n1 != n2) = false := by rw [bne_eq_false_iff_eq]; exact hn
          have hl' : ((l1.length : Int) != (l2.length : Int)) = true := by rw [bne_iff_ne]; omega
          have HF : Hid (Codec.same (d + 1) (VM.v ⟨k1, n1, A1, s1, c1, L1, l1, d1⟩) (VM.v ⟨k2, n2, A2, s2, c2, L2, l2, d2⟩) = false) := by
            unfold Hid
            rw [HS.out, (beq_eq_false_iff_ne).2 hl]; simp
          clear hk hn hl HS
          go_wp2_with (go_at_call 17
                       refine (SB _ (Ab.refl _)).mono ?_
                       rintro e w4 ⟨rfl, n, rfl⟩
                       rw [hb])
          go_ret
          exact ⟨by rw [HF.out]; rfl, hab.drewN n⟩
      · have hb' : (s1 == s2) = false := by simpa using hb
        have hk' : ((k1 : Int) != (k2 : Int)) = false := by rw [bne_eq_false_iff_eq]; omega
        have hn' : (n1 != n2) = false := by rw [bne_eq_false_iff_eq]; exact hn
        have HF : Hid (Codec.same (d + 1) (VM.v ⟨k1, n1, A1, s1, c1, L1, l1, d1⟩) (VM.v ⟨k2, n2, A2, s2, c2, L2, l2, d2⟩) = false) := by
          unfold Hid
          rw [HS.out, hb']; simp
        clear hk hn hb HS
        go_wp2_with (go_at_call 17
                     refine (SB _ (Ab.refl _)).mono ?_
                     rintro e w4 ⟨rfl, n, rfl⟩
                     rw [hb'])
        go_ret
        exact ⟨by rw [HF.out]; rfl, hab.drewN n⟩
    · have hk' : ((k1 : Int) != (k2 : Int)) = false := by rw [bne_eq_false_iff_eq]; omega
      have hn' : (n1 != n2) = true := by rw [bne_iff_ne]; exact hn
      have HF : Hid (Codec.same (d + 1) (VM.v ⟨k1, n1, A1, s1, c1, L1, l1, d1⟩) (VM.v ⟨k2, n2, A2, s2, c2, L2, l2, d2⟩) = false) := by
        unfold Hid
        rw [HS.out, (beq_eq_false_iff_ne).2 hn]; simp
      clear hk hn HS
      go_wp2
      go_ret
      exact ⟨by rw [HF.out]; rfl, hab⟩
  · have hk' : ((k1 : Int) != (k2 : Int)) = true := by rw [bne_iff_ne]; omega
    have HF : Hid (Codec.same (d + 1) (VM.v ⟨k1, n1, A1, s1, c1, L1, l1, d1⟩) (VM.v ⟨k2, n2, A2, s2, c2, L2, l2, d2⟩) = false) := by
      unfold Hid
      rw [HS.out, (beq_eq_false_iff_ne).2 hk]; simp
    clear hk HS
    go_wp2
    go_ret
    exact ⟨by rw [HF.out]; rfl, hab⟩
theorem same_any : ∀ (d : Nat) (S S' : Nat → Prop) (x y : VM) (w : World), VL d w S x → VL d w S' y → Calls Try.prog 18 #[x.val, y.val] w fun e w' => e = .returned (.bool (Codec.same d x.v y.v)) ∧ Ab w w' := by
  intro d
  induction d with
  | zero => intro S S' x y w hx; exact hx.elim
  | succ d ih => intro S S' x y w hx hy; exact same_of d ih S S' x y w hx hy
end Go.Proofs.Ytmdjdcllehaphaa
