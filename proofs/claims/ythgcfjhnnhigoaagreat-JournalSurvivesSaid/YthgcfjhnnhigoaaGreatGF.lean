/- The texts FrRefA, FrRefB, FrRefC, FrRefD, FrRefE, FrRefF, FrLawA, one behind the other. Own work. -/
import Derived.Test.YthgcfjhnnhigoaaGreatGB
import Derived.Test.YthgcfjhnnhigoaaGreatGE
import Derived.Deep.DeepCutAuto
import Derived.IntWalk
set_option linter.unusedVariables false
set_option linter.unusedSimpArgs false
/- The reference of layer 3, first part, walked. Own work. -/
namespace Go.Proofs.YthgcfjhnnhigoaaGreat
open Go.RowKit

def vB (r : Frame.Rec) : Bool := decide (0 ≤ r.num ∧ r.num ≤ 1000000000 ∧ r.data.length ≤ 1000)
theorem vB_true {r : Frame.Rec} : vB r = true ↔ Frame.Valid r := by unfold vB Frame.Valid; simp
theorem vB_false {r : Frame.Rec} : vB r = false ↔ ¬ Frame.Valid r := by rw [← vB_true]; simp

theorem valid_any (num : Int) (B : Option Addr) (d : List UInt8) (cd : Nat) (w : World) :
    Calls Tryz.prog 142 #[.agg #[.int .i64 num, .slice B d.length cd]] w fun e w' => e = .returned (.bool (vB ⟨num, d⟩)) ∧ Ab w w' := by
  by_cases h1 : num < 0
  · have hv := Lib.hid (show vB ⟨num, d⟩ = false by unfold vB; first | (simp; done) | (simp; omega))
    go_enter Tryz.func142, Tryz.ntmps142
    go_wp2
    go_ret
    exact ⟨ret_bool (by first | (rw [hv.out]; done) | (rw [hv.out]; simp; done) | (rw [hv.out]; simp; omega)), abA⟩
  · by_cases h2 : 1000000000 < num
    · have hv := Lib.hid (show vB ⟨num, d⟩ = false by unfold vB; first | (simp; done) | (simp; omega))
      go_enter Tryz.func142, Tryz.ntmps142
      go_wp2
      go_ret
      exact ⟨ret_bool (by first | (rw [hv.out]; done) | (rw [hv.out]; simp; done) | (rw [hv.out]; simp; omega)), abA⟩
    · by_cases h3 : 1000 < d.length
      · have hv := Lib.hid (show vB ⟨num, d⟩ = false by unfold vB; first | (simp; done) | (simp; omega))
        go_enter Tryz.func142, Tryz.ntmps142
        go_wp2
        go_ret
        exact ⟨ret_bool (by first | (rw [hv.out]; done) | (rw [hv.out]; simp; done) | (rw [hv.out]; simp; omega)), abA⟩
      · have hv := Lib.hid (show vB ⟨num, d⟩ = true by unfold vB; first | (simp; done) | (simp; omega))
        go_enter Tryz.func142, Tryz.ntmps142
        go_wp2
        go_ret
        exact ⟨ret_bool (by first | (rw [hv.out]; done) | (rw [hv.out]; simp; done) | (rw [hv.out]; simp; omega)), abA⟩

def longB (n : Nat) : Bool := (decide (2000 < n) && decide (n ≤ 20000)) || decide (21000 < n)
def GreatP (xs : List RecM) (w : World) (e : Ending) (w' : World) : Prop := ∃ v : Bool, Hid (v = false → xs.length ≤ 40 ∧ ∀ i (hi : i < xs.length), xs[i].b.length ≤ 1100) ∧ e = .returned (.bool v) ∧ w = w'
end Go.Proofs.YthgcfjhnnhigoaaGreat

/- The bytes of a record by the reference, walked. Own work. -/
namespace Go.Proofs.YthgcfjhnnhigoaaGreat
open Go.RowKit

theorem OR.lit {w : World} {lo g : Nat} {l : List UInt8} {T : TypeId} (hb : lo ≤ g) (hl : l.length ≤ 1000) (hg : w.heap[g]? = some (.cells (l.map cb).toArray T (0, 0))) : OR T lo w (some ⟨g, 0, none⟩) l.length l := by
  refine ⟨by simp, .inr ⟨g, l.length, (l.map cb).toArray, rfl, hb, hg, Nat.le_refl _, by unfold maxLen; omega, by simp, ?_⟩⟩
  simp only [List.toList_toArray, Nat.mul_one]
  exact List.take_of_length_le (by simp)

theorem wrap_u32 (v : Int) (h0 : 0 ≤ v) (h1 : v < 4294967296) : IntKind.u32.wrap v = v := by
  simp [IntKind.wrap, IntKind.bits, IntKind.signed]; omega
theorem four_any (x : BitVec 32) (v : Int) (hv : v = (x.toNat : Int)) (w : World) :
    Calls Tryz.prog 118 #[.int .u32 v] w fun e w' => ∃ g L, Hid (L = Frame.w4 x) ∧ e = .returned (.slice (some ⟨g, 0, none⟩) L.length 4) ∧ OR 5 w.heap.size w' (some ⟨g, 0, none⟩) 4 L ∧ Ab w w' := by
  subst hv
  obtain ⟨k0, k1, k2, k3⟩ := w4_form x
  have K := Lib.hid k0
  have K1 := Lib.hid k1
  have K2 := Lib.hid k2
  have K3 := Lib.hid k3
  clear k0 k1 k2 k3
  go_enter Tryz.func118, Tryz.ntmps118
  go_wp2
  go_ret
  exact ⟨w.heap.size, Frame.w4 x, Lib.hid rfl, rfl, OR.lit (l := Frame.w4 x) (Nat.le_refl _) (by simp) (by unfold Frame.w4; simp only [List.map_cons, List.map_nil, cb, K.out, K1.out, K2.out, K3.out]; (repeat (first | exact new_plain wnA | with_reducible refine old_alloc ?_ | with_reducible refine old_drew ?_ | with_reducible refine old_set ?_ wnA | with_reducible refine old_ab (by assumption) ?_))), abA⟩

set_option maxHeartbeats 1000000 in
set_option maxRecDepth 4000 in
theorem bytes_any (num : Int) (B : Option Addr) (d : List UInt8) (cd : Nat) (w : World) (hv : Frame.Valid ⟨num, d⟩) (hd : RB w 0 B d) (hcd : d.length ≤ cd) :
    Calls Tryz.prog 81 #[.agg #[.int .i64 num, .slice B d.length cd]] w fun e w' => ∃ A c L, Hid (L = Frame.enc ⟨num, d⟩) ∧ e = .returned (.slice A L.length c) ∧ OR 5 w.heap.size w' A c L ∧ Ab w w' := by
  obtain ⟨v1, v2, v3⟩ := hv
  simp only at v1 v2 v3
  have n1 : Hid ((d.length : Int) = ((BitVec.ofNat 32 d.length).toNat : Int)) := by unfold Hid; rw [BitVec.toNat_ofNat]; omega
  have n2 : Hid (num = ((BitVec.ofNat 32 num.toNat).toNat : Int)) := by unfold Hid; rw [BitVec.toNat_ofNat]; omega
  have hw1 := wrap_u32 (d.length : Int) (by omega) (by omega)
  have hw2 := wrap_u32 num (by omega) (by omega)
  go_enter Tryz.func81, Tryz.ntmps81
  have hW : w.heap.size + 1 = (w.alloc (.cells #[.int .i64 num, .slice B d.length cd] 108)).heap.size := by simp
  have hdW := hd.ab ((Ab.refl w).alloc (.cells #[.int .i64 num, .slice B d.length cd] 108))
  have qa : (w.alloc (.cells #[.int .i64 num, .slice B d.length cd] 108)).cell? ⟨w.heap.size, 0, none⟩ = some (.int .i64 num) := by simp [go_sem]
  have qb : (w.alloc (.cells #[.int .i64 num, .slice B d.length cd] 108)).cell? ⟨w.heap.size, 1, none⟩ = some (.slice B d.length cd) := by simp [go_sem]
  have hab0 : Ab w (w.alloc (.cells #[.int .i64 num, .slice B d.length cd] 108)) := abA
  go_wp2
  generalize hWg : (w.alloc (.cells #[.int .i64 num, .slice B d.length cd] 108)) = W at *
  have hsz := Nat.le_of_eq hW
  have hsz' := Nat.le_of_eq hW.symm
  clear hWg hW
  go_upto_region 1 with fail
  go_cut [3] (fun s wx => ∃ g c' L, Hid (L = Frame.head ⟨num, d⟩) ∧ s = .slice g L.length c' ∧ OR 5 W.heap.size wx g c' L ∧ Ab W wx)
  case first =>
    refine wp_region_held_drew (by kernel_rfl) (S := fun w' => w'.cell? ⟨w.heap.size, 0, none⟩ = some (.int .i64 num) ∧ w'.cell? ⟨w.heap.size, 1, none⟩ = some (.slice B d.length cd)) ?_ (fun hHeld => ?_)
    · exact ⟨ckA, ckA⟩
    (refine rtA 0 ?_ ?_
     (try simp only [Act.put, stA, st0, st1]))
    (refine rtA 1 ?_ ?_
     (try simp only [Act.put, stA, st0, st1]))
    (refine rtA 2 ?_ ?_
     (try simp only [Act.put, stA, st0, st1]))
    (refine rtA 3 ?_ ?_
     (try simp only [Act.put, stA, st0, st1]))
    (refine rtA 5 ?_ ?_
     (try simp only [Act.put, stA, st0, st1]))
    (refine rtA 6 ?_ ?_
     (try simp only [Act.put, stA, st0, st1]))
    (refine rtA 7 ?_ ?_
     (try simp only [Act.put, stA, st0, st1]))
    refine r1A 4 (fun K hK => ?_)
    (go_simp
     ((go_at_call 118)
      refine (four_any (BitVec.ofNat 32 d.length) _ n1.out _).mono ?_
      rintro e w3 ⟨g3, L3, e3, rfl, o3, b3⟩
      have o3' : OR 5 W.heap.size w3 (some ⟨g3, 0, none⟩) 4 L3 := OR.mono o3 (Ab.size abA))
     (try go_wp2_with fail)
     (refine hK.out _ _ ?_ (fun hHeld => ?_)
      · (try dsimp only); exact ⟨ckA, ckA⟩
      clear hK K
      (try simp only [Act.put, stA, st0, st1])))
    refine r1A 8 (fun K hK => ?_)
    (go_simp
     ((go_at_call 118)
      refine (four_any (BitVec.ofNat 32 num.toNat) _ n2.out _).mono ?_
      rintro e w4 ⟨g4, L4, e4, rfl, o4, b4⟩)
     (try go_wp2_with fail)
     (refine hK.out _ _ ?_ (fun hHeld => ?_)
      · (try dsimp only); exact ⟨ckA, ckA⟩
      clear hK K
      (try simp only [Act.put, stA, st0, st1])))
    refine r1A 9 (fun K hK => ?_)
    (refine stepApp (by rfl) _ _ (by rfl) (by rfl) (by rfl) (m := L4) rfl (show OR 5 W.heap.size _ (some ⟨g3, 0, none⟩) 4 L3 from orA) (Ab.size abA) (RB.ab o4.rb.zero abA) (by rw [e4.out]; simp) (by rw [e3.out, e4.out]; simp) ?_
     intro A5 c5 w5 L5 e5 o5 _ f5
     have b5 := f5 W abA (Nat.le_refl _)
     clear f5
     (refine hK.out _ _ ?_ (fun hHeld => ?_)
      · (try dsimp only); exact ⟨ckA, ckA⟩
      clear hK K
      (try simp only [Act.put, stA, st0, st1])))
    refine r1A 10 (fun K hK => ?_)
    (go_simp
     (refine hK.out _ _ ?_ (fun hHeld => ?_)
      · (try dsimp only); exact ⟨ckA, ckA⟩
      clear hK K
      (try simp only [Act.put, stA, st0, st1])))
    refine wpAnyH_done (by kernel_rfl) ?_ _
    go_wp2_with fail
    go_meet
    exact ⟨A5, c5, L5, Lib.hid (by rw [e5.out, e3.out, e4.out]; rfl), rfl, o5, abA⟩
  obtain ⟨gH, cH, H, eH, rfl, oH, bH⟩ := hcut
  have lH : H.length ≤ 8 := by rw [eH.out]; simp
  have qa1 := bH.at qa
  have qb1 := bH.at qb
  have hdc := hdW.ab bH
  have hHc := oH.rb
  have hHle := oH.le
  go_upto_region 2 with fail
  go_cut [4] (fun s wx => s = .int .u32 ((Crc.sum (Frame.head ⟨num, d⟩ ++ d)).toNat : Int) ∧ Ab wc wx)
  case first =>
    refine wp_region_held_drew (by kernel_rfl) (S := fun w' => w'.cell? ⟨w.heap.size, 0, none⟩ = some (.int .i64 num) ∧ w'.cell? ⟨w.heap.size, 1, none⟩ = some (.slice B d.length cd)) ?_ (fun hHeld => ?_)
    · exact ⟨ckA, ckA⟩
    (refine rtA 1 ?_ ?_
     (try simp only [Act.put, stA, st0, st1]))
    (refine rtA 3 ?_ ?_
     (try simp only [Act.put, stA, st0, st1]))
    (refine rtA 4 ?_ ?_
     (try simp only [Act.put, stA, st0, st1]))
    refine r1A 0 (fun K hK => ?_)
    (go_simp
     (refine hK.out _ _ ?_ (fun hHeld => ?_)
      · (try dsimp only); exact ⟨ckA, ckA⟩
      clear hK K
      (try simp only [Act.put, stA, st0, st1])))
    refine r1A 2 (fun K hK => ?_)
    (refine stepLit (by rfl) _ _ (by rfl) (by rfl) (by rfl) (m := H) rfl (by (repeat (first | exact new_plain wnA | with_reducible refine old_alloc ?_ | with_reducible refine old_drew ?_ | with_reducible refine old_set ?_ wnA | with_reducible refine old_ab (by assumption) ?_))) (RB.ab hHc abA) hHle (by omega) ?_
     intro A1 c1 w1 L1 e1 a1 o1
     have p1 := o1 wc.heap.size wnA wnA
     have l1 : L1.length ≤ 8 := by rw [e1.out]; exact lH
     clear o1
     (refine hK.out _ _ ?_ (fun hHeld => ?_)
      · (try dsimp only); exact ⟨ckA, ckA⟩
      clear hK K
      (try simp only [Act.put, stA, st0, st1])))
    refine r1A 5 (fun K hK => ?_)
    (refine stepApp (by rfl) _ _ (by rfl) (by rfl) (by rfl) (m := d) rfl (show OR 5 wc.heap.size _ A1 c1 L1 from orA) (Ab.size abA) (RB.ab hdc abA) hcd (by omega) ?_
     intro A2 c2 w2 L2 e2 o2 _ f2
     have b2 := f2 wc abA (Nat.le_refl _)
     have l2 : L2.length ≤ 2000 := by rw [e2.out, List.length_append]; omega
     clear f2
     (refine hK.out _ _ ?_ (fun hHeld => ?_)
      · (try dsimp only); exact ⟨ckA, ckA⟩
      clear hK K
      (try simp only [Act.put, stA, st0, st1])))
    refine r1A 6 (fun K hK => ?_)
    (go_simp
     ((go_at_call 119)
      refine (refOf_any A2 L2 c2 _ (RB.ab o2.rb.zero abA) o2.le (by omega)).mono ?_
      rintro e w6 ⟨rfl, rfl⟩)
     (try go_wp2_with fail)
     (refine hK.out _ _ ?_ (fun hHeld => ?_)
      · (try dsimp only); exact ⟨ckA, ckA⟩
      clear hK K
      (try simp only [Act.put, stA, st0, st1])))
    refine r1A 7 (fun K hK => ?_)
    (go_simp
     (refine hK.out _ _ ?_ (fun hHeld => ?_)
      · (try dsimp only); exact ⟨ckA, ckA⟩
      clear hK K
      (try simp only [Act.put, stA, st0, st1])))
    refine wpAnyH_done (by kernel_rfl) ?_ _
    go_wp2_with fail
    go_meet
    exact ⟨by rw [e2.out, e1.out, eH.out], abA⟩
  obtain ⟨rfl, bD⟩ := hcut
  have oH2 := oH.keep bD
  have bW2 : Ab W wc := bH.trans bD
  have qa2 := bD.at qa1
  have qb2 := bD.at qb1
  have hdc2 := hdc.ab bD
  have hWsz := bW2.size
  clear oH hHc qa1 qb1 hdc bH bD
  go_upto_region 3 with fail
  refine wp_region_held_drew (by kernel_rfl) (S := fun w' => w'.cell? ⟨w.heap.size, 0, none⟩ = some (.int .i64 num) ∧ w'.cell? ⟨w.heap.size, 1, none⟩ = some (.slice B d.length cd)) ?_ (fun hHeld => ?_)
  · exact ⟨ckA, ckA⟩
  (refine rtA 0 ?_ ?_
   (try simp only [Act.put, stA, st0, st1]))
  (refine rtA 1 ?_ ?_
   (try simp only [Act.put, stA, st0, st1]))
  (refine rtA 4 ?_ ?_
   (try simp only [Act.put, stA, st0, st1]))
  (refine rtA 5 ?_ ?_
   (try simp only [Act.put, stA, st0, st1]))
  refine r1A 2 (fun K hK => ?_)
  (go_simp
   ((go_at_call 118)
    refine (four_any (Crc.sum (Frame.head ⟨num, d⟩ ++ d)) _ rfl _).mono ?_
    rintro e w3 ⟨g3, L3, e3, rfl, o3, b3⟩
    have l3 : L3.length ≤ 4 := by rw [e3.out]; simp)
   (try go_wp2_with fail)
   (refine hK.out _ _ ?_ (fun hHeld => ?_)
    · (try dsimp only); exact ⟨ckA, ckA⟩
    clear hK K
    (try simp only [Act.put, stA, st0, st1])))
  refine r1A 3 (fun K hK => ?_)
  (refine stepApp (by rfl) _ _ (by rfl) (by rfl) (by rfl) (m := L3) rfl (show OR 5 W.heap.size _ gH cH H from orA) (Ab.size abA) (RB.ab o3.rb.zero abA) (by rw [e3.out]; simp) (by omega) ?_
   intro A7 c7 w7 L7 e7 o7 _ f7
   have b7 := f7 W abA (Nat.le_refl _)
   have l7 : L7.length ≤ 12 := by rw [e7.out, List.length_append]; omega
   have hd7 := hdW.ab b7
   clear f7
   (refine hK.out _ _ ?_ (fun hHeld => ?_)
    · (try dsimp only); exact ⟨ckA, ckA⟩
    clear hK K
    (try simp only [Act.put, stA, st0, st1])))
  refine r1A 6 (fun K hK => ?_)
  (refine stepApp (by rfl) _ _ (by rfl) (by rfl) (by rfl) (m := d) rfl o7 (Ab.size abA) (RB.ab hdW abA) hcd (by omega) ?_
   intro A8 c8 w8 L8 e8 o8 _ f8
   have b8 := f8 W abA (Nat.le_refl _)
   clear f8
   (refine hK.out _ _ ?_ (fun hHeld => ?_)
    · (try dsimp only); exact ⟨ckA, ckA⟩
    clear hK K
    (try simp only [Act.put, stA, st0, st1])))
  refine r1A 7 (fun K hK => ?_)
  (go_simp
   (refine hK.out _ _ ?_ (fun hHeld => ?_)
    · (try dsimp only); exact ⟨ckA, ckA⟩
    clear hK K
    (try simp only [Act.put, stA, st0, st1])))
  refine wpAnyH_done (by kernel_rfl) ?_ _
  go_wp2
  go_ret
  exact ⟨A8, c8, L8, Lib.hid (by rw [e8.out, e7.out, e3.out, eH.out]; unfold Frame.enc; simp), rfl, OR.mono (lo := W.heap.size) o8 hab0.size, hab0.trans b8⟩

end Go.Proofs.YthgcfjhnnhigoaaGreat

/- The reference of layer 3, its list of bytes and its numbers, walked. Own work. -/
namespace Go.Proofs.YthgcfjhnnhigoaaGreat
open Go.RowKit

theorem word_nat (b0 b1 b2 b3 : UInt8) : ((Crc.word b0 b1 b2 b3).toNat : Int) = (b0.toNat : Int) + 256 * (b1.toNat : Int) + 65536 * (b2.toNat : Int) + 16777216 * (b3.toNat : Int) := by
  obtain ⟨e0, e1, e2, e3⟩ := Crc.word_inj (Crc.word_bytes (Crc.word b0 b1 b2 b3))
  obtain ⟨k0, k1, k2, k3⟩ := w4_form (Crc.word b0 b1 b2 b3)
  rw [e0] at k0
  rw [e1] at k1
  rw [e2] at k2
  rw [e3] at k3
  omega
theorem number_any (A : Option Addr) (b : List UInt8) (c : Nat) (w : World) (hb : RB w 0 A b) (h4 : 4 ≤ b.length) (ll : b.length ≤ 9223372036854775807) :
    Calls Tryz.prog 141 #[.slice A b.length c] w fun e w' => e = .returned (.int .i64 ((Frame.rd b 0).toNat : Int)) ∧ ∃ n, w' = w.drewN n := by
  obtain ⟨ad, rfl, _, hcell⟩ := hb (by omega)
  obtain ⟨b0, b1, b2, b3, hrd, h0, h1, h2, h3⟩ : ∃ b0 b1 b2 b3 : UInt8, Hid (Frame.rd b 0 = Crc.word b0 b1 b2 b3) ∧ b[0] = b0 ∧ b[1] = b1 ∧ b[2] = b2 ∧ b[3] = b3 := by
    refine ⟨_, _, _, _, ?_, rfl, rfl, rfl, rfl⟩
    unfold Hid Frame.rd
    simp only [List.getD_eq_getElem?_getD, Nat.zero_add]
    rw [List.getElem?_eq_getElem (by omega), List.getElem?_eq_getElem (by omega), List.getElem?_eq_getElem (by omega), List.getElem?_eq_getElem (by omega)]
    rfl
  have c0 : w.cell? ad = some (.int .u8 (b0.toNat : Int)) := h0 ▸ hcell 0 (by omega)
  have c1 : w.cell? ⟨ad.block, ad.off + 1, none⟩ = some (.int .u8 (b1.toNat : Int)) := h1 ▸ hcell 1 (by omega)
  have c2 : w.cell? ⟨ad.block, ad.off + 2, none⟩ = some (.int .u8 (b2.toNat : Int)) := h2 ▸ hcell 2 (by omega)
  have c3 : w.cell? ⟨ad.block, ad.off + 3, none⟩ = some (.int .u8 (b3.toNat : Int)) := h3 ▸ hcell 3 (by omega)
  clear hcell h0 h1 h2 h3
  generalize hn : b.length = n
  rw [hn] at h4 ll
  have i0 : (0 : Int) < (n : Int) := by omega
  have j0 : 0 < n := by omega
  have i1 : (1 : Int) < (n : Int) := by omega
  have i2 : (2 : Int) < (n : Int) := by omega
  have i3 : (3 : Int) < (n : Int) := by omega
  clear h4 hn
  have t0 := b0.toNat_lt
  have t1 := b1.toNat_lt
  have t2 := b2.toNat_lt
  have t3 := b3.toNat_lt
  have s1 : IntKind.i64.wrap (256 * (b1.toNat : Int)) = 256 * (b1.toNat : Int) := IntWalk.i64_in _ (by omega)
  have s2 : IntKind.i64.wrap (65536 * (b2.toNat : Int)) = 65536 * (b2.toNat : Int) := IntWalk.i64_in _ (by omega)
  have s3 : IntKind.i64.wrap (16777216 * (b3.toNat : Int)) = 16777216 * (b3.toNat : Int) := IntWalk.i64_in _ (by omega)
  have s4 : IntKind.i64.wrap ((b0.toNat : Int) + 256 * (b1.toNat : Int)) = (b0.toNat : Int) + 256 * (b1.toNat : Int) := IntWalk.i64_in _ (by omega)
  have s5 : IntKind.i64.wrap ((b0.toNat : Int) + 256 * (b1.toNat : Int) + 65536 * (b2.toNat : Int)) = (b0.toNat : Int) + 256 * (b1.toNat : Int) + 65536 * (b2.toNat : Int) := IntWalk.i64_in _ (by omega)
  have s6 : IntKind.i64.wrap ((b0.toNat : Int) + 256 * (b1.toNat : Int) + 65536 * (b2.toNat : Int) + 16777216 * (b3.toNat : Int)) = (b0.toNat : Int) + 256 * (b1.toNat : Int) + 65536 * (b2.toNat : Int) + 16777216 * (b3.toNat : Int) := IntWalk.i64_in _ (by omega)
  go_enter Tryz.func141, Tryz.ntmps141
  go_wp2
  go_quiet (fail)
  clear s1 s2 s3 s4 s5 s6
  go_wp2
  go_ret
  exact ⟨ret_int (by rw [hrd.out, word_nat]), _, rfl⟩

def StartsP (x y : List UInt8) (w : World) (e : Ending) (w' : World) : Prop := ∃ v : Bool, Hid (v = true ↔ y <+: x) ∧ e = .returned (.bool v) ∧ Ab w w'
theorem starts_any (A C : Option Addr) (ca cc : Nat) (x y : List UInt8) (w : World) (hx : RB w 0 A x) (hy : RB w 0 C y) (hca : x.length ≤ ca) (lx : x.length ≤ 1000000) (ly : y.length ≤ 1000000) :
    Calls Tryz.prog 143 #[.slice A x.length ca, .slice C y.length cc] w (StartsP x y w) := by
  by_cases hl : y.length ≤ x.length
  · have h0 : (0 : Int) ≤ (y.length : Int) := by omega
    have h1 : (y.length : Int) ≤ (ca : Int) := by omega
    have hlt : (x.take y.length).length = y.length := by simp; omega
    have HE : Hid ((x.take y.length == y) = true ↔ y <+: x) := Lib.hid (by
      rw [beq_iff_eq, List.prefix_iff_eq_take]; exact eq_comm)
    have S0 : ∀ w', Ab w w' → Calls Tryz.prog 71 #[.slice A y.length ca, .slice C y.length cc] w' (fun e w'' => e = .returned (.bool (x.take y.length == y)) ∧ ∃ n, w'' = w'.drewN n) := fun w' h => by
      have := sameBytes_eq A C ca cc (x.take y.length) y w' ((hx.ab h).take _) (hy.ab h) (by omega) (by omega)
      rw [hlt] at this
      exact this
    generalize (x.take y.length == y) = v at *
    clear hlt
    go_enter Tryz.func143, Tryz.ntmps143
    go_wp2_with fail
    refine (S0 _ abA).mono ?_
    rintro e w1 ⟨rfl, n1, rfl⟩
    go_wp2
    go_ret
    exact ⟨v, HE, rfl, abA⟩
  · have h1 : ¬ (y.length : Int) ≤ (x.length : Int) := by omega
    go_enter Tryz.func143, Tryz.ntmps143
    go_wp2
    go_ret
    exact ⟨false, Lib.hid ⟨fun h => (by cases h), fun h => absurd h.length_le hl⟩, rfl, abA⟩

end Go.Proofs.YthgcfjhnnhigoaaGreat

/- One record by the reference, walked. Own work. -/
namespace Go.Proofs.YthgcfjhnnhigoaaGreat
open Go.RowKit

theorem number_at (A : Option Addr) (b : List UInt8) (c n k m : Nat) (w : World) (hb : RB w 0 A b) (hc : b.length ≤ c) (h4 : k + 4 ≤ b.length) (ll : b.length ≤ 9223372036854775807) (hn : b.length - k = n) (hm : (Frame.rd b k).toNat = m) :
    Calls Tryz.prog 141 #[.slice (cutA A c k) n (c - k)] w fun e w' => e = .returned (.int .i64 (m : Int)) ∧ ∃ n, w' = w.drewN n := by
  have := number_any (cutA A c k) (b.drop k) (c - k) w (hb.cut k c hc) (by simp; omega) (by simp; omega)
  rw [rd_drop, hm, List.length_drop, hn] at this
  exact this

theorem cell_newc {W : World} {cs : Array Value} {T : TypeId} {fr : Nat × Nat} {n j : Nat} {v : Value} (h : W.heap.size = n) (hv : cs[j]? = some v) : (W.alloc (.cells cs T fr)).cell? ⟨n, j, none⟩ = some v := by
  unfold World.cell?
  rw [new_plain h]
  exact hv
theorem fr_drewN {W : World} {p : Addr} {k : Nat} (h : W.frozen? p = false) : (W.drewN k).frozen? p = false := h
theorem fr_drew {W : World} {p : Addr} (h : W.frozen? p = false) : W.drew.frozen? p = false := h
theorem fr_newc {W : World} {cs : Array Value} {T : TypeId} {n j : Nat} (h : W.heap.size = n) : (W.alloc (.cells cs T (0, 0))).frozen? ⟨n, j, none⟩ = false := by
  subst h; simp [go_sem]
theorem OR.setBox2 {lo : Nat} {w : World} {A : Option Addr} {c P : Nat} {l : List UInt8} {o : Array Value} {fr : Nat × Nat} (h : OR 5 lo w A c l) (hP : w.heap[P]? = some (.cells o 108 fr)) (u v : Value) :
    OR 5 lo ((w.setCell ⟨P, 0, none⟩ u).setCell ⟨P, 1, none⟩ v) A c l := by
  refine ⟨h.out.1, ?_⟩
  rcases h.out.2 with h0 | ⟨g, cap, cur, hv, hb, hh, r⟩
  · exact .inl h0
  · have hne : g ≠ P := by
      rintro rfl
      rw [hh] at hP
      injection hP with hP
      injection hP with _ hT
      exact absurd hT (by decide)
    refine .inr ⟨g, cap, cur, hv, hb, ?_, r⟩
    rw [Below.heap_setCell _ _ v g hne, Below.heap_setCell _ _ u g hne]
    exact hh
attribute [local irreducible] cutA
set_option maxHeartbeats 2000000 in
set_option maxRecDepth 4000 in
theorem one_any (A : Option Addr) (b : List UInt8) (c : Nat) (w : World) (hb : RB w 0 A b) (hc : b.length ≤ c) (lb : b.length ≤ 20000) :
    Calls Tryz.prog 136 #[.slice A b.length c] w (GotRec w b) := by
  by_cases h12 : b.length < 12
  · go_enter Tryz.func136, Tryz.ntmps136
    go_wp2
    refine bodyPost_ret (v := .tuple #[.agg #[.int .i64 0, .slice none 0 0], .bool false]) (by simp [results, Tryz.results136, go_sem]) rfl ?_
    exact GotRec.no rfl (Frame.no_short h12) abA
  · have hc12 : 12 ≤ b.length := by omega
    generalize hn0 : (Frame.rd b 0).toNat = n0
    generalize hn4 : (Frame.rd b 4).toNat = n4
    have l0 : n0 ≤ 4294967295 := by have := (Frame.rd b 0).isLt; omega
    have l4 : n4 ≤ 4294967295 := by have := (Frame.rd b 4).isLt; omega
    have N0 := Lib.hid hn0
    have N4 := Lib.hid hn4
    have R0 : ∀ w', Ab w w' → Calls Tryz.prog 141 #[.slice A b.length c] w' (fun e w'' => e = .returned (.int .i64 (n0 : Int)) ∧ ∃ n, w'' = w'.drewN n) := fun w' h => by
      have := number_any A b c w' (hb.ab h) (by omega) (by omega)
      rw [hn0] at this
      exact this
    have R4 : ∀ w', Ab w w' → Calls Tryz.prog 141 #[.slice (cutA A c 4) (b.length - 4) (c - 4)] w' (fun e w'' => e = .returned (.int .i64 (n4 : Int)) ∧ ∃ n, w'' = w'.drewN n) := fun w' h =>
      number_at A b c (b.length - 4) 4 n4 w' (hb.ab h) hc (by omega) (by omega) rfl hn4
    clear hn0 hn4
    have hs4 : ∀ w, (Instr.slice 22 (.slice A (b.length) c) (some (.int .i64 4)) none none).run Tryz.prog w = .ok (.slice (cutA A c 4) (b.length - 4) (c - 4)) w := fun w => run_cut 4 .i64 A (b.length) c w (by omega)
    go_enter Tryz.func136, Tryz.ntmps136
    go_wp2_with fail
    refine (R0 _ abA).mono ?_
    rintro e w1 ⟨rfl, n1, rfl⟩
    have hq : Ab (w.alloc (.cells #[.int .i64 0, .slice none 0 0] 108)) ((w.alloc (.cells #[.int .i64 0, .slice none 0 0] 108)).drewN n1) := abA
    generalize ((w.alloc (.cells #[.int .i64 0, .slice none 0 0] 108)).drewN n1) = wq at *
    have zq0 := hq.at (p := ⟨w.heap.size, 0, none⟩) (v := .int .i64 0) (by simp [go_sem]); have zq1 := hq.at (p := ⟨w.heap.size, 1, none⟩) (v := .slice none 0 0) (by simp [go_sem])
    have zr0 : wq.frozen? ⟨w.heap.size, 0, none⟩ = false := (hq.frozen (p := ⟨w.heap.size, 0, none⟩) (by simp)).trans (by simp [go_sem]); have zr1 : wq.frozen? ⟨w.heap.size, 1, none⟩ = false := (hq.frozen (p := ⟨w.heap.size, 1, none⟩) (by simp)).trans (by simp [go_sem])
    have bq : Ab w wq := abA
    clear hq R0
    by_cases h1 : 1000 < n0
    · go_wp2
      refine bodyPost_ret (v := .tuple #[.agg #[.int .i64 0, .slice none 0 0], .bool false]) (by simp [results, Tryz.results136, go_sem, zq0, zq1, zr0, zr1]) rfl ?_
      exact GotRec.no rfl (Frame.no_len (by rw [N0.out]; exact h1)) abA
    · by_cases h3 : (b.length : Int) < 12 + (n0 : Int)
      · go_wp2
        refine bodyPost_ret (v := .tuple #[.agg #[.int .i64 0, .slice none 0 0], .bool false]) (by simp [results, Tryz.results136, go_sem, zq0, zq1, zr0, zr1]) rfl ?_
        exact GotRec.no rfl (Frame.no_room (by rw [N0.out]; omega)) abA
      · have h3' : n0 + 12 ≤ b.length := by omega
        have hd12 : ∀ w, (Instr.slice 22 (.slice A b.length c) (some (.int .i64 12)) (some (.int .i64 (12 + (n0 : Int)))) none).run Tryz.prog w = .ok (.slice (cutA A c 12) n0 (c - 12)) w := fun w => by
          have := run_cuts 12 (12 + n0) .i64 .i64 A b.length c w (by omega) (by omega)
          rw [show 12 + n0 - 12 = n0 by omega] at this
          rw [← this]; norm_cast
        have hD0 : RB w 0 (cutA A c 12) ((b.drop 12).take n0) := (hb.cut 12 c hc).take n0
        have hDl : ((b.drop 12).take n0).length = n0 := by simp; omega
        have hPI : Hid (∀ r, Frame.Pre r b → r = ⟨(n4 : Int), (b.drop 12).take n0⟩) := Lib.hid (fun r h => by
          have := Frame.pre_is h
          rwa [N0.out, N4.out] at this)
        generalize (b.drop 12).take n0 = D at *
        have hsz := bq.size
        have hzz := cell_lt zq0
        simp only at hzz
        have hDc : D.length ≤ c - 12 := by omega
        have hsum := (IntWalk.i64_in (12 + (n0 : Int)) (by omega))
        go_wp2
        go_upto_region 6 with fail
        go_cut [5] (fun s wx => ∃ (p : Nat) (E : Option Addr) (ce : Nat) (dat : List UInt8), s = .pointer (some ⟨p, 0, none⟩) ∧ wx.cell? ⟨p, 0, none⟩ = some (.int .i64 (n4 : Int)) ∧ wx.cell? ⟨p, 1, none⟩ = some (.slice E dat.length ce) ∧
          Hid (dat = D) ∧ OR 5 (w.heap.size + 1) wx E ce dat ∧ Ab wq wx ∧ wq.heap.size ≤ p)
        case first =>
          refine wp_region_held_drew (by kernel_rfl) (S := fun _ => True) ?_ (fun hHeld => ?_)
          · try trivial
          (refine rtA 0 ?_ ?_
           (try simp only [Act.put, stA, st0, st1]))
          (refine rtA 1 ?_ ?_
           (try simp only [Act.put, stA, st0, st1]))
          (refine rtA 4 ?_ ?_
           (try simp only [Act.put, stA, st0, st1]))
          (refine rtA 5 ?_ ?_
           (try simp only [Act.put, stA, st0, st1]))
          (refine rtA 6 ?_ ?_
           (try simp only [Act.put, stA, st0, st1]))
          (refine rtA 7 ?_ ?_
           (try simp only [Act.put, stA, st0, st1]))
          (refine wpAnyH_ready (rs := [2, 3, 10]) (by kernel_rfl) (by simp) ?_)
          refine AllReadyH.cons rfl (fun K hK => ?_) (AllReadyH.cons rfl (fun K hK => ?_) (AllReadyH.cons rfl (fun K hK => ?_) AllReadyH.nil))
          · (go_simp
             ((go_at_call 141)
              refine (R4 _ abA).mono ?_
              rintro e w4 ⟨rfl, m4, rfl⟩)
             (try go_wp2_with fail)
             (refine hK.out _ _ ?_ (fun hHeld => ?_)
              · (try dsimp only); try trivial
              clear hK K
              (try simp only [Act.put, stA, st0, st1])))
            (refine wpAnyH_ready (rs := [3, 10]) (by kernel_rfl) (by simp) ?_)
            refine AllReadyH.cons rfl (fun K hK => ?_) (AllReadyH.cons rfl (fun K hK => ?_) AllReadyH.nil)
            · (go_simp
               (refine hK.out _ _ ?_ (fun hHeld => ?_)
                · (try dsimp only); try trivial
                clear hK K
                (try simp only [Act.put, stA, st0, st1])))
              (refine wpAnyH_ready (rs := [8, 10]) (by kernel_rfl) (by simp) ?_)
              refine AllReadyH.cons rfl (fun K hK => ?_) (AllReadyH.cons rfl (fun K hK => ?_) AllReadyH.nil)
              · (refine stepLit (by rfl) _ _ (by rfl) (by rfl) (by rfl) (m := D) hDl (by repeat (first | exact new_plain wnA | exact new_drewN wnA | exact new_drew wnA | with_reducible refine old_alloc ?_ | with_reducible refine old_drew ?_ | with_reducible refine old_drewN ?_ _ | with_reducible refine old_ab (by assumption) ?_)) (RB.ab hD0 abA) hDc (by omega) ?_
                 intro A1 c1 w1 L1 e1 a1 o1
                 have p1 := o1 (w.heap.size + 1) wnA wnA
                 clear o1
                 have za1 := a1.size
                 (try simp at za1)
                 (refine hK.out _ _ ?_ (fun hHeld => ?_)
                  · (try dsimp only); try trivial
                  clear hK K
                  (try simp only [Act.put, stA, st0, st1])))
                (refine rtA 9 ?_ ?_
                 (try simp only [Act.put, stA, st0, st1]))
                (refine wpAnyH_ready (rs := [10]) (by kernel_rfl) (by simp) ?_)
                refine AllReadyH.cons rfl (fun K hK => ?_) AllReadyH.nil
                · (go_simp
                   (refine hK.out _ _ ?_ (fun hHeld => ?_)
                    · (try dsimp only); try trivial
                    clear hK K
                    (try simp only [Act.put, stA, st0, st1])))
                  refine r1A 11 (fun K hK => ?_)
                  (go_simp
                   (refine hK.out _ _ ?_ (fun hHeld => ?_)
                    · (try dsimp only); try trivial
                    clear hK K
                    (try simp only [Act.put, stA, st0, st1])))
                  refine wpAnyH_done (by kernel_rfl) ?_ _
                  go_wp2_with fail
                  go_meet
                  exact ⟨w1.heap.size, A1, c1, L1, rfl, by simp [go_sem], by simp [go_sem], e1, orA, abA, wnA⟩
              · (go_simp
                 (refine hK.out _ _ ?_ (fun hHeld => ?_)
                  · (try dsimp only); try trivial
                  clear hK K
                  (try simp only [Act.put, stA, st0, st1])))
                (refine wpAnyH_ready (rs := [8]) (by kernel_rfl) (by simp) ?_)
                refine AllReadyH.cons rfl (fun K hK => ?_) AllReadyH.nil
                · (refine stepLit (by rfl) _ _ (by rfl) (by rfl) (by rfl) (m := D) hDl (by repeat (first | exact new_plain wnA | exact new_drewN wnA | exact new_drew wnA | with_reducible refine old_alloc ?_ | with_reducible refine old_drew ?_ | with_reducible refine old_drewN ?_ _ | with_reducible refine old_ab (by assumption) ?_)) (RB.ab hD0 abA) hDc (by omega) ?_
                   intro A1 c1 w1 L1 e1 a1 o1
                   have p1 := o1 (w.heap.size + 1) wnA wnA
                   clear o1
                   have za1 := a1.size
                   (try simp at za1)
                   have hP : w1.heap[wq.heap.size + 1]? = some (.cells #[.int .i64 0, .slice none 0 0] 108 (0, 0)) := (by repeat (first | exact new_plain wnA | exact new_drewN wnA | exact new_drew wnA | with_reducible refine old_alloc ?_ | with_reducible refine old_drew ?_ | with_reducible refine old_drewN ?_ _ | with_reducible refine old_ab (by assumption) ?_))
                   have m0 := a1.at (p := ⟨wq.heap.size + 1, 0, none⟩) (v := .int .i64 0) (by repeat (first | with_reducible assumption | exact cell_newc wnA rfl | with_reducible apply cell_alloc | with_reducible apply cell_drew | with_reducible apply cell_drewN))
                   have m1 := a1.at (p := ⟨wq.heap.size + 1, 1, none⟩) (v := .slice none 0 0) (by repeat (first | with_reducible assumption | exact cell_newc wnA rfl | with_reducible apply cell_alloc | with_reducible apply cell_drew | with_reducible apply cell_drewN))
                   have m2 : w1.frozen? ⟨wq.heap.size + 1, 0, none⟩ = false := a1.fr wnA (by repeat (first | with_reducible assumption | exact fr_newc wnA | with_reducible refine fr_drewN ?_ | with_reducible refine fr_drew ?_ | (with_reducible refine fr_alloc ?_ ?_; focus (first | (simp; done) | omega | (simp; omega)))))
                   have m3 : w1.frozen? ⟨wq.heap.size + 1, 1, none⟩ = false := a1.fr wnA (by repeat (first | with_reducible assumption | exact fr_newc wnA | with_reducible refine fr_drewN ?_ | with_reducible refine fr_drew ?_ | (with_reducible refine fr_alloc ?_ ?_; focus (first | (simp; done) | omega | (simp; omega)))))
                   (refine hK.out _ _ ?_ (fun hHeld => ?_)
                    · (try dsimp only); try trivial
                    clear hK K
                    (try simp only [Act.put, stA, st0, st1])))
                  (refine rtA 9 ?_ ?_
                   (try simp only [Act.put, stA, st0, st1]))
                  refine r1A 11 (fun K hK => ?_)
                  (go_simp
                   (refine hK.out _ _ ?_ (fun hHeld => ?_)
                    · (try dsimp only); try trivial
                    clear hK K
                    (try simp only [Act.put, stA, st0, st1])))
                  refine wpAnyH_done (by kernel_rfl) ?_ _
                  go_wp2_with fail
                  go_meet
                  exact ⟨wq.heap.size + 1, A1, c1, L1, rfl, (by first | (simp [go_sem, *]; done) | (simp [go_sem]; done)), (by first | (simp [go_sem, *]; done) | (simp [go_sem]; done)), e1, OR.setBox2 (P := wq.heap.size + 1) (show OR 5 (w.heap.size + 1) _ A1 c1 L1 from orA) hP _ _, abA, wnA⟩
            · (go_simp
               (refine hK.out _ _ ?_ (fun hHeld => ?_)
                · (try dsimp only); try trivial
                clear hK K
                (try simp only [Act.put, stA, st0, st1])))
              (refine wpAnyH_ready (rs := [3]) (by kernel_rfl) (by simp) ?_)
              refine AllReadyH.cons rfl (fun K hK => ?_) AllReadyH.nil
              · (go_simp
                 (refine hK.out _ _ ?_ (fun hHeld => ?_)
                  · (try dsimp only); try trivial
                  clear hK K
                  (try simp only [Act.put, stA, st0, st1])))
                (refine wpAnyH_ready (rs := [8]) (by kernel_rfl) (by simp) ?_)
                refine AllReadyH.cons rfl (fun K hK => ?_) AllReadyH.nil
                · (refine stepLit (by rfl) _ _ (by rfl) (by rfl) (by rfl) (m := D) hDl (by repeat (first | exact new_plain wnA | exact new_drewN wnA | exact new_drew wnA | with_reducible refine old_alloc ?_ | with_reducible refine old_drew ?_ | with_reducible refine old_drewN ?_ _ | with_reducible refine old_ab (by assumption) ?_)) (RB.ab hD0 abA) hDc (by omega) ?_
                   intro A1 c1 w1 L1 e1 a1 o1
                   have p1 := o1 (w.heap.size + 1) wnA wnA
                   clear o1
                   have za1 := a1.size
                   (try simp at za1)
                   have hP : w1.heap[wq.heap.size]? = some (.cells #[.int .i64 0, .slice none 0 0] 108 (0, 0)) := (by repeat (first | exact new_plain wnA | exact new_drewN wnA | exact new_drew wnA | with_reducible refine old_alloc ?_ | with_reducible refine old_drew ?_ | with_reducible refine old_drewN ?_ _ | with_reducible refine old_ab (by assumption) ?_))
                   have m0 := a1.at (p := ⟨wq.heap.size, 0, none⟩) (v := .int .i64 0) (by repeat (first | with_reducible assumption | exact cell_newc wnA rfl | with_reducible apply cell_alloc | with_reducible apply cell_drew | with_reducible apply cell_drewN))
                   have m1 := a1.at (p := ⟨wq.heap.size, 1, none⟩) (v := .slice none 0 0) (by repeat (first | with_reducible assumption | exact cell_newc wnA rfl | with_reducible apply cell_alloc | with_reducible apply cell_drew | with_reducible apply cell_drewN))
                   have m2 : w1.frozen? ⟨wq.heap.size, 0, none⟩ = false := a1.fr wnA (by repeat (first | with_reducible assumption | exact fr_newc wnA | with_reducible refine fr_drewN ?_ | with_reducible refine fr_drew ?_ | (with_reducible refine fr_alloc ?_ ?_; focus (first | (simp; done) | omega | (simp; omega)))))
                   have m3 : w1.frozen? ⟨wq.heap.size, 1, none⟩ = false := a1.fr wnA (by repeat (first | with_reducible assumption | exact fr_newc wnA | with_reducible refine fr_drewN ?_ | with_reducible refine fr_drew ?_ | (with_reducible refine fr_alloc ?_ ?_; focus (first | (simp; done) | omega | (simp; omega)))))
                   (refine hK.out _ _ ?_ (fun hHeld => ?_)
                    · (try dsimp only); try trivial
                    clear hK K
                    (try simp only [Act.put, stA, st0, st1])))
                  (refine rtA 9 ?_ ?_
                   (try simp only [Act.put, stA, st0, st1]))
                  refine r1A 11 (fun K hK => ?_)
                  (go_simp
                   (refine hK.out _ _ ?_ (fun hHeld => ?_)
                    · (try dsimp only); try trivial
                    clear hK K
                    (try simp only [Act.put, stA, st0, st1])))
                  refine wpAnyH_done (by kernel_rfl) ?_ _
                  go_wp2_with fail
                  go_meet
                  exact ⟨wq.heap.size, A1, c1, L1, rfl, (by first | (simp [go_sem, *]; done) | (simp [go_sem]; done)), (by first | (simp [go_sem, *]; done) | (simp [go_sem]; done)), e1, OR.setBox2 (P := wq.heap.size) (show OR 5 (w.heap.size + 1) _ A1 c1 L1 from orA) hP _ _, abA, wnA⟩
          · (go_simp
             (refine hK.out _ _ ?_ (fun hHeld => ?_)
              · (try dsimp only); try trivial
              clear hK K
              (try simp only [Act.put, stA, st0, st1])))
            (refine wpAnyH_ready (rs := [2, 10]) (by kernel_rfl) (by simp) ?_)
            refine AllReadyH.cons rfl (fun K hK => ?_) (AllReadyH.cons rfl (fun K hK => ?_) AllReadyH.nil)
            · (go_simp
               ((go_at_call 141)
                refine (R4 _ abA).mono ?_
                rintro e w4 ⟨rfl, m4, rfl⟩)
               (try go_wp2_with fail)
               (refine hK.out _ _ ?_ (fun hHeld => ?_)
                · (try dsimp only); try trivial
                clear hK K
                (try simp only [Act.put, stA, st0, st1])))
              (refine wpAnyH_ready (rs := [8, 10]) (by kernel_rfl) (by simp) ?_)
              refine AllReadyH.cons rfl (fun K hK => ?_) (AllReadyH.cons rfl (fun K hK => ?_) AllReadyH.nil)
              · (refine stepLit (by rfl) _ _ (by rfl) (by rfl) (by rfl) (m := D) hDl (by repeat (first | exact new_plain wnA | exact new_drewN wnA | exact new_drew wnA | with_reducible refine old_alloc ?_ | with_reducible refine old_drew ?_ | with_reducible refine old_drewN ?_ _ | with_reducible refine old_ab (by assumption) ?_)) (RB.ab hD0 abA) hDc (by omega) ?_
                 intro A1 c1 w1 L1 e1 a1 o1
                 have p1 := o1 (w.heap.size + 1) wnA wnA
                 clear o1
                 have za1 := a1.size
                 (try simp at za1)
                 (refine hK.out _ _ ?_ (fun hHeld => ?_)
                  · (try dsimp only); try trivial
                  clear hK K
                  (try simp only [Act.put, stA, st0, st1])))
                (refine rtA 9 ?_ ?_
                 (try simp only [Act.put, stA, st0, st1]))
                (refine wpAnyH_ready (rs := [10]) (by kernel_rfl) (by simp) ?_)
                refine AllReadyH.cons rfl (fun K hK => ?_) AllReadyH.nil
                · (go_simp
                   (refine hK.out _ _ ?_ (fun hHeld => ?_)
                    · (try dsimp only); try trivial
                    clear hK K
                    (try simp only [Act.put, stA, st0, st1])))
                  refine r1A 11 (fun K hK => ?_)
                  (go_simp
                   (refine hK.out _ _ ?_ (fun hHeld => ?_)
                    · (try dsimp only); try trivial
                    clear hK K
                    (try simp only [Act.put, stA, st0, st1])))
                  refine wpAnyH_done (by kernel_rfl) ?_ _
                  go_wp2_with fail
                  go_meet
                  exact ⟨w1.heap.size, A1, c1, L1, rfl, by simp [go_sem], by simp [go_sem], e1, orA, abA, wnA⟩
              · (go_simp
                 (refine hK.out _ _ ?_ (fun hHeld => ?_)
                  · (try dsimp only); try trivial
                  clear hK K
                  (try simp only [Act.put, stA, st0, st1])))
                (refine wpAnyH_ready (rs := [8]) (by kernel_rfl) (by simp) ?_)
                refine AllReadyH.cons rfl (fun K hK => ?_) AllReadyH.nil
                · (refine stepLit (by rfl) _ _ (by rfl) (by rfl) (by rfl) (m := D) hDl (by repeat (first | exact new_plain wnA | exact new_drewN wnA | exact new_drew wnA | with_reducible refine old_alloc ?_ | with_reducible refine old_drew ?_ | with_reducible refine old_drewN ?_ _ | with_reducible refine old_ab (by assumption) ?_)) (RB.ab hD0 abA) hDc (by omega) ?_
                   intro A1 c1 w1 L1 e1 a1 o1
                   have p1 := o1 (w.heap.size + 1) wnA wnA
                   clear o1
                   have za1 := a1.size
                   (try simp at za1)
                   have hP : w1.heap[wq.heap.size + 1]? = some (.cells #[.int .i64 0, .slice none 0 0] 108 (0, 0)) := (by repeat (first | exact new_plain wnA | exact new_drewN wnA | exact new_drew wnA | with_reducible refine old_alloc ?_ | with_reducible refine old_drew ?_ | with_reducible refine old_drewN ?_ _ | with_reducible refine old_ab (by assumption) ?_))
                   have m0 := a1.at (p := ⟨wq.heap.size + 1, 0, none⟩) (v := .int .i64 0) (by repeat (first | with_reducible assumption | exact cell_newc wnA rfl | with_reducible apply cell_alloc | with_reducible apply cell_drew | with_reducible apply cell_drewN))
                   have m1 := a1.at (p := ⟨wq.heap.size + 1, 1, none⟩) (v := .slice none 0 0) (by repeat (first | with_reducible assumption | exact cell_newc wnA rfl | with_reducible apply cell_alloc | with_reducible apply cell_drew | with_reducible apply cell_drewN))
                   have m2 : w1.frozen? ⟨wq.heap.size + 1, 0, none⟩ = false := a1.fr wnA (by repeat (first | with_reducible assumption | exact fr_newc wnA | with_reducible refine fr_drewN ?_ | with_reducible refine fr_drew ?_ | (with_reducible refine fr_alloc ?_ ?_; focus (first | (simp; done) | omega | (simp; omega)))))
                   have m3 : w1.frozen? ⟨wq.heap.size + 1, 1, none⟩ = false := a1.fr wnA (by repeat (first | with_reducible assumption | exact fr_newc wnA | with_reducible refine fr_drewN ?_ | with_reducible refine fr_drew ?_ | (with_reducible refine fr_alloc ?_ ?_; focus (first | (simp; done) | omega | (simp; omega)))))
                   (refine hK.out _ _ ?_ (fun hHeld => ?_)
                    · (try dsimp only); try trivial
                    clear hK K
                    (try simp only [Act.put, stA, st0, st1])))
                  (refine rtA 9 ?_ ?_
                   (try simp only [Act.put, stA, st0, st1]))
                  refine r1A 11 (fun K hK => ?_)
                  (go_simp
                   (refine hK.out _ _ ?_ (fun hHeld => ?_)
                    · (try dsimp only); try trivial
                    clear hK K
                    (try simp only [Act.put, stA, st0, st1])))
                  refine wpAnyH_done (by kernel_rfl) ?_ _
                  go_wp2_with fail
                  go_meet
                  exact ⟨wq.heap.size + 1, A1, c1, L1, rfl, (by first | (simp [go_sem, *]; done) | (simp [go_sem]; done)), (by first | (simp [go_sem, *]; done) | (simp [go_sem]; done)), e1, OR.setBox2 (P := wq.heap.size + 1) (show OR 5 (w.heap.size + 1) _ A1 c1 L1 from orA) hP _ _, abA, wnA⟩
            · (go_simp
               (refine hK.out _ _ ?_ (fun hHeld => ?_)
                · (try dsimp only); try trivial
                clear hK K
                (try simp only [Act.put, stA, st0, st1])))
              (refine wpAnyH_ready (rs := [2]) (by kernel_rfl) (by simp) ?_)
              refine AllReadyH.cons rfl (fun K hK => ?_) AllReadyH.nil
              · (go_simp
                 ((go_at_call 141)
                  refine (R4 _ abA).mono ?_
                  rintro e w4 ⟨rfl, m4, rfl⟩)
                 (try go_wp2_with fail)
                 (refine hK.out _ _ ?_ (fun hHeld => ?_)
                  · (try dsimp only); try trivial
                  clear hK K
                  (try simp only [Act.put, stA, st0, st1])))
                (refine wpAnyH_ready (rs := [8]) (by kernel_rfl) (by simp) ?_)
                refine AllReadyH.cons rfl (fun K hK => ?_) AllReadyH.nil
                · (refine stepLit (by rfl) _ _ (by rfl) (by rfl) (by rfl) (m := D) hDl (by repeat (first | exact new_plain wnA | exact new_drewN wnA | exact new_drew wnA | with_reducible refine old_alloc ?_ | with_reducible refine old_drew ?_ | with_reducible refine old_drewN ?_ _ | with_reducible refine old_ab (by assumption) ?_)) (RB.ab hD0 abA) hDc (by omega) ?_
                   intro A1 c1 w1 L1 e1 a1 o1
                   have p1 := o1 (w.heap.size + 1) wnA wnA
                   clear o1
                   have za1 := a1.size
                   (try simp at za1)
                   have hP : w1.heap[wq.heap.size + 1]? = some (.cells #[.int .i64 0, .slice none 0 0] 108 (0, 0)) := (by repeat (first | exact new_plain wnA | exact new_drewN wnA | exact new_drew wnA | with_reducible refine old_alloc ?_ | with_reducible refine old_drew ?_ | with_reducible refine old_drewN ?_ _ | with_reducible refine old_ab (by assumption) ?_))
                   have m0 := a1.at (p := ⟨wq.heap.size + 1, 0, none⟩) (v := .int .i64 0) (by repeat (first | with_reducible assumption | exact cell_newc wnA rfl | with_reducible apply cell_alloc | with_reducible apply cell_drew | with_reducible apply cell_drewN))
                   have m1 := a1.at (p := ⟨wq.heap.size + 1, 1, none⟩) (v := .slice none 0 0) (by repeat (first | with_reducible assumption | exact cell_newc wnA rfl | with_reducible apply cell_alloc | with_reducible apply cell_drew | with_reducible apply cell_drewN))
                   have m2 : w1.frozen? ⟨wq.heap.size + 1, 0, none⟩ = false := a1.fr wnA (by repeat (first | with_reducible assumption | exact fr_newc wnA | with_reducible refine fr_drewN ?_ | with_reducible refine fr_drew ?_ | (with_reducible refine fr_alloc ?_ ?_; focus (first | (simp; done) | omega | (simp; omega)))))
                   have m3 : w1.frozen? ⟨wq.heap.size + 1, 1, none⟩ = false := a1.fr wnA (by repeat (first | with_reducible assumption | exact fr_newc wnA | with_reducible refine fr_drewN ?_ | with_reducible refine fr_drew ?_ | (with_reducible refine fr_alloc ?_ ?_; focus (first | (simp; done) | omega | (simp; omega)))))
                   (refine hK.out _ _ ?_ (fun hHeld => ?_)
                    · (try dsimp only); try trivial
                    clear hK K
                    (try simp only [Act.put, stA, st0, st1])))
                  (refine rtA 9 ?_ ?_
                   (try simp only [Act.put, stA, st0, st1]))
                  refine r1A 11 (fun K hK => ?_)
                  (go_simp
                   (refine hK.out _ _ ?_ (fun hHeld => ?_)
                    · (try dsimp only); try trivial
                    clear hK K
                    (try simp only [Act.put, stA, st0, st1])))
                  refine wpAnyH_done (by kernel_rfl) ?_ _
                  go_wp2_with fail
                  go_meet
                  exact ⟨wq.heap.size + 1, A1, c1, L1, rfl, (by first | (simp [go_sem, *]; done) | (simp [go_sem]; done)), (by first | (simp [go_sem, *]; done) | (simp [go_sem]; done)), e1, OR.setBox2 (P := wq.heap.size + 1) (show OR 5 (w.heap.size + 1) _ A1 c1 L1 from orA) hP _ _, abA, wnA⟩
          · (go_simp
             (refine hK.out _ _ ?_ (fun hHeld => ?_)
              · (try dsimp only); try trivial
              clear hK K
              (try simp only [Act.put, stA, st0, st1])))
            (refine wpAnyH_ready (rs := [2, 3]) (by kernel_rfl) (by simp) ?_)
            refine AllReadyH.cons rfl (fun K hK => ?_) (AllReadyH.cons rfl (fun K hK => ?_) AllReadyH.nil)
            · (go_simp
               ((go_at_call 141)
                refine (R4 _ abA).mono ?_
                rintro e w4 ⟨rfl, m4, rfl⟩)
               (try go_wp2_with fail)
               (refine hK.out _ _ ?_ (fun hHeld => ?_)
                · (try dsimp only); try trivial
                clear hK K
                (try simp only [Act.put, stA, st0, st1])))
              (refine wpAnyH_ready (rs := [3]) (by kernel_rfl) (by simp) ?_)
              refine AllReadyH.cons rfl (fun K hK => ?_) AllReadyH.nil
              · (go_simp
                 (refine hK.out _ _ ?_ (fun hHeld => ?_)
                  · (try dsimp only); try trivial
                  clear hK K
                  (try simp only [Act.put, stA, st0, st1])))
                (refine wpAnyH_ready (rs := [8]) (by kernel_rfl) (by simp) ?_)
                refine AllReadyH.cons rfl (fun K hK => ?_) AllReadyH.nil
                · (refine stepLit (by rfl) _ _ (by rfl) (by rfl) (by rfl) (m := D) hDl (by repeat (first | exact new_plain wnA | exact new_drewN wnA | exact new_drew wnA | with_reducible refine old_alloc ?_ | with_reducible refine old_drew ?_ | with_reducible refine old_drewN ?_ _ | with_reducible refine old_ab (by assumption) ?_)) (RB.ab hD0 abA) hDc (by omega) ?_
                   intro A1 c1 w1 L1 e1 a1 o1
                   have p1 := o1 (w.heap.size + 1) wnA wnA
                   clear o1
                   have za1 := a1.size
                   (try simp at za1)
                   have hP : w1.heap[wq.heap.size]? = some (.cells #[.int .i64 0, .slice none 0 0] 108 (0, 0)) := (by repeat (first | exact new_plain wnA | exact new_drewN wnA | exact new_drew wnA | with_reducible refine old_alloc ?_ | with_reducible refine old_drew ?_ | with_reducible refine old_drewN ?_ _ | with_reducible refine old_ab (by assumption) ?_))
                   have m0 := a1.at (p := ⟨wq.heap.size, 0, none⟩) (v := .int .i64 0) (by repeat (first | with_reducible assumption | exact cell_newc wnA rfl | with_reducible apply cell_alloc | with_reducible apply cell_drew | with_reducible apply cell_drewN))
                   have m1 := a1.at (p := ⟨wq.heap.size, 1, none⟩) (v := .slice none 0 0) (by repeat (first | with_reducible assumption | exact cell_newc wnA rfl | with_reducible apply cell_alloc | with_reducible apply cell_drew | with_reducible apply cell_drewN))
                   have m2 : w1.frozen? ⟨wq.heap.size, 0, none⟩ = false := a1.fr wnA (by repeat (first | with_reducible assumption | exact fr_newc wnA | with_reducible refine fr_drewN ?_ | with_reducible refine fr_drew ?_ | (with_reducible refine fr_alloc ?_ ?_; focus (first | (simp; done) | omega | (simp; omega)))))
                   have m3 : w1.frozen? ⟨wq.heap.size, 1, none⟩ = false := a1.fr wnA (by repeat (first | with_reducible assumption | exact fr_newc wnA | with_reducible refine fr_drewN ?_ | with_reducible refine fr_drew ?_ | (with_reducible refine fr_alloc ?_ ?_; focus (first | (simp; done) | omega | (simp; omega)))))
                   (refine hK.out _ _ ?_ (fun hHeld => ?_)
                    · (try dsimp only); try trivial
                    clear hK K
                    (try simp only [Act.put, stA, st0, st1])))
                  (refine rtA 9 ?_ ?_
                   (try simp only [Act.put, stA, st0, st1]))
                  refine r1A 11 (fun K hK => ?_)
                  (go_simp
                   (refine hK.out _ _ ?_ (fun hHeld => ?_)
                    · (try dsimp only); try trivial
                    clear hK K
                    (try simp only [Act.put, stA, st0, st1])))
                  refine wpAnyH_done (by kernel_rfl) ?_ _
                  go_wp2_with fail
                  go_meet
                  exact ⟨wq.heap.size, A1, c1, L1, rfl, (by first | (simp [go_sem, *]; done) | (simp [go_sem]; done)), (by first | (simp [go_sem, *]; done) | (simp [go_sem]; done)), e1, OR.setBox2 (P := wq.heap.size) (show OR 5 (w.heap.size + 1) _ A1 c1 L1 from orA) hP _ _, abA, wnA⟩
            · (go_simp
               (refine hK.out _ _ ?_ (fun hHeld => ?_)
                · (try dsimp only); try trivial
                clear hK K
                (try simp only [Act.put, stA, st0, st1])))
              (refine wpAnyH_ready (rs := [2]) (by kernel_rfl) (by simp) ?_)
              refine AllReadyH.cons rfl (fun K hK => ?_) AllReadyH.nil
              · (go_simp
                 ((go_at_call 141)
                  refine (R4 _ abA).mono ?_
                  rintro e w4 ⟨rfl, m4, rfl⟩)
                 (try go_wp2_with fail)
                 (refine hK.out _ _ ?_ (fun hHeld => ?_)
                  · (try dsimp only); try trivial
                  clear hK K
                  (try simp only [Act.put, stA, st0, st1])))
                (refine wpAnyH_ready (rs := [8]) (by kernel_rfl) (by simp) ?_)
                refine AllReadyH.cons rfl (fun K hK => ?_) AllReadyH.nil
                · (refine stepLit (by rfl) _ _ (by rfl) (by rfl) (by rfl) (m := D) hDl (by repeat (first | exact new_plain wnA | exact new_drewN wnA | exact new_drew wnA | with_reducible refine old_alloc ?_ | with_reducible refine old_drew ?_ | with_reducible refine old_drewN ?_ _ | with_reducible refine old_ab (by assumption) ?_)) (RB.ab hD0 abA) hDc (by omega) ?_
                   intro A1 c1 w1 L1 e1 a1 o1
                   have p1 := o1 (w.heap.size + 1) wnA wnA
                   clear o1
                   have za1 := a1.size
                   (try simp at za1)
                   have hP : w1.heap[wq.heap.size]? = some (.cells #[.int .i64 0, .slice none 0 0] 108 (0, 0)) := (by repeat (first | exact new_plain wnA | exact new_drewN wnA | exact new_drew wnA | with_reducible refine old_alloc ?_ | with_reducible refine old_drew ?_ | with_reducible refine old_drewN ?_ _ | with_reducible refine old_ab (by assumption) ?_))
                   have m0 := a1.at (p := ⟨wq.heap.size, 0, none⟩) (v := .int .i64 0) (by repeat (first | with_reducible assumption | exact cell_newc wnA rfl | with_reducible apply cell_alloc | with_reducible apply cell_drew | with_reducible apply cell_drewN))
                   have m1 := a1.at (p := ⟨wq.heap.size, 1, none⟩) (v := .slice none 0 0) (by repeat (first | with_reducible assumption | exact cell_newc wnA rfl | with_reducible apply cell_alloc | with_reducible apply cell_drew | with_reducible apply cell_drewN))
                   have m2 : w1.frozen? ⟨wq.heap.size, 0, none⟩ = false := a1.fr wnA (by repeat (first | with_reducible assumption | exact fr_newc wnA | with_reducible refine fr_drewN ?_ | with_reducible refine fr_drew ?_ | (with_reducible refine fr_alloc ?_ ?_; focus (first | (simp; done) | omega | (simp; omega)))))
                   have m3 : w1.frozen? ⟨wq.heap.size, 1, none⟩ = false := a1.fr wnA (by repeat (first | with_reducible assumption | exact fr_newc wnA | with_reducible refine fr_drewN ?_ | with_reducible refine fr_drew ?_ | (with_reducible refine fr_alloc ?_ ?_; focus (first | (simp; done) | omega | (simp; omega)))))
                   (refine hK.out _ _ ?_ (fun hHeld => ?_)
                    · (try dsimp only); try trivial
                    clear hK K
                    (try simp only [Act.put, stA, st0, st1])))
                  (refine rtA 9 ?_ ?_
                   (try simp only [Act.put, stA, st0, st1]))
                  refine r1A 11 (fun K hK => ?_)
                  (go_simp
                   (refine hK.out _ _ ?_ (fun hHeld => ?_)
                    · (try dsimp only); try trivial
                    clear hK K
                    (try simp only [Act.put, stA, st0, st1])))
                  refine wpAnyH_done (by kernel_rfl) ?_ _
                  go_wp2_with fail
                  go_meet
                  exact ⟨wq.heap.size, A1, c1, L1, rfl, (by first | (simp [go_sem, *]; done) | (simp [go_sem]; done)), (by first | (simp [go_sem, *]; done) | (simp [go_sem]; done)), e1, OR.setBox2 (P := wq.heap.size) (show OR 5 (w.heap.size + 1) _ A1 c1 L1 from orA) hP _ _, abA, wnA⟩
        obtain ⟨p, E, ce, dat, rfl, p0, p1, eD, oE, bc, hpw⟩ := hcut
        replace zq0 := bc.at zq0
        replace zq1 := bc.at zq1
        replace zr0 := bc.fr (p := ⟨w.heap.size, 0, none⟩) hzz zr0
        replace zr1 := bc.fr (p := ⟨w.heap.size, 1, none⟩) hzz zr1
        have hsz2 := bc.size
        have hbw : Ab w wc := bq.trans bc
        have ldat : dat.length ≤ 1000 := by rw [eD.out, hDl]; omega
        have hoE := oE.rb
        have hlE := oE.le
        have hPre : ∀ r, Frame.Pre r b → r = ⟨(n4 : Int), dat⟩ := fun r h => by rw [hPI.out r h, eD.out]
        have HPI := Lib.hid hPre
        clear hd12 hsum hs4 R4 hPI hDc hDl hD0 eD hPre bc bq N0 N4
        have zzc := cell_lt zq0
        simp only at zzc
        go_upto_region 7 with fail
        cases hv : vB ⟨(n4 : Int), dat⟩
        · have HV := Lib.hid hv; clear hv
          refine wp_region_held_drew (by kernel_rfl) (S := fun w' => w'.cell? ⟨p, 0, none⟩ = some (.int .i64 (n4 : Int)) ∧ w'.cell? ⟨p, 1, none⟩ = some (.slice E dat.length ce)) ?_ (fun hHeld => ?_)
          · exact ⟨ckA, ckA⟩
          (refine rtA 0 ?_ ?_
           (try simp only [Act.put, stA, st0, st1]))
          (refine rtA 1 ?_ ?_
           (try simp only [Act.put, stA, st0, st1]))
          refine r1A 2 (fun K hK => ?_)
          (go_simp
           ((go_at_call 142)
            refine (valid_any (n4 : Int) E dat ce _).mono ?_
            rintro e w5 ⟨rfl, b5⟩
            rw [HV.out]
            have bw5 : Ab wc w5 := abA
            have y0 := bw5.at zq0
            have y1 := bw5.at zq1
            have y2 := bw5.fr (p := ⟨w.heap.size, 0, none⟩) zzc zr0
            have y3 := bw5.fr (p := ⟨w.heap.size, 1, none⟩) zzc zr1)
           (try go_wp2_with fail)
           (refine hK.out _ _ ?_ (fun hHeld => ?_)
            · (try dsimp only); exact ⟨ckA, ckA⟩
            clear hK K
            (try simp only [Act.put, stA, st0, st1])))
          (refine rtA 3 ?_ ?_
           (try simp only [Act.put, stA, st0, st1]))
          (refine rtS 4 ?_
           (try simp only [Act.put, stA, st0, st1]))
          (refine rtS 5 ?_
           (try simp only [Act.put, stA, st0, st1]))
          (refine rtS 6 ?_
           (try simp only [Act.put, stA, st0, st1]))
          (refine rtS 7 ?_
           (try simp only [Act.put, stA, st0, st1]))
          (refine wpAnyH_ready (rs := [8, 9]) (by kernel_rfl) (by simp) ?_)
          refine AllReadyH.cons rfl (fun K hK => ?_) (AllReadyH.cons rfl (fun K hK => ?_) AllReadyH.nil)
          · (go_simp
             (refine hK.out _ _ ?_ (fun hHeld => ?_)
              · (try dsimp only); exact ⟨ckA, ckA⟩
              clear hK K
              (try simp only [Act.put, stA, st0, st1])))
            refine r1A 9 (fun K hK => ?_)
            (go_simp
             (refine hK.out _ _ ?_ (fun hHeld => ?_)
              · (try dsimp only); exact ⟨ckA, ckA⟩
              clear hK K
              (try simp only [Act.put, stA, st0, st1])))
            refine r1A 10 (fun K hK => ?_)
            (go_simp
             (refine hK.out _ _ ?_ (fun hHeld => ?_)
              · (try dsimp only); exact ⟨ckA, ckA⟩
              clear hK K
              (try simp only [Act.put, stA, st0, st1])))
            refine wpAnyH_done (by kernel_rfl) ?_ _
            go_wp2
            refine bodyPost_ret (v := .tuple #[.agg #[.int .i64 (n4 : Int), .slice E dat.length ce], .bool false]) (by simp [results, Tryz.results136, go_sem, y0, y1, y2, y3]) rfl ?_
            refine ⟨⟨n4, E, ce, dat⟩, false, rfl, Lib.hid (fun h => by cases h), Lib.hid (fun _ r hr => ?_), ⟨OR.rb (e := 5) (c := ce) (OR.mono (lo := w.heap.size + 1) orA (by omega)), hlE, by simp only; omega⟩, abA, ldat⟩
            have := HPI.out r hr
            subst this
            exact vB_false.1 HV.out hr.1
          · (go_simp
             (refine hK.out _ _ ?_ (fun hHeld => ?_)
              · (try dsimp only); exact ⟨ckA, ckA⟩
              clear hK K
              (try simp only [Act.put, stA, st0, st1])))
            refine r1A 8 (fun K hK => ?_)
            (go_simp
             (refine hK.out _ _ ?_ (fun hHeld => ?_)
              · (try dsimp only); exact ⟨ckA, ckA⟩
              clear hK K
              (try simp only [Act.put, stA, st0, st1])))
            refine r1A 10 (fun K hK => ?_)
            (go_simp
             (refine hK.out _ _ ?_ (fun hHeld => ?_)
              · (try dsimp only); exact ⟨ckA, ckA⟩
              clear hK K
              (try simp only [Act.put, stA, st0, st1])))
            refine wpAnyH_done (by kernel_rfl) ?_ _
            go_wp2
            refine bodyPost_ret (v := .tuple #[.agg #[.int .i64 (n4 : Int), .slice E dat.length ce], .bool false]) (by simp [results, Tryz.results136, go_sem, y0, y1, y2, y3]) rfl ?_
            refine ⟨⟨n4, E, ce, dat⟩, false, rfl, Lib.hid (fun h => by cases h), Lib.hid (fun _ r hr => ?_), ⟨OR.rb (e := 5) (c := ce) (OR.mono (lo := w.heap.size + 1) orA (by omega)), hlE, by simp only; omega⟩, abA, ldat⟩
            have := HPI.out r hr
            subst this
            exact vB_false.1 HV.out hr.1
        · have HV := Lib.hid hv; clear hv
          refine wp_region_held_drew (by kernel_rfl) (S := fun w' => w'.cell? ⟨p, 0, none⟩ = some (.int .i64 (n4 : Int)) ∧ w'.cell? ⟨p, 1, none⟩ = some (.slice E dat.length ce)) ?_ (fun hHeld => ?_)
          · exact ⟨ckA, ckA⟩
          (refine rtA 0 ?_ ?_
           (try simp only [Act.put, stA, st0, st1]))
          (refine rtA 1 ?_ ?_
           (try simp only [Act.put, stA, st0, st1]))
          refine r1A 2 (fun K hK => ?_)
          (go_simp
           ((go_at_call 142)
            refine (valid_any (n4 : Int) E dat ce _).mono ?_
            rintro e w5 ⟨rfl, b5⟩
            rw [HV.out]
            have bw5 : Ab wc w5 := abA
            have y0 := bw5.at zq0
            have y1 := bw5.at zq1
            have y2 := bw5.fr (p := ⟨w.heap.size, 0, none⟩) zzc zr0
            have y3 := bw5.fr (p := ⟨w.heap.size, 1, none⟩) zzc zr1)
           (try go_wp2_with fail)
           (refine hK.out _ _ ?_ (fun hHeld => ?_)
            · (try dsimp only); exact ⟨ckA, ckA⟩
            clear hK K
            (try simp only [Act.put, stA, st0, st1])))
          (refine rtA 3 ?_ ?_
           (try simp only [Act.put, stA, st0, st1]))
          (refine rtA 4 ?_ ?_
           (try simp only [Act.put, stA, st0, st1]))
          (refine rtA 5 ?_ ?_
           (try simp only [Act.put, stA, st0, st1]))
          refine r1A 6 (fun K hK => ?_)
          (go_simp
           ((go_at_call 81)
            refine (bytes_any (n4 : Int) E dat ce _ (vB_true.1 HV.out) (RB.zero (hoE.ab abA)) hlE).mono ?_
            rintro e w6 ⟨A6, c6, L6, e6, rfl, o6, b6⟩
            have l6 : L6.length ≤ 2000 := by rw [e6.out, Frame.enc_length]; simp only; omega)
           (try go_wp2_with fail)
           (refine hK.out _ _ ?_ (fun hHeld => ?_)
            · (try dsimp only); exact ⟨ckA, ckA⟩
            clear hK K
            (try simp only [Act.put, stA, st0, st1])))
          refine r1A 7 (fun K hK => ?_)
          (go_simp
           ((go_at_call 143)
            refine (starts_any A A6 c c6 b L6 _ (hb.ab abA) (o6.rb.zero.ab abA) hc (by omega) (by omega)).mono ?_
            rintro e w7 ⟨v, hv7, rfl, b7⟩
            have bw7 : Ab wc w7 := abA
            replace y0 := bw7.at zq0
            replace y1 := bw7.at zq1
            replace y2 := bw7.fr (p := ⟨w.heap.size, 0, none⟩) zzc zr0
            replace y3 := bw7.fr (p := ⟨w.heap.size, 1, none⟩) zzc zr1)
           (try go_wp2_with fail)
           (refine hK.out _ _ ?_ (fun hHeld => ?_)
            · (try dsimp only); exact ⟨ckA, ckA⟩
            clear hK K
            (try simp only [Act.put, stA, st0, st1])))
          (refine wpAnyH_ready (rs := [8, 9]) (by kernel_rfl) (by simp) ?_)
          refine AllReadyH.cons rfl (fun K hK => ?_) (AllReadyH.cons rfl (fun K hK => ?_) AllReadyH.nil)
          · (go_simp
             (refine hK.out _ _ ?_ (fun hHeld => ?_)
              · (try dsimp only); exact ⟨ckA, ckA⟩
              clear hK K
              (try simp only [Act.put, stA, st0, st1])))
            refine r1A 9 (fun K hK => ?_)
            (go_simp
             (refine hK.out _ _ ?_ (fun hHeld => ?_)
              · (try dsimp only); exact ⟨ckA, ckA⟩
              clear hK K
              (try simp only [Act.put, stA, st0, st1])))
            refine r1A 10 (fun K hK => ?_)
            (go_simp
             (refine hK.out _ _ ?_ (fun hHeld => ?_)
              · (try dsimp only); exact ⟨ckA, ckA⟩
              clear hK K
              (try simp only [Act.put, stA, st0, st1])))
            refine wpAnyH_done (by kernel_rfl) ?_ _
            go_wp2
            refine bodyPost_ret (v := .tuple #[.agg #[.int .i64 (n4 : Int), .slice E dat.length ce], .bool v]) (by simp [results, Tryz.results136, go_sem, y0, y1, y2, y3]) rfl ?_
            refine ⟨⟨n4, E, ce, dat⟩, v, rfl, Lib.hid (fun h => ?_), Lib.hid (fun h r hr => ?_), ⟨OR.rb (e := 5) (c := ce) (OR.mono (lo := w.heap.size + 1) (OR.set (OR.set (oE.keep bw7) wnA _) wnA _) (by omega)), hlE, by simp only; omega⟩, abA, ldat⟩
            · have h9 := hv7.out.1 h
              rw [e6.out] at h9
              exact ⟨vB_true.1 HV.out, h9⟩
            · have h8 := HPI.out r hr
              subst h8
              have h9 := hr.2
              have h10 := hv7.out.2 (by rw [e6.out]; exact h9)
              rw [h] at h10
              cases h10
          · (go_simp
             (refine hK.out _ _ ?_ (fun hHeld => ?_)
              · (try dsimp only); exact ⟨ckA, ckA⟩
              clear hK K
              (try simp only [Act.put, stA, st0, st1])))
            refine r1A 8 (fun K hK => ?_)
            (go_simp
             (refine hK.out _ _ ?_ (fun hHeld => ?_)
              · (try dsimp only); exact ⟨ckA, ckA⟩
              clear hK K
              (try simp only [Act.put, stA, st0, st1])))
            refine r1A 10 (fun K hK => ?_)
            (go_simp
             (refine hK.out _ _ ?_ (fun hHeld => ?_)
              · (try dsimp only); exact ⟨ckA, ckA⟩
              clear hK K
              (try simp only [Act.put, stA, st0, st1])))
            refine wpAnyH_done (by kernel_rfl) ?_ _
            go_wp2
            refine bodyPost_ret (v := .tuple #[.agg #[.int .i64 (n4 : Int), .slice E dat.length ce], .bool v]) (by simp [results, Tryz.results136, go_sem, y0, y1, y2, y3]) rfl ?_
            refine ⟨⟨n4, E, ce, dat⟩, v, rfl, Lib.hid (fun h => ?_), Lib.hid (fun h r hr => ?_), ⟨OR.rb (e := 5) (c := ce) (OR.mono (lo := w.heap.size + 1) (OR.set (OR.set (oE.keep bw7) wnA _) wnA _) (by omega)), hlE, by simp only; omega⟩, abA, ldat⟩
            · have h9 := hv7.out.1 h
              rw [e6.out] at h9
              exact ⟨vB_true.1 HV.out, h9⟩
            · have h8 := HPI.out r hr
              subst h8
              have h9 := hr.2
              have h10 := hv7.out.2 (by rw [e6.out]; exact h9)
              rw [h] at h10
              cases h10
end Go.Proofs.YthgcfjhnnhigoaaGreat

/- Found and Scan of the reference, walked. Own work. -/
namespace Go.Proofs.YthgcfjhnnhigoaaGreat
open Go.RowKit

set_option maxHeartbeats 1600000 in
theorem found_any (A : Option Addr) (b : List UInt8) (c : Nat) (w : World) (hb : RB w 0 A b) (hc : b.length ≤ c) (hle : b.length ≤ 20000) :
    Calls Tryz.prog 124 #[.slice A b.length c] w fun e w' => ∃ B d xs u, Hid (Frame.IsScan b (recs xs) u) ∧ e = .returned (.tuple #[.slice B xs.length d, .int .i64 (u : Int)]) ∧
      OwnRecs w.heap.size w' B d xs ∧ Ab w w' := by
  go_enter Tryz.func124, Tryz.ntmps124
  go_wp2
  go_loopw [4, 5] (fun f t wr => ∃ (B : Option Addr) (d : Nat) (xs : List RecM) (u : Nat), f = .slice B xs.length d ∧ t = .int .i64 u ∧ Hid (Along b (recs xs) u) ∧ OwnRecs w.heap.size wr B d xs ∧ Ab w wr ∧ 12 * xs.length ≤ u) (fun _ t _ => b.length - (intOf t).toNat)
  case atStart => exact ⟨none, 0, [], 0, rfl, rfl, Lib.hid (Along.nil b), OwnRecs.nil, Ab.refl _, Nat.le_refl _⟩
  case round =>
    obtain ⟨B, d, xs, u, rfl, rfl, hA, ho, hb', h12⟩ := hrel
    have hu := hA.out.le
    have hs := fun w => run_cut u .i64 A b.length c w hu
    have G0 : ∀ w', Ab w w' → Calls Tryz.prog 136 #[.slice (cutA A c u) (b.length - u) (c - u)] w' (GotRec w' (b.drop u)) := fun w' h => by
      have := one_any (cutA A c u) (b.drop u) (c - u) w' ((hb.ab h).cut u c hc) (by simp; omega) (by simp; omega)
      rw [List.length_drop] at this
      exact this
    go_wp2_with fail
    refine (G0 _ abA).mono ?_
    rintro e w1 ⟨x, ok, rfl, hP, hN, hL, hb1, hx1⟩
    have HW := ho.ab hb1
    cases ok with
    | false =>
      go_wp2_with fail
      go_quiet (fail)
      go_wp2
      go_ret2
      exact ⟨B, d, xs, u, Lib.hid (hA.out.stop (fun r hr => absurd hr (hN.out (by trivial) r))), rfl, HW.ab abA, abA⟩
    | true =>
      have HP := Lib.hid (hP.out (by trivial))
      clear hP hN hs G0
      have hroom : u + (12 + x.b.length) ≤ b.length := by
        have h1 : 12 + x.b.length ≤ (b.drop u).length := (Frame.pre_facts HP.out).1
        rw [List.length_drop] at h1; omega
      have hrg := ho.1.rng
      have hxA : ∀ p q, B = some p → x.A = some q → 0 < x.b.length → q.block ≠ p.block := fun p q hp hq hl => by
        obtain ⟨ad, h1, h2, _⟩ := hL.1 hl
        rw [hq] at h1
        obtain rfl := Option.some.inj h1
        have := (hrg p hp).2
        omega
      have hsz := hb'.size
      have hsz1 := hb1.size
      have hL0 : Laid w1 w.heap.size x := hL.mono hsz
      have hrow : ∀ g, B.map (·.block) = some g → w.heap.size ≤ g := fun g hg => by
        obtain ⟨a, ha, rfl⟩ := map_blk hg
        exact (hrg a ha).1
      have hfar : ∀ a, B = some a → a.block ≠ w1.heap.size := fun a ha => by have := (hrg a ha).2; omega
      go_wp2_with fail
      have hb2 : Ab w1 (w1.alloc (.cells #[.int .i64 x.num, .slice x.A x.b.length x.c] 108)) := abA
      have xq0 : (w1.alloc (.cells #[.int .i64 x.num, .slice x.A x.b.length x.c] 108)).cell? ⟨w1.heap.size, 0, none⟩ = some (.int .i64 x.num) := by simp [go_sem]
      have xq1 : (w1.alloc (.cells #[.int .i64 x.num, .slice x.A x.b.length x.c] 108)).cell? ⟨w1.heap.size, 1, none⟩ = some (.slice x.A x.b.length x.c) := by simp [go_sem]
      generalize (w1.alloc (.cells #[.int .i64 x.num, .slice x.A x.b.length x.c] 108)) = w2 at *
      by_cases hx0 : xs = []
      · have hnext := Lib.hid (show Frame.Next (recs xs) x.r by subst hx0; exact next_nil _)
        have hl0 : xs.length = 0 := by subst hx0; rfl
        go_quiet (fail)
        have hb3 : Ab w2 (w2.drewN nq) := abA
        generalize (w2.drewN nq) = w3 at *
        replace xq0 := hb3.at xq0
        replace xq1 := hb3.at xq1
        have hHW := HW.ab (hb2.trans hb3)
        have hLW := hL0.ab (hb2.trans hb3)
        have hbW : Ab w w3 := abA
        have hsz3 := (hb2.trans hb3).size
        go_wp2_with ((at_builtin
                      refine listAppR (x := x) (fr := (0, 0)) rfl _ _ rfl rfl rfl (hHW.ab abA) wnA (by (repeat (first | exact new_plain wnA | with_reducible refine old_alloc ?_ | with_reducible refine old_drew ?_ | with_reducible refine old_set ?_ wnA | with_reducible refine old_ab (by assumption) ?_))) (hLW.ab abA) hxA (by omega) ?_
                      intro g' c' w4 ys hys hown hgr hgk
                      have xr1 := grown_cell (b := w1.heap.size) (o := 1) (v := .slice x.A x.b.length x.c) hgr ckA hfar
                      have hbZ : Ab w w4 := grown_ab (hbW.alloc _) hgr hrow))
        go_roundw
        case rel => exact ⟨some ⟨g', 0, none⟩, c', ys, u + (12 + x.b.length), rfl, by go_num, Lib.hid (by rw [hys.out, recs_append]; exact hA.out.snoc HP.out hnext.out), hown, hbZ, by rw [hys.out, List.length_append]; simp; omega⟩
        case measure => simp only [intOf]; omega
      · obtain ⟨k, hk⟩ : ∃ k, xs.length = k + 1 := ⟨xs.length - 1, by have := List.length_pos_iff.2 hx0; omega⟩
        have hk3 : k < xs.length := by omega
        have hni := Lib.hid (next_iff xs k hk x.r)
        have hvk := (hA.out.1 k (by rw [recs_length]; omega)).1
        rw [recs_get xs k (by omega)] at hvk
        obtain ⟨a, hBa, _, c0, _, _⟩ := (HW.ab hb2).recs.at_ hk3
        have hy1 := hvk.1
        have hy2 := hvk.2.1
        change 0 ≤ xs[k].num at hy1
        change xs[k].num ≤ 1000000000 at hy2
        clear hvk
        generalize xs[k].num = y at *
        have hsum : IntKind.i64.wrap (y + 1) = y + 1 := IntWalk.i64_in _ (by omega)
        have hidx : IntKind.i64.wrap ((xs.length : Int) - 1) = (k : Int) := by rw [IntWalk.i64_in _ (by omega)]; omega
        have hp0 : (0 : Int) < (xs.length : Int) := by omega
        have hp1 : 0 < xs.length := by omega
        have hk1 : (k : Int) < (xs.length : Int) := by omega
        have hk2 : (0 : Int) ≤ (k : Int) := by omega
        have hk' := Nat.le_of_eq hk
        have hkn := Lib.hid hk
        clear hk
        by_cases hnx : x.num = y + 1
        · have hnext := Lib.hid (hni.out.2 hnx)
          subst hBa
          go_quiet (fail)
          clear hsum hidx hnx
          have hb3 : Ab w2 (w2.drewN nq) := abA
          generalize (w2.drewN nq) = w3 at *
          replace xq0 := hb3.at xq0
          replace xq1 := hb3.at xq1
          have hHW := HW.ab (hb2.trans hb3)
          have hLW := hL0.ab (hb2.trans hb3)
          have hbW : Ab w w3 := abA
          have hsz3 := (hb2.trans hb3).size
          go_wp2_with ((at_builtin
                        refine listAppR (x := x) (fr := (0, 0)) rfl _ _ rfl rfl rfl (hHW.ab abA) wnA (by (repeat (first | exact new_plain wnA | with_reducible refine old_alloc ?_ | with_reducible refine old_drew ?_ | with_reducible refine old_set ?_ wnA | with_reducible refine old_ab (by assumption) ?_))) (hLW.ab abA) hxA (by omega) ?_
                        intro g' c' w4 ys hys hown hgr hgk
                        have xr1 := grown_cell (b := w1.heap.size) (o := 1) (v := .slice x.A x.b.length x.c) hgr ckA hfar
                        have hbZ : Ab w w4 := grown_ab (hbW.alloc _) hgr hrow))
          go_roundw
          case rel => exact ⟨some ⟨g', 0, none⟩, c', ys, u + (12 + x.b.length), rfl, by go_num, Lib.hid (by rw [hys.out, recs_append]; exact hA.out.snoc HP.out hnext.out), hown, hbZ, by rw [hys.out, List.length_append]; simp; omega⟩
          case measure => simp only [intOf]; omega
        · have hnn : Hid (¬ Frame.Next (recs xs) x.r) := Lib.hid (fun h => hnx (hni.out.1 h))
          subst hBa
          go_quiet (fail)
          clear hsum hidx
          go_wp2
          go_ret2
          exact ⟨_, d, xs, u, Lib.hid (hA.out.stop (fun r hr => by rw [← Frame.pre_unique HP.out hr]; exact hnn.out)), rfl, HW.ab abA, abA⟩

end Go.Proofs.YthgcfjhnnhigoaaGreat

/- Following, walked. Own work. -/
namespace Go.Proofs.YthgcfjhnnhigoaaGreat
open Go.RowKit

def FollP (xs : List RecM) (w : World) (e : Ending) (w' : World) : Prop := ∃ v : Bool, Hid (v = true ↔ Frame.Foll (recs xs)) ∧ e = .returned (.bool v) ∧ Ab w w'
end Go.Proofs.YthgcfjhnnhigoaaGreat

/- FrameScans, walked. Own work. -/
namespace Go.Proofs.YthgcfjhnnhigoaaGreat
open Go.RowKit

theorem Recs.grown {w w' : World} {lo : Nat} {A : Option Addr} {xs : List RecM} {row : Option Nat} (h : Recs w lo A xs) (hg : w.grownBy w' row) (hne : ∀ g, row = some g → g < lo) : Recs w' lo A xs :=
  h.block fun g h1 h2 => hg.block g h2 (fun e => by have := hne g e.symm; omega)
theorem scan_count {b : List UInt8} {xs : List RecM} {u er : Int} (h : ScanE b (recs xs) u er) : xs.length ≤ b.length := by
  rcases h with ⟨_, h0, _⟩ | ⟨_, _, n, _, hs⟩
  · have := congrArg List.length h0
    rw [recs_length] at this; simp at this; subst this; simp
  · have h1 := hs.2.2.1.length_le
    have h2 : ∀ l : List Frame.Rec, l.length ≤ (Frame.all l).length := by
      intro l
      induction l with
      | nil => simp
      | cons r l ih => rw [Frame.all_cons, List.length_append, Frame.enc_length, List.length_cons]; omega
    have h3 := h2 (recs xs)
    rw [recs_length] at h3
    omega

end Go.Proofs.YthgcfjhnnhigoaaGreat
