/- The reference takes in a block, walked. Own work. -/
import Derived.Test.YthfffbpcmlgoiaaGreatDoorCShRefA
import Derived.Deep.DeepCutAuto
set_option linter.unusedVariables false
set_option linter.unusedSimpArgs false
namespace Go.Proofs.YthfffbpcmlgoiaaGreatDoor
open Go.RowKit

theorem wrap_u32 (v : Int) (h0 : 0 ≤ v) (h1 : v < 4294967296) : IntKind.u32.wrap v = v := by
  simp [IntKind.wrap, IntKind.bits, IntKind.signed]; omega
theorem add_succ (a : Addr) (n : Nat) : a.add (n + 1) = ⟨a.block, a.off + (n + 1), none⟩ := by
  unfold Addr.add; simp
set_option maxRecDepth 100000 in
/-- As stepW, and the words that lay in the row before lie there behind it. -/
theorem stepW2 {ops : Array Oper} {o : Oper} {a : Act} {w : World} {K : Act → World → Prop} {Q : Exit → Act → World → Prop} {E : Prop} {lo t c g gA : Nat} {l : List (BitVec 32)} {T : TypeId} {fr : Nat × Nat} {v : Int} (y : BitVec 32) (hv : v = (y.toNat : Int))
    (hgd : o.guard = none) (s x : Operand) (ho : o.op = .call { callee := .builtin .append, args := #[s, x], argTypes := #[146, 146] }) (hs : a.eval s = .slice (some ⟨gA, 0, none⟩) t c) (hx : a.eval x = .slice (some ⟨g, 0, none⟩) 1 1) (hg : w.heap[g]? = some (.cells #[.int .u32 v] T fr))
    (h : OW lo w (some ⟨gA, 0, none⟩) t c l) (hlo : lo ≤ w.heap.size) (ht : t ≤ 1000)
    (hk : ∀ A' c' w', OW lo w' A' (t + 1) c' (l ++ [y]) → (∀ W : World, Ab W w → W.heap.size ≤ lo → Ab W w') → (∀ (i : Nat) (u : Value), (l.map wv)[i]? = some u → w'.cell? ⟨gA, i, none⟩ = some u) → K (a.put o.dst (.slice A' (t + 1) c')) w') :
    if Region.wanted o (yielded ops a.tmps) = true then Oper.wp Tryz.prog o a w K Q else E := by
  subst hv
  obtain ⟨i0, hi0, hz0, hz1, hz2⟩ := info_parts infoU32
  have hw : Region.wanted o (yielded ops a.tmps) = true := by simp [Region.wanted, hgd]
  rw [if_pos hw]
  have hcell : ∀ (j : Nat) (u : Value), ([wv y] : List Value)[j]? = some u → w.cell? ((⟨g, 0, none⟩ : Addr).add j) = some u := by
    intro j u hu
    have hj : j = 0 := by have := (List.getElem?_eq_some_iff.1 hu).1; simp at this; omega
    subst hj
    obtain rfl : wv y = u := by simpa using hu
    show w.cell? ((⟨g, 0, none⟩ : Addr).add 0) = _
    have e : (⟨g, 0, none⟩ : Addr).add 0 = ⟨g, 0, none⟩ := by unfold Addr.add; simp
    rw [e]
    unfold World.cell?
    rw [hg]; rfl
  obtain ⟨v', w', hrun, h2, h3, _, _⟩ := run_append_own_at (P := Tryz.prog) w lo 146 o.type 100 i0 _ 1 4 Tryz.underlying146 hi0 hz0 hz1 hz2 rfl (by omega) _ _ _ h.2 ⟨g, 0, none⟩ 1 1 [wv y] rfl hcell (by intro u hu; simp at hu; subst hu; rfl) (by unfold maxLen; omega) (by omega) hlo
  have hA' : ∃ A' c', v' = .slice A' (t + 1) c' := by
    rcases h2.2 with ⟨rfl, h0⟩ | ⟨g', cap, cur, rfl, _⟩
    · omega
    · exact ⟨_, _, rfl⟩
  obtain ⟨A', c', rfl⟩ := hA'
  have hold : ∀ (i : Nat) (u : Value), (l.map wv)[i]? = some u → w'.cell? ⟨gA, i, none⟩ = some u := by
    intro i u hu
    rcases h.2.2 with ⟨h0, _⟩ | ⟨g', cap, cur, hv, hb, hh, hnc, hcm, hcs, htk⟩
    · cases h0
    · cases hv
      by_cases hroom : t + 1 ≤ c
      · have hr := run_append_room (P := Tryz.prog) w 146 o.type 100 i0 Tryz.underlying146 hi0 gA t c cur hh ⟨g, 0, none⟩ 1 1 [wv y] (by rw [hz1]; rfl) hcell (by intro u hu; simp at hu; subst hu; rfl) hroom (by rw [hz1, hcs]; simp; omega)
        rw [hr] at hrun
        injection hrun with e1 e2
        injection e1 with e3 e4 e5
        subst e3 e5
        have := h2.cells (g := gA) rfl i u (by rw [List.getElem?_append_left (by have := (List.getElem?_eq_some_iff.1 hu).1; exact this)]; exact hu)
        have e : (⟨gA, 0, none⟩ : Addr).add i = ⟨gA, i, none⟩ := by unfold Addr.add; split <;> simp_all
        rwa [e] at this
      · have hold0 : ∀ (j : Nat) (u : Value), (l.map wv)[j]? = some u → w.cell? ((⟨gA, 0, none⟩ : Addr).add j) = some u := h.2.cells (g := gA) rfl
        have hr := run_append_grow (P := Tryz.prog) w 146 o.type 100 i0 _ Tryz.underlying146 hi0 hz0 ⟨gA, 0, none⟩ t c (l.map wv) (by rw [hz1, List.length_map, h.1]; omega) hold0 ⟨g, 0, none⟩ 1 1 [wv y] (by rw [hz1]; rfl) hcell (by omega) (by omega) (by rw [hz2]; exact growslice_fits (by omega) (by omega))
        rw [hr] at hrun
        injection hrun with e1 e2
        subst e2
        have := hold0 i u hu
        have e : (⟨gA, 0, none⟩ : Addr).add i = ⟨gA, i, none⟩ := by unfold Addr.add; split <;> simp_all
        rw [e] at this
        rw [World.cell?_alloc_some _ _ _ (by show (w.cell? _).isSome = true; rw [this]; rfl)]
        exact this
  unfold Oper.wp execOp
  simp only [ho, resolve, invoke, builtin, Sem.run_bind, Sem.run_pure, Result.andThen_ok, List.map_toArray, List.map_cons, List.map_nil, hs, hx, hrun]
  refine hk A' c' w' ⟨by simp [h.1], by simpa using h2⟩ (fun W hW hl => ?_) hold
  refine Below.grown hW.out h3 hW.size ?_
  intro k hk
  exact Nat.le_trans hl (h.2.lt k hk).1
set_option maxRecDepth 100000 in
theorem turn_ab (x : BitVec 32) (n : Nat) (v : Int) (hv : v = (n : Int)) (h1 : 1 ≤ n) (h2 : n ≤ 31) (w : World) :
    Calls Tryz.prog 105 #[.int .u32 (x.toNat : Int), .int .i64 v] w fun e w' => e = .returned (.int .u32 ((Sha.rotr x n).toNat : Int)) ∧ Ab w w' :=
  (turn_any x n v hv h1 h2 w).mono fun e w' h => ⟨h.1, by obtain ⟨_, k, rfl⟩ := h; exact (Ab.refl w).drewN k⟩
theorem p_ref (s : Sha.W8) (k x : BitVec 32) : IntKind.u32.wrap (IntKind.u32.wrap (IntKind.u32.wrap (IntKind.u32.wrap ((s.z.toNat : Int) + bits .xor .u32 (bits .xor .u32 ((Sha.rotr s.e 6).toNat : Int) ((Sha.rotr s.e 11).toNat : Int)) ((Sha.rotr s.e 25).toNat : Int)) +
    bits .xor .u32 (bits .and .u32 (s.e.toNat : Int) (s.f.toNat : Int)) (bits .and .u32 (bits .xor .u32 IntKind.u32.max (s.e.toNat : Int)) (s.g.toNat : Int))) + (k.toNat : Int)) + (x.toNat : Int)) = ((Sha.p_ s k x).toNat : Int) := by
  rw [not_form, bx_and, bx_and, bx_xor, bx_xor, bx_xor, wrap_add, wrap_add, wrap_add, wrap_add]
  rfl
theorem q_ref (s : Sha.W8) : (bits .xor .u32 (bits .xor .u32 ((Sha.rotr s.a 2).toNat : Int) ((Sha.rotr s.a 13).toNat : Int)) ((Sha.rotr s.a 22).toNat : Int) + bits .xor .u32 (bits .xor .u32 (bits .and .u32 (s.a.toNat : Int) (s.b.toNat : Int)) (bits .and .u32 (s.a.toNat : Int) (s.c.toNat : Int))) (bits .and .u32 (s.b.toNat : Int) (s.c.toNat : Int))) % 4294967296 = ((Sha.q_ s).toNat : Int) := by
  rw [bx_and, bx_and, bx_and, bx_xor, bx_xor, bx_xor, bx_xor, add_reg]
  rfl
theorem s0_ref (x : BitVec 32) : bits .xor .u32 (bits .xor .u32 ((Sha.rotr x 7).toNat : Int) ((Sha.rotr x 18).toNat : Int)) ((x.toNat : Int) / 8) = ((Sha.s0 x).toNat : Int) := by
  rw [shr_u32 x 3 8 rfl, bx_xor, bx_xor]; rfl
theorem s1_ref (x : BitVec 32) : bits .xor .u32 (bits .xor .u32 ((Sha.rotr x 17).toNat : Int) ((Sha.rotr x 19).toNat : Int)) ((x.toNat : Int) / 1024) = ((Sha.s1 x).toNat : Int) := by
  rw [shr_u32 x 10 1024 rfl, bx_xor, bx_xor]; rfl
/-- The variables of the reference behind t words. -/
structure RT (w0 : World) (t : Nat) (A : Option Addr) (c : Nat) (l : List (BitVec 32)) (w' : World) : Prop where
  ab : Ab w0 w'
  o : OW w0.heap.size w' A t c l
theorem RT.keep {w0 w1 w2 : World} {t c : Nat} {A : Option Addr} {l : List (BitVec 32)} (h : RT w0 t A c l w1) (k : Ab w1 w2) : RT w0 t A c l w2 := ⟨h.ab.trans k, h.o.keep k⟩
theorem word_at (l : List UInt8) (t : Nat) (h : 4 * t + 3 < l.length) : ∃ b0 b1 b2 b3 : UInt8, l[4 * t] = b0 ∧ l[4 * t + 1] = b1 ∧ l[4 * t + 2] = b2 ∧ l[4 * t + 3] = b3 ∧
    Hid ((b0.toNat : Int) * 16777216 + (b1.toNat : Int) * 65536 + (b2.toNat : Int) * 256 + (b3.toNat : Int) = ((Sha.word l t).toNat : Int)) := by
  refine ⟨_, _, _, _, rfl, rfl, rfl, rfl, ?_⟩
  unfold Hid Sha.word Sha.u8
  simp only [List.getD_eq_getElem?_getD]
  rw [List.getElem?_eq_getElem (by omega), List.getElem?_eq_getElem (by omega), List.getElem?_eq_getElem (by omega), List.getElem?_eq_getElem (by omega)]
  simp only [Option.getD_some]
  have t0 := (l[4 * t]).toNat_lt
  have t1 := (l[4 * t + 1]).toNat_lt
  have t2 := (l[4 * t + 2]).toNat_lt
  have t3 := (l[4 * t + 3]).toNat_lt
  rw [BitVec.toNat_ofNat, Nat.mod_eq_of_lt (by omega)]
  omega
set_option maxRecDepth 100000 in
set_option maxHeartbeats 4000000 in
theorem taken_any (h : Sha.W8) (A : Option Addr) (l : List UInt8) (c : Nat) (w : World) (hb : RB w 0 A l) (hc : l.length ≤ c) (h4 : l.length = 64) :
    Calls Tryz.prog 91 #[.agg (w8 h).toArray, .slice A l.length c] w fun e w' => e = .returned (.agg (w8 (Sha.taken h l)).toArray) ∧ Ab w w' := by
  obtain ⟨ad, rfl, _, hcell⟩ := hb (by omega)
  have H4 := Lib.hid h4
  have k2 : (l.length : Int) = 64 := by omega
  have HC := Lib.hid hcell
  have HK : Hid (Sha.taken h l = Sha.add h (Sha.rounds (Sha.ws l 64) h 64)) := Lib.hid rfl
  clear h4 hcell hb
  go_enter Tryz.func91, Tryz.ntmps91
  have V0 : VB ((w.alloc (.cells (w8 h).toArray 101)).alloc (.cells #[.int .u32 0, .int .u32 0, .int .u32 0, .int .u32 0, .int .u32 0, .int .u32 0, .int .u32 0, .int .u32 0] 101)) w.heap.size (w8 h) := VB.box (xs := (w8 h).toArray) (T := 101) (by (repeat (first | exact new_plain wnA | with_reducible refine old_alloc ?_ | with_reducible refine old_drew ?_ | with_reducible refine old_set ?_ wnA | with_reducible refine old_ab (by assumption) ?_)))
  have Z0 : VB ((w.alloc (.cells (w8 h).toArray 101)).alloc (.cells #[.int .u32 0, .int .u32 0, .int .u32 0, .int .u32 0, .int .u32 0, .int .u32 0, .int .u32 0, .int .u32 0] 101)) (w.heap.size + 1) [.int .u32 0, .int .u32 0, .int .u32 0, .int .u32 0, .int .u32 0, .int .u32 0, .int .u32 0, .int .u32 0] := VB.box (xs := #[.int .u32 0, .int .u32 0, .int .u32 0, .int .u32 0, .int .u32 0, .int .u32 0, .int .u32 0, .int .u32 0]) (T := 101) (by (repeat (first | exact new_plain wnA | with_reducible refine old_alloc ?_ | with_reducible refine old_drew ?_ | with_reducible refine old_set ?_ wnA | with_reducible refine old_ab (by assumption) ?_)))
  have hab0 : Ab w ((w.alloc (.cells (w8 h).toArray 101)).alloc (.cells #[.int .u32 0, .int .u32 0, .int .u32 0, .int .u32 0, .int .u32 0, .int .u32 0, .int .u32 0, .int .u32 0] 101)) := abA
  go_upto_region 1 with fail
  generalize ((w.alloc (.cells (w8 h).toArray 101)).alloc (.cells #[.int .u32 0, .int .u32 0, .int .u32 0, .int .u32 0, .int .u32 0, .int .u32 0, .int .u32 0, .int .u32 0] 101)) = w0 at *
  go_wp2
  go_loopw [5, 6] (fun s i w' => ∃ (t : Nat) (A : Option Addr) (c : Nat), t ≤ 16 ∧ i = .int .i64 t ∧ s = .slice A t c ∧ RT w0 t A c (Sha.ws l t) w') (fun _ i _ => 16 - (intOf i).toNat)
  case atStart => exact ⟨0, none, 0, by omega, rfl, rfl, Ab.refl _, OW.nil⟩
  case round =>
    obtain ⟨t, B, d, ht, rfl, rfl, hR⟩ := hrel
    rename World => w1
    by_cases hlt : t < 16
    · obtain ⟨b0, b1, b2, b3, e0, e1, e2, e3, HW⟩ := word_at l t (by have := H4.out; omega)
      have hab1 : Ab w w1 := hab0.trans hR.ab
      have d0 := hab0.at (HC.out (4 * t) (by have := H4.out; omega))
      have d1 := hab0.at (HC.out (4 * t + 1) (by have := H4.out; omega))
      have d2 := hab0.at (HC.out (4 * t + 2) (by have := H4.out; omega))
      have d3 := hab0.at (HC.out (4 * t + 3) (by have := H4.out; omega))
      rw [e0] at d0
      rw [e1, add_succ] at d1
      rw [e2, add_succ] at d2
      rw [e3, add_succ] at d3
      have c0 := hR.ab.at d0
      have c1 := hR.ab.at d1
      have c2 := hR.ab.at d2
      have c3 := hR.ab.at d3
      clear e0 e1 e2 e3
      have hT : (t : Int) < 16 := by omega
      have n0 : (4 * (t : Int)).toNat = 4 * t := by omega
      have n1 : (4 * (t : Int) + 1).toNat = 4 * t + 1 := by omega
      have n2 : (4 * (t : Int) + 2).toNat = 4 * t + 2 := by omega
      have n3 : (4 * (t : Int) + 3).toNat = 4 * t + 3 := by omega
      have j0 : IntKind.i64.wrap (4 * (t : Int)) = 4 * (t : Int) := IntWalk.i64_in _ (by omega)
      have j1 : IntKind.i64.wrap (4 * (t : Int) + 1) = 4 * (t : Int) + 1 := IntWalk.i64_in _ (by omega)
      have j2 : IntKind.i64.wrap (4 * (t : Int) + 2) = 4 * (t : Int) + 2 := IntWalk.i64_in _ (by omega)
      have j3 : IntKind.i64.wrap (4 * (t : Int) + 3) = 4 * (t : Int) + 3 := IntWalk.i64_in _ (by omega)
      have m0 : 0 ≤ 4 * (t : Int) := by omega
      have m1 : 0 ≤ 4 * (t : Int) + 1 := by omega
      have m2 : 0 ≤ 4 * (t : Int) + 2 := by omega
      have m3 : 0 ≤ 4 * (t : Int) + 3 := by omega
      have l0 : 4 * (t : Int) < l.length := by omega
      have l1 : 4 * (t : Int) + 1 < l.length := by omega
      have l2 : 4 * (t : Int) + 2 < l.length := by omega
      have l3 : 4 * (t : Int) + 3 < l.length := by omega
      have t0 := b0.toNat_lt
      have t1 := b1.toNat_lt
      have t2 := b2.toNat_lt
      have t3 := b3.toNat_lt
      have q0 := wrap_u32 ((b0.toNat : Int) * 16777216) (by omega) (by omega)
      have q1 := wrap_u32 ((b1.toNat : Int) * 65536) (by omega) (by omega)
      have q2 := wrap_u32 ((b2.toNat : Int) * 256) (by omega) (by omega)
      have q3 := wrap_u32 ((b0.toNat : Int) * 16777216 + (b1.toNat : Int) * 65536) (by omega) (by omega)
      have q4 := wrap_u32 ((b0.toNat : Int) * 16777216 + (b1.toNat : Int) * 65536 + (b2.toNat : Int) * 256) (by omega) (by omega)
      have q5 := wrap_u32 ((b0.toNat : Int) * 16777216 + (b1.toNat : Int) * 65536 + (b2.toNat : Int) * 256 + (b3.toNat : Int)) (by omega) (by omega)
      have HS : Hid (Sha.ws l (t + 1) = Sha.ws l t ++ [Sha.word l t]) := by unfold Hid; rw [Sha.ws, if_pos hlt]
      have HX : Hid (IntKind.u32.wrap (IntKind.u32.wrap (IntKind.u32.wrap (IntKind.u32.wrap (IntKind.u32.wrap (b0.toNat : Int) * 16777216) + IntKind.u32.wrap (IntKind.u32.wrap (b1.toNat : Int) * 65536)) + IntKind.u32.wrap (IntKind.u32.wrap (b2.toNat : Int) * 256)) + IntKind.u32.wrap (b3.toNat : Int)) = ((Sha.word l t).toNat : Int)) := by
        unfold Hid
        rw [wrap_u32 (b0.toNat : Int) (by omega) (by omega), wrap_u32 (b1.toNat : Int) (by omega) (by omega), wrap_u32 (b2.toNat : Int) (by omega) (by omega), wrap_u32 (b3.toNat : Int) (by omega) (by omega), q0, q1, q2, q3, q4, q5]
        exact HW.out
      clear k2 t0 t1 t2 t3 q0 q1 q2 q3 q4 q5
      generalize Sha.ws l t = wl at *
      go_upto_region 5 with fail
      refine wp_region_held_drew (by kernel_rfl) (S := fun w' => w'.cell? (ad.add (4 * t)) = some (.int .u8 (b0.toNat : Int)) ∧ w'.cell? ⟨ad.block, ad.off + (4 * t + 1), none⟩ = some (.int .u8 (b1.toNat : Int)) ∧ w'.cell? ⟨ad.block, ad.off + (4 * t + 2), none⟩ = some (.int .u8 (b2.toNat : Int)) ∧ w'.cell? ⟨ad.block, ad.off + (4 * t + 3), none⟩ = some (.int .u8 (b3.toNat : Int))) ?_ (fun hHeld => ?_)
      · exact ⟨cell_drew c0, cell_drew c1, cell_drew c2, cell_drew c3⟩
      (refine rtA 0 ?_ ?_
       (try simp only [Act.put, stA, st0, st1]))
      (refine rtA 1 ?_ ?_
       (try simp only [Act.put, stA, st0, st1]))
      (refine rtA 2 ?_ ?_
       (try simp only [Act.put, stA, st0, st1]))
      (refine rtA 3 ?_ ?_
       (try simp only [Act.put, stA, st0, st1]))
      (refine rtA 4 ?_ ?_
       (try simp only [Act.put, stA, st0, st1]))
      (refine rtA 5 ?_ ?_
       (try simp only [Act.put, stA, st0, st1]))
      (refine rtA 6 ?_ ?_
       (try simp only [Act.put, stA, st0, st1]))
      (refine rtA 7 ?_ ?_
       (try simp only [Act.put, stA, st0, st1]))
      (refine rtA 8 ?_ ?_
       (try simp only [Act.put, stA, st0, st1]))
      (refine rtA 9 ?_ ?_
       (try simp only [Act.put, stA, st0, st1]))
      (refine rtA 10 ?_ ?_
       (try simp only [Act.put, stA, st0, st1]))
      (refine rtA 11 ?_ ?_
       (try simp only [Act.put, stA, st0, st1]))
      (refine rtA 12 ?_ ?_
       (try simp only [Act.put, stA, st0, st1]))
      (refine rtA 13 ?_ ?_
       (try simp only [Act.put, stA, st0, st1]))
      (refine rtA 14 ?_ ?_
       (try simp only [Act.put, stA, st0, st1]))
      (refine rtA 15 ?_ ?_
       (try simp only [Act.put, stA, st0, st1]))
      (refine rtA 16 ?_ ?_
       (try simp only [Act.put, stA, st0, st1]))
      (refine rtA 17 ?_ ?_
       (try simp only [Act.put, stA, st0, st1]))
      (refine rtA 18 ?_ ?_
       (try simp only [Act.put, stA, st0, st1]))
      (refine rtA 19 ?_ ?_
       (try simp only [Act.put, stA, st0, st1]))
      (refine rtA 20 ?_ ?_
       (try simp only [Act.put, stA, st0, st1]))
      (refine rtA 21 ?_ ?_
       (try simp only [Act.put, stA, st0, st1]))
      (refine rtA 22 ?_ ?_
       (try simp only [Act.put, stA, st0, st1]))
      (refine rtA 23 ?_ ?_
       (try simp only [Act.put, stA, st0, st1]))
      (refine rtA 24 ?_ ?_
       (try simp only [Act.put, stA, st0, st1]))
      (refine rtA 25 ?_ ?_
       (try simp only [Act.put, stA, st0, st1]))
      (refine rtA 26 ?_ ?_
       (try simp only [Act.put, stA, st0, st1]))
      (refine rtA 27 ?_ ?_
       (try simp only [Act.put, stA, st0, st1]))
      (refine rtA 28 ?_ ?_
       (try simp only [Act.put, stA, st0, st1]))
      (refine rtA 29 ?_ ?_
       (try simp only [Act.put, stA, st0, st1]))
      (refine rtA 30 ?_ ?_
       (try simp only [Act.put, stA, st0, st1]))
      (refine rtA 31 ?_ ?_
       (try simp only [Act.put, stA, st0, st1]))
      (refine rtA 32 ?_ ?_
       (try simp only [Act.put, stA, st0, st1]))
      (refine rtA 33 ?_ ?_
       (try simp only [Act.put, stA, st0, st1]))
      refine r1A 34 (fun K hK => ?_)
      (go_simp
       (refine hK.out _ _ ?_ (fun hHeld => ?_)
        · (try dsimp only); exact ⟨cell_alloc (cell_drew c0), cell_alloc (cell_drew c1), cell_alloc (cell_drew c2), cell_alloc (cell_drew c3)⟩
        clear hK K
        (try simp only [Act.put, stA, st0, st1])))
      refine r1A 35 (fun K hK => ?_)
      (refine stepW (v := IntKind.u32.wrap (IntKind.u32.wrap (IntKind.u32.wrap (IntKind.u32.wrap (IntKind.u32.wrap (b0.toNat : Int) * 16777216) + IntKind.u32.wrap (IntKind.u32.wrap (b1.toNat : Int) * 65536)) + IntKind.u32.wrap (IntKind.u32.wrap (b2.toNat : Int) * 256)) + IntKind.u32.wrap (b3.toNat : Int))) (Sha.word l t) HX.out (by rfl) _ _ (by rfl) (by rfl) (by rfl) (T := 100) (fr := (0, 0)) (by (repeat (first | exact new_plain wnA | with_reducible refine old_alloc ?_ | with_reducible refine old_drew ?_ | with_reducible refine old_set ?_ wnA | with_reducible refine old_ab (by assumption) ?_))) (hR.o.keep (show Ab w1 _ from abA)) (Nat.le_trans hR.ab.size (Ab.size (show Ab w1 _ from abA))) (by omega) ?_
       intro A2 f2 w2 o2 g2
       have bb : Ab w0 w2 := g2 w0 (Ab.trans hR.ab abA) (Nat.le_refl _)
       clear g2
       (refine hK.out _ _ ?_ (fun hHeld => ?_)
        · (try dsimp only); exact ⟨bb.at d0, bb.at d1, bb.at d2, bb.at d3⟩
        clear hK K
        (try simp only [Act.put, stA, st0, st1])))
      refine r1A 36 (fun K hK => ?_)
      (go_simp
       (refine hK.out _ _ ?_ (fun hHeld => ?_)
        · (try dsimp only); exact ⟨bb.at d0, bb.at d1, bb.at d2, bb.at d3⟩
        clear hK K
        (try simp only [Act.put, stA, st0, st1])))
      refine wpAnyH_done (by kernel_rfl) ?_ _
      go_wp2
      go_roundw
      case rel => exact ⟨t + 1, A2, f2, by omega, by go_num, rfl, bb, by rw [HS.out]; exact o2⟩
      case measure => simp [intOf]; omega
    · have e16 : t = 16 := by omega
      subst e16
      clear HC
      go_wp2
      go_loopw [5, 7] (fun s i w' => ∃ (t : Nat) (A : Option Addr) (c : Nat), 16 ≤ t ∧ t ≤ 64 ∧ i = .int .i64 t ∧ s = .slice A t c ∧ RT w0 t A c (Sha.ws l t) w') (fun _ i _ => 64 - (intOf i).toNat)
      case atStart => exact ⟨16, B, d, by omega, by omega, rfl, rfl, hR⟩
      case round =>
        obtain ⟨t, B, d, h16, ht, rfl, rfl, hR⟩ := hrel
        rename World => w1
        by_cases hlt : t < 64
        · obtain ⟨g, rfl, hg⟩ := hR.o.at_ (by omega)
          have hll := hR.o.1
          have hT : (t : Int) < 64 := by omega
          have HS : Hid (Sha.ws l (t + 1) = Sha.ws l t ++ [Sha.at_ (Sha.ws l t) (t - 16) + Sha.at_ (Sha.ws l t) (t - 7) + Sha.s0 (Sha.at_ (Sha.ws l t) (t - 15)) + Sha.s1 (Sha.at_ (Sha.ws l t) (t - 2))]) := by unfold Hid; rw [Sha.ws, if_neg (by omega)]; rfl
          have j15 : IntKind.i64.wrap ((t : Int) - 15) = (t : Int) - 15 := IntWalk.i64_in _ (by omega)
          have n15 : ((t : Int) - 15).toNat = t - 15 := by omega
          have l15 : (t : Int) - 15 < (t : Int) := by omega
          have g15 : 0 ≤ (t : Int) - 15 := by omega
          have p15 : 15 ≤ (t : Int) := by omega
          have c15 := hg (t - 15) _ (ws_at (Sha.ws l t) (t - 15) (by omega))
          have d15 := ws_at (Sha.ws l t) (t - 15) (by omega)
          have j2 : IntKind.i64.wrap ((t : Int) - 2) = (t : Int) - 2 := IntWalk.i64_in _ (by omega)
          have n2 : ((t : Int) - 2).toNat = t - 2 := by omega
          have l2 : (t : Int) - 2 < (t : Int) := by omega
          have g2 : 0 ≤ (t : Int) - 2 := by omega
          have p2 : 2 ≤ (t : Int) := by omega
          have c2 := hg (t - 2) _ (ws_at (Sha.ws l t) (t - 2) (by omega))
          have d2 := ws_at (Sha.ws l t) (t - 2) (by omega)
          have j16 : IntKind.i64.wrap ((t : Int) - 16) = (t : Int) - 16 := IntWalk.i64_in _ (by omega)
          have n16 : ((t : Int) - 16).toNat = t - 16 := by omega
          have l16 : (t : Int) - 16 < (t : Int) := by omega
          have g16 : 0 ≤ (t : Int) - 16 := by omega
          have p16 : 16 ≤ (t : Int) := by omega
          have c16 := hg (t - 16) _ (ws_at (Sha.ws l t) (t - 16) (by omega))
          have d16 := ws_at (Sha.ws l t) (t - 16) (by omega)
          have j7 : IntKind.i64.wrap ((t : Int) - 7) = (t : Int) - 7 := IntWalk.i64_in _ (by omega)
          have n7 : ((t : Int) - 7).toNat = t - 7 := by omega
          have l7 : (t : Int) - 7 < (t : Int) := by omega
          have g7 : 0 ≤ (t : Int) - 7 := by omega
          have p7 : 7 ≤ (t : Int) := by omega
          have c7 := hg (t - 7) _ (ws_at (Sha.ws l t) (t - 7) (by omega))
          have d7 := ws_at (Sha.ws l t) (t - 7) (by omega)
          generalize Sha.at_ (Sha.ws l t) (t - 15) = x15 at *
          generalize Sha.at_ (Sha.ws l t) (t - 2) = x2 at *
          generalize Sha.at_ (Sha.ws l t) (t - 16) = x16 at *
          generalize Sha.at_ (Sha.ws l t) (t - 7) = x7 at *
          clear hg
          go_upto_region 9 with fail
          go_quiet (fail)
          clear c15 c2
          go_wp2_with fail
          refine (turn_ab x15 7 7 rfl (by omega) (by omega) _).mono ?_
          rintro e v7 ⟨rfl, k7⟩
          have b7 : Ab w1 v7 := Ab.trans (by exact abA) k7
          clear k7
          go_wp2_with fail
          refine (turn_ab x15 18 18 rfl (by omega) (by omega) _).mono ?_
          rintro e v18 ⟨rfl, k18⟩
          have b18 : Ab w1 v18 := b7.trans (Ab.trans (by exact abA) k18)
          clear k18
          go_wp2_with fail
          refine (turn_ab x2 17 17 rfl (by omega) (by omega) _).mono ?_
          rintro e v17 ⟨rfl, k17⟩
          have b17 : Ab w1 v17 := b18.trans (Ab.trans (by exact abA) k17)
          clear k17
          go_wp2_with fail
          refine (turn_ab x2 19 19 rfl (by omega) (by omega) _).mono ?_
          rintro e v19 ⟨rfl, k19⟩
          have b19 : Ab w1 v19 := b17.trans (Ab.trans (by exact abA) k19)
          clear k19
          replace c16 := b19.at c16
          replace c7 := b19.at c7
          have hR2 := hR.keep b19
          clear b7 b18 b17
          go_upto_region 12 with fail
          rw [s0_ref, s1_ref]
          have HY : Hid (IntKind.u32.wrap (IntKind.u32.wrap (IntKind.u32.wrap ((x16.toNat : Int) + (x7.toNat : Int)) + ((Sha.s0 x15).toNat : Int)) + ((Sha.s1 x2).toNat : Int)) = ((x16 + x7 + Sha.s0 x15 + Sha.s1 x2).toNat : Int)) := by unfold Hid; rw [wrap_add, wrap_add, wrap_add]
          generalize Sha.s0 x15 = y0 at *
          generalize Sha.s1 x2 = y1 at *
          have HW := Lib.hid (fun (w2 : World) (hx : ∀ (i : Nat) (u : Value), ((Sha.ws l t).map wv)[i]? = some u → w2.cell? ⟨g, i, none⟩ = some u) => And.intro (hx _ _ d16) (hx _ _ d7))
          clear d15 d2 d16 d7
          generalize Sha.ws l t = wl at *
          refine wp_region_held_drew (by kernel_rfl) (S := fun w' => w'.cell? ⟨g, t - 16, none⟩ = some (.int .u32 (x16.toNat : Int)) ∧ w'.cell? ⟨g, t - 7, none⟩ = some (.int .u32 (x7.toNat : Int))) ?_ (fun hHeld => ?_)
          · exact ⟨cell_drew c16, cell_drew c7⟩
          (refine rtA 0 ?_ ?_
           (try simp only [Act.put, stA, st0, st1]))
          (refine rtA 1 ?_ ?_
           (try simp only [Act.put, stA, st0, st1]))
          (refine rtA 2 ?_ ?_
           (try simp only [Act.put, stA, st0, st1]))
          (refine rtA 3 ?_ ?_
           (try simp only [Act.put, stA, st0, st1]))
          (refine rtA 4 ?_ ?_
           (try simp only [Act.put, stA, st0, st1]))
          (refine rtA 5 ?_ ?_
           (try simp only [Act.put, stA, st0, st1]))
          (refine rtA 6 ?_ ?_
           (try simp only [Act.put, stA, st0, st1]))
          (refine rtA 7 ?_ ?_
           (try simp only [Act.put, stA, st0, st1]))
          (refine rtA 8 ?_ ?_
           (try simp only [Act.put, stA, st0, st1]))
          (refine rtA 9 ?_ ?_
           (try simp only [Act.put, stA, st0, st1]))
          (refine rtA 10 ?_ ?_
           (try simp only [Act.put, stA, st0, st1]))
          (refine rtA 11 ?_ ?_
           (try simp only [Act.put, stA, st0, st1]))
          (refine rtA 12 ?_ ?_
           (try simp only [Act.put, stA, st0, st1]))
          (refine rtA 13 ?_ ?_
           (try simp only [Act.put, stA, st0, st1]))
          (refine rtA 14 ?_ ?_
           (try simp only [Act.put, stA, st0, st1]))
          (refine rtA 15 ?_ ?_
           (try simp only [Act.put, stA, st0, st1]))
          refine r1A 16 (fun K hK => ?_)
          (go_simp
           (refine hK.out _ _ ?_ (fun hHeld => ?_)
            · (try dsimp only); exact ⟨cell_alloc (cell_drew c16), cell_alloc (cell_drew c7)⟩
            clear hK K
            (try simp only [Act.put, stA, st0, st1])))
          refine r1A 17 (fun K hK => ?_)
          (refine stepW2 (v := IntKind.u32.wrap (IntKind.u32.wrap (IntKind.u32.wrap ((x16.toNat : Int) + (x7.toNat : Int)) + (y0.toNat : Int)) + (y1.toNat : Int))) (x16 + x7 + y0 + y1) HY.out (by rfl) _ _ (by rfl) (by rfl) (by rfl) (T := 100) (fr := (0, 0)) (by (repeat (first | exact new_plain wnA | with_reducible refine old_alloc ?_ | with_reducible refine old_drew ?_ | with_reducible refine old_set ?_ wnA | with_reducible refine old_ab (by assumption) ?_))) (hR2.o.keep (show Ab v19 _ from abA)) (Nat.le_trans hR2.ab.size (Ab.size (show Ab v19 _ from abA))) (by omega) ?_
           intro A2 f2 w2 o2 g2 x2_
           have bb : Ab w0 w2 := g2 w0 (Ab.trans hR2.ab abA) (Nat.le_refl _)
           clear g2
           (refine hK.out _ _ ?_ (fun hHeld => ?_)
            · (try dsimp only); exact HW.out w2 x2_
            clear hK K
            (try simp only [Act.put, stA, st0, st1])))
          refine r1A 18 (fun K hK => ?_)
          (go_simp
           (refine hK.out _ _ ?_ (fun hHeld => ?_)
            · (try dsimp only); exact HW.out w2 x2_
            clear hK K
            (try simp only [Act.put, stA, st0, st1])))
          refine wpAnyH_done (by kernel_rfl) ?_ _
          go_wp2
          go_roundw
          case rel =>
            repeat apply Exists.intro
            refine ⟨?_, rfl⟩
            exact ⟨t + 1, A2, f2, by omega, by omega, by go_num, rfl, bb, by rw [HS.out]; exact o2⟩
          case measure => simp [intOf]; omega
        · have e64 : t = 64 := by omega
          subst e64
          obtain ⟨g, rfl, hg⟩ := hR.o.at_ (by omega)
          have hll := hR.o.1
          have HL := Lib.hid hll
          have HGW := Lib.hid hg
          clear hg hll
          generalize Sha.ws l 64 = ws at *
          go_wp2_with fail
          refine (constants_any _).mono ?_
          rintro e w2 ⟨gk, rfl, VK, hb2⟩
          have hab2 : Ab w0 w2 := hR.ab.trans hb2
          have V2 := V0.ab hab2
          have Z2 := Z0.ab hab2
          have y0 := V2.at 0 rfl
          have y1 := V2.at 1 rfl
          have y2 := V2.at 2 rfl
          have y3 := V2.at 3 rfl
          have y4 := V2.at 4 rfl
          have y5 := V2.at 5 rfl
          have y6 := V2.at 6 rfl
          have y7 := V2.at 7 rfl
          go_wp2_with fail
          go_quiet (fail)
          clear y0 y1 y2 y3 y4 y5 y6 y7
          go_wp2
          go_loopw [13, 14, 15, 16, 17, 18, 19, 20, 21] (fun a b c d e f g z i w' => ∃ t : Nat, t ≤ 64 ∧ i = .int .i64 t ∧ a = .int .u32 ((Sha.rounds ws h t).a.toNat : Int) ∧ b = .int .u32 ((Sha.rounds ws h t).b.toNat : Int) ∧ c = .int .u32 ((Sha.rounds ws h t).c.toNat : Int) ∧ d = .int .u32 ((Sha.rounds ws h t).d.toNat : Int) ∧ e = .int .u32 ((Sha.rounds ws h t).e.toNat : Int) ∧ f = .int .u32 ((Sha.rounds ws h t).f.toNat : Int) ∧ g = .int .u32 ((Sha.rounds ws h t).g.toNat : Int) ∧ z = .int .u32 ((Sha.rounds ws h t).z.toNat : Int) ∧ Ab w2 w') (fun _ _ _ _ _ _ _ _ i _ => 64 - (intOf i).toNat)
          case atStart => exact ⟨0, by omega, rfl, rfl, rfl, rfl, rfl, rfl, rfl, rfl, rfl, (by (repeat (first | with_reducible exact Ab.refl _ | with_reducible assumption | with_reducible refine Ab.drew ?_ | with_reducible refine Ab.drewN ?_ _ | with_reducible refine Ab.alloc ?_ _ | with_reducible refine Ab.trans ?_ (by assumption) | with_reducible refine Ab.set ?_ wnA _)))⟩
          case round =>
            obtain ⟨t, ht, rfl, rfl, rfl, rfl, rfl, rfl, rfl, rfl, rfl, hS⟩ := hrel
            rename World => w3
            by_cases hlt : t < 64
            · have hT1 : (t : Int) < 64 := by omega
              have hT0 : 0 ≤ (t : Int) := by omega
              have cw := hS.at (hb2.at (HGW.out t _ (ws_at ws t (by rw [HL.out]; exact hlt))))
              have ck := (VK.ab hS).at t (ws_at Sha.K t (show t < 64 from hlt))
              have HR : Hid (Sha.rounds ws h (t + 1) = Sha.round (Sha.rounds ws h t) (Sha.at_ Sha.K t) (Sha.at_ ws t)) := Lib.hid rfl
              generalize Sha.rounds ws h t = s at *
              generalize Sha.at_ Sha.K t = k at *
              generalize Sha.at_ ws t = x at *
              go_upto_region 18 with fail
              go_cut [22] (fun s22 wx => s22 = .int .u32 ((Sha.p_ s k x).toNat : Int) ∧ Ab w3 wx)
              case first =>
                refine wp_region_held_drew (by kernel_rfl) (S := fun w' => w'.cell? ⟨gk, t, none⟩ = some (.int .u32 (k.toNat : Int)) ∧ w'.cell? ⟨g, t, none⟩ = some (.int .u32 (x.toNat : Int))) ?_ (fun hHeld => ?_)
                · exact ⟨cell_drew ck, cell_drew cw⟩
                (refine rtA 0 ?_ ?_
                 (try simp only [Act.put, stA, st0, st1]))
                (refine rtA 1 ?_ ?_
                 (try simp only [Act.put, stA, st0, st1]))
                (refine rtA 3 ?_ ?_
                 (try simp only [Act.put, stA, st0, st1]))
                (refine rtA 6 ?_ ?_
                 (try simp only [Act.put, stA, st0, st1]))
                (refine rtA 10 ?_ ?_
                 (try simp only [Act.put, stA, st0, st1]))
                (refine rtA 11 ?_ ?_
                 (try simp only [Act.put, stA, st0, st1]))
                (refine rtA 12 ?_ ?_
                 (try simp only [Act.put, stA, st0, st1]))
                (refine rtA 13 ?_ ?_
                 (try simp only [Act.put, stA, st0, st1]))
                (refine rtA 14 ?_ ?_
                 (try simp only [Act.put, stA, st0, st1]))
                (refine rtA 15 ?_ ?_
                 (try simp only [Act.put, stA, st0, st1]))
                (refine rtA 16 ?_ ?_
                 (try simp only [Act.put, stA, st0, st1]))
                (refine rtA 17 ?_ ?_
                 (try simp only [Act.put, stA, st0, st1]))
                (refine rtA 19 ?_ ?_
                 (try simp only [Act.put, stA, st0, st1]))
                (refine rtA 20 ?_ ?_
                 (try simp only [Act.put, stA, st0, st1]))
                (refine rtA 21 ?_ ?_
                 (try simp only [Act.put, stA, st0, st1]))
                (refine rtA 22 ?_ ?_
                 (try simp only [Act.put, stA, st0, st1]))
                (refine rtA 24 ?_ ?_
                 (try simp only [Act.put, stA, st0, st1]))
                (refine rtA 25 ?_ ?_
                 (try simp only [Act.put, stA, st0, st1]))
                (refine rtA 26 ?_ ?_
                 (try simp only [Act.put, stA, st0, st1]))
                (refine rtA 27 ?_ ?_
                 (try simp only [Act.put, stA, st0, st1]))
                refine r1A 2 (fun K hK => ?_)
                (go_simp
                 (refine (turn_ab s.e 6 6 rfl (by omega) (by omega) _).mono ?_; rintro e v6 ⟨rfl, k6⟩)
                 (try go_wp2_with fail)
                 (refine hK.out _ _ ?_ (fun hHeld => ?_)
                  · (try dsimp only); exact ⟨k6.at (cell_drew ck), k6.at (cell_drew cw)⟩
                  clear hK K
                  (try simp only [Act.put, stA, st0, st1])))
                refine r1A 4 (fun K hK => ?_)
                (go_simp
                 (refine (turn_ab s.e 11 11 rfl (by omega) (by omega) _).mono ?_; rintro e v11 ⟨rfl, k11⟩)
                 (try go_wp2_with fail)
                 (refine hK.out _ _ ?_ (fun hHeld => ?_)
                  · (try dsimp only); exact ⟨k11.at (k6.at (cell_drew ck)), k11.at (k6.at (cell_drew cw))⟩
                  clear hK K
                  (try simp only [Act.put, stA, st0, st1])))
                (refine rtA 5 ?_ ?_
                 (try simp only [Act.put, stA, st0, st1]))
                refine r1A 7 (fun K hK => ?_)
                (go_simp
                 (refine (turn_ab s.e 25 25 rfl (by omega) (by omega) _).mono ?_; rintro e v25 ⟨rfl, k25⟩)
                 (try go_wp2_with fail)
                 (refine hK.out _ _ ?_ (fun hHeld => ?_)
                  · (try dsimp only); exact ⟨k25.at (k11.at (k6.at (cell_drew ck))), k25.at (k11.at (k6.at (cell_drew cw)))⟩
                  clear hK K
                  (try simp only [Act.put, stA, st0, st1])))
                (refine rtA 8 ?_ ?_
                 (try simp only [Act.put, stA, st0, st1]))
                (refine rtA 9 ?_ ?_
                 (try simp only [Act.put, stA, st0, st1]))
                (refine rtA 18 ?_ ?_
                 (try simp only [Act.put, stA, st0, st1]))
                (refine rtA 23 ?_ ?_
                 (try simp only [Act.put, stA, st0, st1]))
                (refine rtA 28 ?_ ?_
                 (try simp only [Act.put, stA, st0, st1]))
                refine r1A 29 (fun K hK => ?_)
                (go_simp
                 (refine hK.out _ _ ?_ (fun hHeld => ?_)
                  · (try dsimp only); exact ⟨k25.at (k11.at (k6.at (cell_drew ck))), k25.at (k11.at (k6.at (cell_drew cw)))⟩
                  clear hK K
                  (try simp only [Act.put, stA, st0, st1])))
                refine wpAnyH_done (by kernel_rfl) ?_ _
                go_wp2_with fail
                go_meet
                exact ⟨by rw [p_ref], Ab.trans (Ab.trans (by exact abA) k6) (k11.trans k25)⟩
              obtain ⟨rfl, hb1⟩ := hcut
              rename World => w4
              go_wp2_with fail
              refine (turn_ab s.a 2 2 rfl (by omega) (by omega) _).mono ?_
              rintro e v2 ⟨rfl, k2_⟩
              have b2 : Ab w3 v2 := hb1.trans (Ab.trans (by exact abA) k2_)
              clear k2_
              go_wp2_with fail
              refine (turn_ab s.a 13 13 rfl (by omega) (by omega) _).mono ?_
              rintro e v13 ⟨rfl, k13⟩
              have b13 : Ab w3 v13 := b2.trans (Ab.trans (by exact abA) k13)
              clear k13
              go_wp2_with fail
              refine (turn_ab s.a 22 22 rfl (by omega) (by omega) _).mono ?_
              rintro e v22 ⟨rfl, k22⟩
              have b22 : Ab w3 v22 := b13.trans (Ab.trans (by exact abA) k22)
              clear k22
              have HQ := Lib.hid (q_ref s)
              have HF := Lib.hid (fun (f : Sha.W8 → BitVec 32) => congrArg (fun r : Sha.W8 => Value.int .u32 ((f r).toNat : Int)) HR.out.symm)
              have b3 := hS.trans b22
              clear b2 b13 hb1
              go_wp2
              go_roundw
              case rel =>
                exact ⟨t + 1, by omega, by go_num, by rw [HQ.out, add_reg]; exact HF.out (·.a), HF.out (·.b), HF.out (·.c), HF.out (·.d), by rw [add_reg]; exact HF.out (·.e), HF.out (·.f), HF.out (·.g), HF.out (·.z), b3.trans abA⟩
              case measure => simp [intOf]; omega
            · have ht64 : t = 64 := by omega
              have HK2 : Hid (Sha.taken h l = Sha.add h (Sha.rounds ws h t)) := by rw [ht64]; exact HK
              have hT1 : ¬ (t : Int) < 64 := by omega
              clear ht64 HK
              generalize Sha.rounds ws h t = s at *
              have V3 := V2.ab hS
              have Z3 := Z2.ab hS
              have y0 := V3.at 0 rfl
              have y1 := V3.at 1 rfl
              have y2 := V3.at 2 rfl
              have y3 := V3.at 3 rfl
              have y4 := V3.at 4 rfl
              have y5 := V3.at 5 rfl
              have y6 := V3.at 6 rfl
              have y7 := V3.at 7 rfl
              go_wp2_with (refine list_stV (o := ⟨none, _, _, _, _, _⟩) (us := [_, _, _, _, _, _, _, _]) _ info8 rfl _ _ rfl rfl rfl Z3 rfl rfl rfl ?_
                           intro w9 h9)
              have hv := h9.v
              simp only [add_reg] at hv
              refine bodyPost_ret (res_V1 _ info8 Tryz.underlying101 rfl Tryz.results91 _ rfl hv rfl) rfl ?_
              exact ⟨by rw [HK2.out]; rfl, h9.ab _ (hab0.trans (hab2.trans (hS.trans abA))) (by omega)⟩
end Go.Proofs.YthfffbpcmlgoiaaGreatDoor
