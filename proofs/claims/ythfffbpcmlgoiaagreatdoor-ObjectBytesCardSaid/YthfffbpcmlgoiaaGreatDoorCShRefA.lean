/- The reference of layer 8: turns, constants, rows of words. Own work. -/
import Derived.Test.YthfffbpcmlgoiaaGreatDoorCShFunG
import Derived.Maps.AppendAt
set_option linter.unusedVariables false
set_option linter.unusedSimpArgs false
namespace Go.Proofs.YthfffbpcmlgoiaaGreatDoor
open Go.RowKit

theorem turn_form (x : BitVec 32) (n : Nat) (h : n ≤ 32) : bits .or .u32 ((x.toNat : Int) / 2 ^ n) (IntKind.u32.wrap ((x.toNat : Int) * 2 ^ (32 - n))) = ((Sha.rotr x n).toNat : Int) := by
  rw [shl_u32, reg_shr, bx_or]
  rfl
theorem turn_any (x : BitVec 32) (n : Nat) (v : Int) (hv : v = (n : Int)) (h1 : 1 ≤ n) (h2 : n ≤ 31) (w : World) :
    Calls Tryz.prog 105 #[.int .u32 (x.toNat : Int), .int .i64 v] w fun e w' => e = .returned (.int .u32 ((Sha.rotr x n).toNat : Int)) ∧ ∃ k, w' = w.drewN k := by
  subst hv
  have g0 : 0 ≤ (n : Int) := by omega
  have g1 : (n : Int) ≤ 32 := by omega
  have g2 : (32 - (n : Int)).toNat = 32 - n := by omega
  have g3 : IntKind.i64.wrap (32 - (n : Int)) = 32 - (n : Int) := IntWalk.i64_in _ (by omega)
  have g4 : 0 ≤ 32 - (n : Int) := by omega
  have HT := Lib.hid (turn_form x n (by omega))
  go_enter Tryz.func105, Tryz.ntmps105
  go_wp2
  go_quiet (fail)
  go_wp2
  go_ret
  exact ⟨ret_int (by rw [← HT.out]; rfl), _, rfl⟩
set_option maxRecDepth 100000 in
theorem first_any (w : World) : Calls Tryz.prog 61 #[] w fun e w' => e = .returned (.agg (w8 Sha.first).toArray) ∧ Ab w w' := by
  go_enter Tryz.func61, Tryz.ntmps61
  have Z0 : VB (w.alloc (.cells #[.int .u32 0, .int .u32 0, .int .u32 0, .int .u32 0, .int .u32 0, .int .u32 0, .int .u32 0, .int .u32 0] 101)) w.heap.size [.int .u32 0, .int .u32 0, .int .u32 0, .int .u32 0, .int .u32 0, .int .u32 0, .int .u32 0, .int .u32 0] := VB.box (xs := #[.int .u32 0, .int .u32 0, .int .u32 0, .int .u32 0, .int .u32 0, .int .u32 0, .int .u32 0, .int .u32 0]) (T := 101) (by (repeat (first | exact new_plain wnA | with_reducible refine old_alloc ?_ | with_reducible refine old_drew ?_ | with_reducible refine old_set ?_ wnA | with_reducible refine old_ab (by assumption) ?_)))
  go_wp2_with (refine list_stV (o := ⟨none, _, _, _, _, _⟩) (us := w8 Sha.first) _ info8 rfl _ _ rfl rfl rfl Z0 rfl (w8_len _) (w8_one _) ?_
               intro w9 h9)
  refine bodyPost_ret (res_V1 _ info8 Tryz.underlying101 rfl Tryz.results61 _ rfl h9.v (w8_len _)) rfl ?_
  exact ⟨rfl, h9.ab _ abA (Nat.le_refl _)⟩
set_option maxRecDepth 100000 in
theorem constants_any (w : World) : Calls Tryz.prog 106 #[] w fun e w' => ∃ g, e = .returned (.slice (some ⟨g, 0, none⟩) 64 64) ∧ VB w' g (Sha.K.map wv) ∧ Ab w w' := by
  go_enter Tryz.func106, Tryz.ntmps106
  go_wp2
  go_ret
  exact ⟨w.heap.size, rfl, VB.box (xs := (Sha.K.map wv).toArray) (T := 100) (by (repeat (first | exact new_plain wnA | with_reducible refine old_alloc ?_ | with_reducible refine old_drew ?_ | with_reducible refine old_set ?_ wnA | with_reducible refine old_ab (by assumption) ?_))), abA⟩
/-- The call's own row of words. -/
def OW (lo : Nat) (w : World) (A : Option Addr) (t c : Nat) (l : List (BitVec 32)) : Prop := l.length = t ∧ w.ownsRow lo 100 1 (.slice A t c) t (l.map wv)
theorem OW.nil {lo : Nat} {w : World} : OW lo w none 0 0 [] := ⟨rfl, World.ownsRow_nil _ _ _ _⟩
theorem OW.block {lo : Nat} {w w' : World} {A : Option Addr} {t c : Nat} {l : List (BitVec 32)} (h : OW lo w A t c l) (hk : ∀ g, lo ≤ g → g < w.heap.size → w'.heap[g]? = w.heap[g]?) : OW lo w' A t c l := by
  refine ⟨h.1, h.2.1, ?_⟩
  rcases h.2.2 with h0 | ⟨g, cap, cur, hv, hb, hh, r⟩
  · exact .inl h0
  · refine .inr ⟨g, cap, cur, hv, hb, ?_, r⟩
    have hlt : g < w.heap.size := by
      rcases Nat.lt_or_ge g w.heap.size with h | h
      · exact h
      · rw [Array.getElem?_eq_none h] at hh; cases hh
    rw [hk g hb hlt]; exact hh
theorem OW.keep {lo : Nat} {w w' : World} {A : Option Addr} {t c : Nat} {l : List (BitVec 32)} (h : OW lo w A t c l) (hk : Ab w w') : OW lo w' A t c l := h.block fun g _ hg => hk.out.block g hg
theorem OW.at_ {lo : Nat} {w : World} {A : Option Addr} {t c : Nat} {l : List (BitVec 32)} (h : OW lo w A t c l) (ht : 0 < t) : ∃ g, A = some ⟨g, 0, none⟩ ∧ ∀ i v, (l.map wv)[i]? = some v → w.cell? ⟨g, i, none⟩ = some v := by
  have h' := h.2
  rcases h.2.2 with ⟨_, h0⟩ | ⟨g, cap, cur, hv, hb, _⟩
  · omega
  · have hA : A = some ⟨g, 0, none⟩ := by injection hv
    refine ⟨g, hA, fun i v hi => ?_⟩
    have := h'.cells (g := g) (by rw [hA]; rfl) i v hi
    have e : (⟨g, 0, none⟩ : Addr).add i = ⟨g, i, none⟩ := by unfold Addr.add; split <;> simp_all
    simp only [Nat.zero_add, e] at this
    exact this
theorem infoU32 : (Tryz.prog.info? 100).map (fun i => (i.zero, i.size, i.bytes)) = some (some (.int .u32 0), 1, 4) := by kernel_rfl
theorem stepW {ops : Array Oper} {o : Oper} {a : Act} {w : World} {K : Act → World → Prop} {Q : Exit → Act → World → Prop} {E : Prop} {lo t c g : Nat} {A : Option Addr} {l : List (BitVec 32)} {T : TypeId} {fr : Nat × Nat} {v : Int} (y : BitVec 32) (hv : v = (y.toNat : Int))
    (hgd : o.guard = none) (s x : Operand) (ho : o.op = .call { callee := .builtin .append, args := #[s, x], argTypes := #[146, 146] }) (hs : a.eval s = .slice A t c) (hx : a.eval x = .slice (some ⟨g, 0, none⟩) 1 1) (hg : w.heap[g]? = some (.cells #[.int .u32 v] T fr))
    (h : OW lo w A t c l) (hlo : lo ≤ w.heap.size) (ht : t ≤ 1000)
    (hk : ∀ A' c' w', OW lo w' A' (t + 1) c' (l ++ [y]) → (∀ W : World, Ab W w → W.heap.size ≤ lo → Ab W w') → K (a.put o.dst (.slice A' (t + 1) c')) w') :
    if Region.wanted o (yielded ops a.tmps) = true then Oper.wp Tryz.prog o a w K Q else E := by
  subst hv
  obtain ⟨i0, hi0, hz0, hz1, hz2⟩ := info_parts infoU32
  have hw : Region.wanted o (yielded ops a.tmps) = true := by simp [Region.wanted, hgd]
  rw [if_pos hw]
  obtain ⟨v', w', hrun, h2, h3, _, _⟩ := run_append_own_at (P := Tryz.prog) w lo 146 o.type 100 i0 _ 1 4 Tryz.underlying146 hi0 hz0 hz1 hz2 rfl (by omega) _ _ _ h.2 ⟨g, 0, none⟩ 1 1 [wv y] rfl
    (by
      intro j u hu
      have hj : j = 0 := by have := (List.getElem?_eq_some_iff.1 hu).1; simp at this; omega
      subst hj
      obtain rfl : wv y = u := by simpa using hu
      show w.cell? ((⟨g, 0, none⟩ : Addr).add 0) = _
      have e : (⟨g, 0, none⟩ : Addr).add 0 = ⟨g, 0, none⟩ := by unfold Addr.add; simp
      rw [e]
      unfold World.cell?
      rw [hg]; rfl) (by intro u hu; simp at hu; subst hu; rfl) (by unfold maxLen; omega) (by omega) hlo
  have hA' : ∃ A' c', v' = .slice A' (t + 1) c' := by
    rcases h2.2 with ⟨rfl, h0⟩ | ⟨g', cap, cur, rfl, _⟩
    · omega
    · exact ⟨_, _, rfl⟩
  obtain ⟨A', c', rfl⟩ := hA'
  unfold Oper.wp execOp
  simp only [ho, resolve, invoke, builtin, Sem.run_bind, Sem.run_pure, Result.andThen_ok, List.map_toArray, List.map_cons, List.map_nil, hs, hx, hrun]
  refine hk A' c' w' ⟨by simp [h.1], by simpa using h2⟩ fun W hW hl => ?_
  refine Below.grown hW.out h3 hW.size ?_
  intro k hk
  exact Nat.le_trans hl (h.2.lt k hk).1
end Go.Proofs.YthfffbpcmlgoiaaGreatDoor
