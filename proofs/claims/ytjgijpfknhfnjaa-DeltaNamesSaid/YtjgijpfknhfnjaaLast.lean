/- A region that draws its order, whose last operation waits for all the others: the others in any order, then the last one. Own work. -/
import Derived.Test.YtjgijpfknhfnjaaMem2
import Derived.StillTail
set_option linter.unusedVariables false
namespace Go.Proofs.Ytjgijpfknhfnjaa
open Go

section
variable {P : Program} {ops : Array Oper} {Q : Exit → Act → World → Prop} {md : Region.Mode} {S : World → Prop} {n : Nat}

theorem wpOp_then {i : Nat} {N K : Act → World → Prop} {a : Act} {w : World} (h : wpOp P ops (Exit.then N Q) i K a w) : wpOp P ops Q i K a w := by
  unfold wpOp at *
  split
  · simpa [*] using h
  · rename_i o ho
    simp only [ho] at h
    split
    · rename_i hw
      simp only [hw, if_true] at h
      refine h.imp ?_ id
      intro h
      unfold Oper.wp at *
      generalize (execOp a.eval o).run P w = r at *
      cases r with
      | ok m w' =>
        cases m <;> simp only [Oper.upon] at h ⊢ <;>
          first
            | exact h
            | exact Calls.mono h (fun e w'' he => by cases e <;> exact he)
      | halt x w' => cases x <;> simp only [Oper.upon] at h ⊢ <;> exact h
    · rename_i hw
      simp only [hw] at h
      exact h

def backB (md : Region.Mode) (ops : Array Oper) : Bool :=
  (List.range ops.size).all fun j => match ops[j]? with
    | some o => o.after.all fun e => !Region.binds md e || decide (e.on < j)
    | none => true
theorem backB_spec (h : backB md ops = true) {j : Nat} {o : Oper} (ho : ops[j]? = some o) {e : Edge} (he : e ∈ o.after) (hb : Region.binds md e = true) : e.on < j := by
  have hj : j < ops.size := (Array.getElem?_eq_some_iff.1 ho).1
  have h1 := List.all_eq_true.1 h j (List.mem_range.2 hj)
  simp only [ho] at h1
  have h2 := Array.all_eq_true'.1 h1 e he
  simpa [hb] using h2
def lastB (md : Region.Mode) (ops : Array Oper) (n : Nat) : Bool :=
  decide (n + 1 = ops.size) && Region.sinkB md ops n && Region.chainB md ops n && backB md ops

/-- Where nothing more may come up before the last one, all have come up. -/
theorem all_listed (hb : backB md ops = true) (hn : n < ops.size) {listed : Array Bool} (inv : HeadInv md ops n listed) (h : ∀ i ∈ Region.ready md ops listed, i = n) :
    ∀ i, i < n → listed.getD i true = true := by
  intro i
  induction i using Nat.strongRecOn with
  | _ i ih =>
    intro hi
    cases hl : listed.getD i true with
    | true => rfl
    | false =>
      obtain ⟨o, ho⟩ : ∃ o, ops[i]? = some o := ⟨_, Array.getElem?_eq_getElem (by omega)⟩
      have hr : i ∈ Region.ready md ops listed := mem_ready.2 ⟨hl, o, ho, fun e he heb => by
        have hlt := backB_spec hb ho he heb
        have h1 := ih e.on hlt (by omega)
        have hs : e.on < listed.size := by rw [inv.size]; omega
        simp [hs] at h1 ⊢; exact h1⟩
      have := h i hr
      omega
theorem last_ready (hb : backB md ops = true) (hn : n + 1 = ops.size) {listed : Array Bool} (inv : HeadInv md ops n listed) (h : ∀ i, i < n → listed.getD i true = true) :
    n ∈ Region.ready md ops listed := by
  obtain ⟨o, ho⟩ : ∃ o, ops[n]? = some o := ⟨_, Array.getElem?_eq_getElem (by omega)⟩
  refine mem_ready.2 ⟨inv.tail n (Nat.le_refl _) (by omega), o, ho, fun e he heb => ?_⟩
  have hlt := backB_spec hb ho he heb
  have h1 := h e.on hlt
  have hs : e.on < listed.size := by rw [inv.size]; omega
  simp [hs] at h1 ⊢; exact h1
theorem none_ready (hn : n + 1 = ops.size) {listed : Array Bool} (inv : HeadInv md ops n listed) (h : ∀ i, i < n → listed.getD i true = true) :
    Region.ready md ops (listed.setIfInBounds n true) = [] := by
  rw [List.eq_nil_iff_forall_not_mem]
  intro j hj
  obtain ⟨h1, o, ho, _⟩ := mem_ready.1 hj
  have hlt : j < ops.size := (Array.getElem?_eq_some_iff.1 ho).1
  by_cases hjn : j = n
  · subst hjn
    have hs : j < listed.size := by rw [inv.size]; omega
    simp [hs] at h1
  · rw [getD_set_ne true (Ne.symm hjn), h j (by omega)] at h1
    cases h1

theorem wpAny_last (hL : lastB md ops n = true) : ∀ (f : Nat) (listed : Array Bool) (a : Act) (w : World), HeadInv md ops n listed →
    wpAny P md ops (Exit.then (fun a w => wpOp P ops Q n (Q .normal) a w) Q) f (listed.setIfInBounds n true) a w → wpAny P md ops Q (f + 1) listed a w := by
  simp only [lastB, Bool.and_eq_true, decide_eq_true_eq] at hL
  obtain ⟨⟨⟨hn, hs⟩, hc⟩, hb⟩ := hL
  have low : ∀ {listed : Array Bool} {i : Nat}, i ∈ Region.ready md ops listed → i ≠ n → i < n := fun {listed i} hi hne => by
    obtain ⟨_, o, ho, _⟩ := mem_ready.1 hi
    have : i < ops.size := (Array.getElem?_eq_some_iff.1 ho).1
    omega
  -- what may come up is the same with the last one marked
  have up : ∀ {listed : Array Bool} {i : Nat}, i ∈ Region.ready md ops listed → i ≠ n → i ∈ Region.ready md ops (listed.setIfInBounds n true) := fun {listed i} hi hne => by
    obtain ⟨h1, o, ho, h2⟩ := mem_ready.1 hi
    exact mem_ready.2 ⟨by rw [getD_set_ne true (Ne.symm hne)]; exact h1, o, ho, fun e he hbd => getD_set_true (h2 e he hbd)⟩
  -- the last one comes up behind all
  have behind : ∀ {listed : Array Bool}, HeadInv md ops n listed → n ∈ Region.ready md ops listed → ∀ i, i < n → listed.getD i true = true := fun {listed} inv hi i hin => by
    cases hl : listed.getD i true with
    | true => rfl
    | false => exact absurd hi (tail_waits hs hc (by omega) inv _ i rfl hin hl n (Nat.le_refl _))
  intro f
  induction f with
  | zero =>
    intro listed a w inv H
    obtain ⟨h0, hq⟩ := H
    have honly : ∀ i ∈ Region.ready md ops listed, i = n := fun i hi => by
      rcases Decidable.em (i = n) with h | h
      · exact h
      · have := up hi h; rw [h0] at this; cases this
    have hall := all_listed hb (by omega) inv honly
    refine ⟨fun h => ?_, fun i hi => ?_⟩
    · have := last_ready hb hn inv hall; rw [h] at this; cases this
    · obtain rfl := honly i hi
      exact wpOp_mono (fun a w h => ⟨h0, h⟩) hq
  | succ f ih =>
    intro listed a w inv H
    obtain ⟨h0, hq⟩ := H
    refine ⟨fun h => ?_, fun i hi => ?_⟩
    · have hall := all_listed hb (by omega) inv (fun i hi => by rw [h] at hi; cases hi)
      have := last_ready hb hn inv hall; rw [h] at this; cases this
    · by_cases hin : i = n
      · subst hin
        have hall := behind inv hi
        have hnil := none_ready hn inv hall
        exact wpOp_mono (fun a w h => wpAny_done hnil h (f + 1)) (h0 hnil)
      · refine wpOp_mono (fun a' w' h' => ih (listed.setIfInBounds i true) a' w' (inv.set hi (low hi hin)) ?_) (wpOp_then (hq i (up hi hin)))
        rw [Array.setIfInBounds_comm _ _ hin]; exact h'

theorem last_then {n : Nat} {a : Act} {w : World} {Q' : Exit → Act → World → Prop} (h : wpOp P ops Q n (Q .normal) a w) : Exit.then (fun a w => wpOp P ops Q n (Q .normal) a w) Q' .normal a w := h
/-- The beginning. -/
theorem region_last (n : Nat) {id : Nat} {a : Act} {w : World} (hm : P.follows .mixedOrders = true) (hL : lastB .any ops n = true) (hsz : ops.size = n + 1) (hS : S w.drew)
    (h : S w.drew → wpAnyH P .any ops (Exit.then (fun a w => wpOp P ops Q n (Q .normal) a w) Q) S n ((Array.replicate (n + 1) false).setIfInBounds n true) a w.drew) : (Code.region id ops true).wp P Q a w := by
  refine wp_region_any hm ?_
  have h1 := wpAny_of_held _ _ _ _ (h hS)
  rw [hsz]
  refine wpAny_last hL n _ _ _ ⟨by simp [hsz], fun j oj hj hl => ?_, fun t ht ht' => ?_⟩ h1
  · rw [getD_replicate_false] at hl; cases hl
  · have : t = n := by omega
    subst this
    simp
end
end Go.Proofs.Ytjgijpfknhfnjaa
