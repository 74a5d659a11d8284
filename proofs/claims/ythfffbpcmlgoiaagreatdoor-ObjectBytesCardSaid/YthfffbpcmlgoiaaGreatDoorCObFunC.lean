/- Objects checked. Own work. -/
import Derived.Test.YthfffbpcmlgoiaaGreatDoorCObFunB
set_option linter.unusedVariables false
set_option linter.unusedSimpArgs false
namespace Go.Proofs.YthfffbpcmlgoiaaGreatDoor
open Go.RowKit

def OM.ok (o : OM) : Bool :=
  if o.k = 1 then Obj.text o.t && decide (o.es.length = 0) && o.m.empty
  else if o.k = 2 then decide (o.t.length = 0) && Obj.tree o.es && o.m.empty
  else if o.k = 3 then decide (o.t.length = 0) && decide (o.es.length = 0) && o.m.ok
  else false
theorem infoOM : (Tryz.prog.info? 32).map (·.size) = some 38 := by kernel_rfl
theorem range_m {w : World} {b : Nat} {o : OM} (h : VB w b o.cells) : w.rangeAt b 3 o.m.cells := fun j v hv => by
  have := h.at (3 + j) (show o.cells[3 + j]? = some v from by
    rw [Nat.add_comm]
    exact hv)
  exact this
set_option maxRecDepth 100000 in
set_option maxHeartbeats 1000000 in
theorem isObject_any (o : OM) (w : World) (h : OL w o) :
    Calls Tryz.prog 42 #[.agg o.cells.toArray] w fun e w' => e = .returned (.bool o.ok) ∧ Ab w w' := by
  have V0 : VB (w.alloc (.cells o.cells.toArray 32)) w.heap.size o.cells := VB.box (xs := o.cells.toArray) (T := 32) (by (repeat (first | exact new_plain wnA | with_reducible refine old_alloc ?_ | with_reducible refine old_drew ?_ | with_reducible refine old_set ?_ wnA | with_reducible refine old_ab (by assumption) ?_)))
  have b0 : Ab w (w.alloc (.cells o.cells.toArray 32)) := abA
  have T1 := fun w' (hk : Ab w w') => isText_any o.A o.t o.c w' (h.b.ab hk) h.c h.c'
  have T2 := fun w' (hk : Ab w w') => isTree_any o.E o.es o.d w' (h.r.ab hk) h.l h.n h.n'
  have T3 := fun w' (hk : Ab w w') => isEmpty_any o.m w' (h.m.ab hk)
  have T4 := fun w' (hk : Ab w w') => isCommit_any o.m w' (h.m.ab hk)
  have c0 := V0.at 0 (show o.cells[0]? = some (.int .u8 (o.k : Int)) from rfl)
  have c1 := V0.at 1 (show o.cells[1]? = some (.slice o.A o.t.length o.c) from rfl)
  have c2 := V0.at 2 (show o.cells[2]? = some (.slice o.E o.es.length o.d) from rfl)
  have R0 := range_m V0
  have hml := CM.len h.m.t
  have hO : Hid (o.ok = if o.k = 1 then Obj.text o.t && decide (o.es.length = 0) && o.m.empty else if o.k = 2 then decide (o.t.length = 0) && Obj.tree o.es && o.m.empty else if o.k = 3 then decide (o.t.length = 0) && decide (o.es.length = 0) && o.m.ok else false) := Lib.hid rfl
  obtain ⟨k, A, t, c, E, es, d, m⟩ := o
  simp only at T1 T2 T3 T4 c0 c1 c2 R0 hml hO
  clear h V0
  generalize OM.ok _ = q at *
  generalize OM.cells _ = cs at *
  generalize CM.cells m = ms at *
  generalize Obj.text t = q1 at *
  generalize Obj.tree es = q2 at *
  generalize CM.empty m = q3 at *
  generalize CM.ok m = q4 at *
  go_enter Tryz.func42, Tryz.ntmps42
  go_upto_region 1 with fail
  generalize w.alloc (.cells cs.toArray 32) = w0 at *
  by_cases hk1 : k = 1
  · subst hk1
    go_wp2_with fail
    refine (T1 _ b0).mono ?_
    rintro e w3 ⟨rfl, hb3⟩
    replace c1 := hb3.at c1
    replace c2 := hb3.at c2
    replace R0 : w3.rangeAt w.heap.size 3 ms := fun j v hv => hb3.at (R0 j v hv)
    have b3 := b0.trans hb3
    cases q1 with
    | false =>
      go_wp2
      go_ret
      exact ⟨congrArg (fun b => Ending.returned (Value.bool b)) (by rw [hO.out]; simp), b3⟩
    | true =>
      by_cases h2 : es.length = 0
      · have k2 : (es.length : Int) = 0 := by omega
        go_wp2_with (refine list_ldM (o := ⟨some 18, _, _, _, _, _⟩) _ 3 ms R0 infoCM Tryz.underlying30 rfl (by kernel_rfl) _ rfl rfl hml ?_)
        refine (T3 _ b3).mono ?_
        rintro e w4 ⟨rfl, hb4⟩
        go_wp2
        go_ret
        exact ⟨congrArg (fun b => Ending.returned (Value.bool b)) (by rw [hO.out]; simp [h2]), b3.trans hb4⟩
      · have k2 : ¬ (es.length : Int) = 0 := by omega
        go_wp2
        go_ret
        exact ⟨congrArg (fun b => Ending.returned (Value.bool b)) (by rw [hO.out]; simp [h2]), b3⟩
  · have j1 : ¬ (k : Int) = 1 := by omega
    by_cases hk2 : k = 2
    · subst hk2
      by_cases h1 : t.length = 0
      · have k1 : (t.length : Int) = 0 := by omega
        go_wp2_with fail
        refine (T2 _ b0).mono ?_
        rintro e w3 ⟨rfl, hb3⟩
        replace c1 := hb3.at c1
        replace c2 := hb3.at c2
        replace R0 : w3.rangeAt w.heap.size 3 ms := fun j v hv => hb3.at (R0 j v hv)
        have b3 := b0.trans hb3
        cases q2 with
        | false =>
          go_wp2
          go_ret
          exact ⟨congrArg (fun b => Ending.returned (Value.bool b)) (by rw [hO.out]; simp), b3⟩
        | true =>
          go_wp2_with (refine list_ldM (o := ⟨some 34, _, _, _, _, _⟩) _ 3 ms R0 infoCM Tryz.underlying30 rfl (by kernel_rfl) _ rfl rfl hml ?_)
          refine (T3 _ b3).mono ?_
          rintro e w4 ⟨rfl, hb4⟩
          go_wp2
          go_ret
          exact ⟨congrArg (fun b => Ending.returned (Value.bool b)) (by rw [hO.out]; simp [h1]), b3.trans hb4⟩
      · have k1 : ¬ (t.length : Int) = 0 := by omega
        go_wp2
        go_ret
        exact ⟨congrArg (fun b => Ending.returned (Value.bool b)) (by rw [hO.out]; simp [h1]), b0⟩
    · have j2 : ¬ (k : Int) = 2 := by omega
      by_cases hk3 : k = 3
      · subst hk3
        by_cases h1 : t.length = 0
        · have k1 : (t.length : Int) = 0 := by omega
          by_cases h2 : es.length = 0
          · have k2 : (es.length : Int) = 0 := by omega
            have b3 := b0
            go_wp2_with (refine list_ldM (o := ⟨some 51, _, _, _, _, _⟩) _ 3 ms R0 infoCM Tryz.underlying30 rfl (by kernel_rfl) _ rfl rfl hml ?_)
            refine (T4 _ b3).mono ?_
            rintro e w4 ⟨rfl, hb4⟩
            go_wp2
            go_ret
            exact ⟨congrArg (fun b => Ending.returned (Value.bool b)) (by rw [hO.out]; simp [h1, h2]), b0.trans hb4⟩
          · have k2 : ¬ (es.length : Int) = 0 := by omega
            go_wp2
            go_ret
            exact ⟨congrArg (fun b => Ending.returned (Value.bool b)) (by rw [hO.out]; simp [h1, h2]), b0⟩
        · have k1 : ¬ (t.length : Int) = 0 := by omega
          go_wp2
          go_ret
          exact ⟨congrArg (fun b => Ending.returned (Value.bool b)) (by rw [hO.out]; simp [h1]), b0⟩
      · have j3 : ¬ (k : Int) = 3 := by omega
        go_wp2
        go_ret
        exact ⟨congrArg (fun b => Ending.returned (Value.bool b)) (by rw [hO.out]; simp [hk1, hk2, hk3]), b0⟩
/-- What Check returns. -/
def OM.e (o : OM) : Int := if o.ok then 0 else 8
theorem check9_any (o : OM) (w : World) (h : OL w o) :
    Calls Tryz.prog 8 #[.agg o.cells.toArray] w fun e w' => e = .returned (.int .i64 o.e) ∧ Ab w w' := by
  have V0 : VB (w.alloc (.cells o.cells.toArray 32)) w.heap.size o.cells := VB.box (xs := o.cells.toArray) (T := 32) (by (repeat (first | exact new_plain wnA | with_reducible refine old_alloc ?_ | with_reducible refine old_drew ?_ | with_reducible refine old_set ?_ wnA | with_reducible refine old_ab (by assumption) ?_)))
  have b0 : Ab w (w.alloc (.cells o.cells.toArray 32)) := abA
  have T1 := fun w' (hk : Ab w w') => isObject_any o w' (h.ab hk)
  have hO : Hid (o.e = if o.ok then 0 else 8) := Lib.hid rfl
  have hl := OM.len h.m.t
  generalize OM.ok o = q at *
  generalize OM.e o = n at *
  generalize OM.cells o = cs at *
  clear h
  go_enter Tryz.func8, Tryz.ntmps8
  go_wp2_with (refine list_ldM (o := ⟨some 3, _, _, _, _, _⟩) _ 0 cs (VB.range V0) infoOM Tryz.underlying32 rfl (by kernel_rfl) _ rfl rfl hl ?_)
  refine (T1 _ b0).mono ?_
  rintro e w3 ⟨rfl, hb3⟩
  cases q with
  | false =>
    go_wp2
    go_ret
    exact ⟨by rw [hO.out]; rfl, b0.trans hb3⟩
  | true =>
    go_wp2
    go_ret
    exact ⟨by rw [hO.out]; rfl, b0.trans hb3⟩
end Go.Proofs.YthfffbpcmlgoiaaGreatDoor
