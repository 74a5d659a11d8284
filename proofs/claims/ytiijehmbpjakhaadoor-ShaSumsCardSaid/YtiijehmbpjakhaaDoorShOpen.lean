/- The package's variables, as the card lays them. Own work. -/
import Derived.Test.YtiijehmbpjakhaaDoorRows
import Derived.Test.YtiijehmbpjakhaaDoorTie
import Derived.Test.YtiijehmbpjakhaaDoorCards
import Derived.Test.YtiijehmbpjakhaaDoorOpenB
import Derived.Test.YtiijehmbpjakhaaDoorShBase
import Derived.ProofKit
import Derived.LaidMore
import Derived.OpenShut
import Derived.Stop.Joined
set_option linter.unusedVariables false
namespace Go.Proofs.YtiijehmbpjakhaaDoor
open Go.ChangeShapes Go.WideShapes Go.ChangeAt Go.RowKit

abbrev shaLaid : List (String × DataW Unit) := [("siding/sha.first", Rows.laid_siding_sha_first), ("siding/sha.constants", Rows.laid_siding_sha_constants)]
theorem gFirst : Tryd.prog.globalNamed "siding/sha.first" = some 0 := by kernel_rfl
theorem gConst : Tryd.prog.globalNamed "siding/sha.constants" = some 1 := by kernel_rfl
theorem tFirst : (Tryd.prog.globals[0]?).map (·.type) = some 24 := by kernel_rfl
theorem tConst : (Tryd.prog.globals[1]?).map (·.type) = some 57 := by kernel_rfl
theorem door_met (os : Os) (args : Array Value) : laidMetH Tryd.prog shaLaid ((World.doorLaid Tryd.prog 400 os).forCall (fun _ _ => 0) ⟨#[], args, []⟩).memory :=
  laidMetH_of_parts3 (fuel := 8) (laidMet_of_run' 8 (by kernel_rfl) (by kernel_rfl)) (by kernel_rfl) (by kernel_rfl)
theorem arr_cells {H : Type} {enc : TypeId × Value → H} {W : World} {base : Nat} {spare : Nat → Bool} {held : Bool} {fuel n : Nat} {T : TypeId} (hT : Tryd.prog.underlying T = some (.array n 23)) {cs : List Value} {ps : List MemPlace} (vals : List (BitVec 32)) (hn : vals.length = n)
    (hd : DataW.trod enc Tryd.prog W base spare held fuel T cs = some (.agg (vals.map fun v => .lit (.int .u32 (v.toNat : Int))), ps)) (i : Nat) (v : Value) (hv : (vals.map wv)[i]? = some v) : cs[i]? = some v := by
  obtain ⟨xs, m, rfl, hx, hlen, hn2, hel⟩ := DataW.trod_array hT hd
  have c1 : Tryd.prog.cellsOf 23 = 1 := by kernel_rfl
  have hi : i < vals.length := by
    have := (List.getElem?_eq_some_iff.1 hv).1
    simpa using this
  have h1 := hel i (by omega)
  rw [c1, Nat.mul_one] at h1
  have hxs : i < xs.length := by omega
  rw [List.getElem?_eq_getElem hxs] at h1
  obtain ⟨k, e1, e2, _⟩ := DataW.trod_int Tryd.underlying23 h1
  simp only [Prod.mk.injEq, DataW.agg.injEq] at hx
  have e3 : (xs.map (·.1))[i]? = some (.lit (.int .u32 k)) := by
    rw [List.getElem?_map, List.getElem?_eq_getElem hxs, e2]; rfl
  rw [← hx.1, List.getElem?_map, List.getElem?_eq_getElem hi] at e3
  simp at e3
  rw [List.getElem?_map, List.getElem?_eq_getElem hi] at hv
  have e4 : v = .int .u32 k := by rw [← Option.some.inj hv, ← e3]; rfl
  have h5 : ((cs.drop i).take 1)[0]? = some (.int .u32 k) := by rw [e1]; rfl
  rw [List.getElem?_take_of_lt (by omega), List.getElem?_drop] at h5
  rw [e4]
  simpa using h5
theorem w8_list (h : Sha.W8) : w8 h = h.list.map wv := rfl
theorem of_laid {W : World} (h : laidMetH Tryd.prog shaLaid W) : Glob W := by
  rw [MakeChecks.laidMetH_plain _ _ _ (by kernel_rfl)] at h
  obtain ⟨ps, ⟨g0, t0, cs0, f0, p0, q0, hg0, ht0, hv0, hd0, ⟨g1, t1, cs1, f1, p1, q1, hg1, ht1, hv1, hd1, _, _⟩, _⟩, _, _⟩ := h
  obtain rfl := Option.some.inj (gFirst.symm.trans hg0)
  obtain rfl := Option.some.inj (gConst.symm.trans hg1)
  obtain rfl := Option.some.inj (tFirst.symm.trans ht0)
  obtain rfl := Option.some.inj (tConst.symm.trans ht1)
  refine ⟨fun k v hk => ?_, fun k v hk => ?_⟩
  · rw [World.var?_cell hg0 hv0 k, ← Array.getElem?_toList]
    exact arr_cells Tryd.underlying24 Sha.first.list rfl hd0 k v hk
  · rw [World.var?_cell hg1 hv1 k, ← Array.getElem?_toList]
    exact arr_cells Tryd.underlying57 Sha.K rfl hd1 k v hk
end Go.Proofs.YtiijehmbpjakhaaDoor
