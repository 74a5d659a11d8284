/-
  No cell of these rows narrows 'for every input' (looked for: loops, veiled, ifaces, maps, wideKeys, modest, calm, conditions, laid).
  DERIVED. THE GIVEN ROWS OF THIS SEAT. 6 by the template 'for every input the law returns true; each argument reads behind the call as it read before'; 0 by the template 'total and deterministic' (their statements: YtakgglpfgpkboaaTotals.lean).
  GIVEN WITH THE SEED: the statements are not yours to turn. If you find one false, say at which input.
  Laid BY PROGRAM, IN A SANDBOX (cutbox-rows.mjs): the forced cells as the released guide's own fill.sh prints them over the translation 6d4d0abb4a472cf8… (all of the seat's roots in one cut). By AI agents, Wed Nov 11 2026. No macro, syntax, notation, axiom, sorry.
-/
import Derived.Test.YtakgglpfgpkboaaChecked
import GoSem.Claim
import GoSem.ClaimJoined
import GoSem.ClaimMapViews
import Derived.JoinedTies
import Derived.KernelRfl
namespace Go.Proofs.Ytakgglpfgpkboaa
/- THE CELL 'sum', in the pinned program and in every row, IS THE sha256 OF THE DUMP (.gsa) THAT YtakgglpfgpkboaaProg.lean LOADS. Nothing in Lean hashes anything: it is a label: what it is worth is what the hold of that sum in a sandbox is worth. -/
noncomputable def Try.pinned : Pinned := { name := "ytakgglpfgpkboaa", sum := "6d4d0abb4a472cf817e4087e20dd7359e66258be11820192cbd89c3332d47591", checked := Try.checked }
namespace Rows
def none {H : Type} : Left H := { results := [], args := [] }

/-- 'sidinglaw05.SlotsNames': WHATEVER THE INPUT: true; the input reads as it did. -/
def slotsNamesSpec : ChangeSpec := { name := "slotsNames", fn := fun _ => fun
  | [] => { results := [.lit (.bool true)], args := [] }
  | _ => none }
def slotsNamesRow : OpenClaim := { program := "ytakgglpfgpkboaa", sum := "6d4d0abb4a472cf817e4087e20dd7359e66258be11820192cbd89c3332d47591", func := "siding/sidinglaw05.SlotsNames", spec := "slotsNames", apart := false }
def SlotsNamesSaid : Prop := slotsNamesRow.holds Try.pinned (OpenSpec.ofChange slotsNamesSpec)

/-- ITS FALSE NEIGHBOUR: 'it returns false'. Refute it at one input. -/
def slotsNamesWrong : ChangeSpec := { name := "slotsNames", fn := fun _ => fun
  | [] => { results := [.lit (.bool false)], args := [] }
  | _ => none }
def SlotsNamesWrongFalsely : Prop := slotsNamesRow.holds Try.pinned (OpenSpec.ofChange slotsNamesWrong)

/-- 'sidinglaw05.SlotsSaves': WHATEVER THE INPUT: true; the input reads as it did. -/
def slotsSavesSpec : ChangeSpec := { name := "slotsSaves", fn := fun _ => fun
  | [d1, d2, d3, d4] => { results := [.lit (.bool true)], args := [d1, d2, d3, d4] }
  | _ => none }
def slotsSavesRow : OpenClaim := { program := "ytakgglpfgpkboaa", sum := "6d4d0abb4a472cf817e4087e20dd7359e66258be11820192cbd89c3332d47591", func := "siding/sidinglaw05.SlotsSaves", spec := "slotsSaves", apart := false }
def SlotsSavesSaid : Prop := slotsSavesRow.holds Try.pinned (OpenSpec.ofChange slotsSavesSpec)

/-- ITS FALSE NEIGHBOUR: 'it returns false'. Refute it at one input. -/
def slotsSavesWrong : ChangeSpec := { name := "slotsSaves", fn := fun _ => fun
  | [d1, d2, d3, d4] => { results := [.lit (.bool false)], args := [d1, d2, d3, d4] }
  | _ => none }
def SlotsSavesWrongFalsely : Prop := slotsSavesRow.holds Try.pinned (OpenSpec.ofChange slotsSavesWrong)

/-- 'sidinglaw05.SlotsLoads': WHATEVER THE INPUT: true; the input reads as it did. -/
def slotsLoadsSpec : ChangeSpec := { name := "slotsLoads", fn := fun _ => fun
  | [d] => { results := [.lit (.bool true)], args := [d] }
  | _ => none }
def slotsLoadsRow : OpenClaim := { program := "ytakgglpfgpkboaa", sum := "6d4d0abb4a472cf817e4087e20dd7359e66258be11820192cbd89c3332d47591", func := "siding/sidinglaw05.SlotsLoads", spec := "slotsLoads", apart := false }
def SlotsLoadsSaid : Prop := slotsLoadsRow.holds Try.pinned (OpenSpec.ofChange slotsLoadsSpec)

/-- ITS FALSE NEIGHBOUR: 'it returns false'. Refute it at one input. -/
def slotsLoadsWrong : ChangeSpec := { name := "slotsLoads", fn := fun _ => fun
  | [d] => { results := [.lit (.bool false)], args := [d] }
  | _ => none }
def SlotsLoadsWrongFalsely : Prop := slotsLoadsRow.holds Try.pinned (OpenSpec.ofChange slotsLoadsWrong)

/-- 'sidinglaw05.SlotsSurvive': WHATEVER THE INPUT: true; the input reads as it did. -/
def slotsSurviveSpec : ChangeSpec := { name := "slotsSurvive", fn := fun _ => fun
  | [d1, d2, d3, d4] => { results := [.lit (.bool true)], args := [d1, d2, d3, d4] }
  | _ => none }
def slotsSurviveRow : OpenClaim := { program := "ytakgglpfgpkboaa", sum := "6d4d0abb4a472cf817e4087e20dd7359e66258be11820192cbd89c3332d47591", func := "siding/sidinglaw05.SlotsSurvive", spec := "slotsSurvive", apart := false }
def SlotsSurviveSaid : Prop := slotsSurviveRow.holds Try.pinned (OpenSpec.ofChange slotsSurviveSpec)

/-- ITS FALSE NEIGHBOUR: 'it returns false'. Refute it at one input. -/
def slotsSurviveWrong : ChangeSpec := { name := "slotsSurvive", fn := fun _ => fun
  | [d1, d2, d3, d4] => { results := [.lit (.bool false)], args := [d1, d2, d3, d4] }
  | _ => none }
def SlotsSurviveWrongFalsely : Prop := slotsSurviveRow.holds Try.pinned (OpenSpec.ofChange slotsSurviveWrong)

/-- 'sidinglaw05.SlotsKeeps': WHATEVER THE INPUT: true; the input reads as it did. -/
def slotsKeepsSpec : ChangeSpec := { name := "slotsKeeps", fn := fun _ => fun
  | [d1, d2, d3] => { results := [.lit (.bool true)], args := [d1, d2, d3] }
  | _ => none }
def slotsKeepsRow : OpenClaim := { program := "ytakgglpfgpkboaa", sum := "6d4d0abb4a472cf817e4087e20dd7359e66258be11820192cbd89c3332d47591", func := "siding/sidinglaw05.SlotsKeeps", spec := "slotsKeeps", apart := false }
def SlotsKeepsSaid : Prop := slotsKeepsRow.holds Try.pinned (OpenSpec.ofChange slotsKeepsSpec)

/-- ITS FALSE NEIGHBOUR: 'it returns false'. Refute it at one input. -/
def slotsKeepsWrong : ChangeSpec := { name := "slotsKeeps", fn := fun _ => fun
  | [d1, d2, d3] => { results := [.lit (.bool false)], args := [d1, d2, d3] }
  | _ => none }
def SlotsKeepsWrongFalsely : Prop := slotsKeepsRow.holds Try.pinned (OpenSpec.ofChange slotsKeepsWrong)

/-- 'sidinglaw05.SlotsRow': WHATEVER THE INPUT: true; the input reads as it did. -/
def slotsRowSpec : ChangeSpec := { name := "slotsRow", fn := fun _ => fun
  | [d1, d2] => { results := [.lit (.bool true)], args := [d1, d2] }
  | _ => none }
def slotsRowRow : OpenClaim := { program := "ytakgglpfgpkboaa", sum := "6d4d0abb4a472cf817e4087e20dd7359e66258be11820192cbd89c3332d47591", func := "siding/sidinglaw05.SlotsRow", spec := "slotsRow", apart := false }
def SlotsRowSaid : Prop := slotsRowRow.holds Try.pinned (OpenSpec.ofChange slotsRowSpec)

/-- ITS FALSE NEIGHBOUR: 'it returns false'. Refute it at one input. -/
def slotsRowWrong : ChangeSpec := { name := "slotsRow", fn := fun _ => fun
  | [d1, d2] => { results := [.lit (.bool false)], args := [d1, d2] }
  | _ => none }
def SlotsRowWrongFalsely : Prop := slotsRowRow.holds Try.pinned (OpenSpec.ofChange slotsRowWrong)

/- THE SECOND FORM. 'bulk': how many values and letters a reading holds, each counted each time it is reached (what is shared counts as often as it is met; a slice's spare places count too). A statement '..UptoSaid' is the law's where the arguments, and the package variables that the reading takes, are together of bulk at most 1048576: NARROWER than '..Said'. Prove '..Said' where nothing that the law and all that it calls make is longer than what came in: it says more and counts as full. Else prove '..UptoSaid'. A law counts once. -/
mutual
def uptoBulk {H : Type} : DataW H → Nat
  | .lit (.string bytes) => bytes.length + 1
  | .lit _ => 1
  | .nil => 1
  | .ptr d => uptoBulk d + 1
  | .slice elems spare => uptoBulkAll elems + uptoBulkAll spare + 1
  | .agg parts => uptoBulkAll parts + 1
  | .iface _ d => uptoBulk d + 1
  | .map entries => uptoBulkEntries entries + 1
  | .held _ => 1
def uptoBulkAll {H : Type} : List (DataW H) → Nat
  | [] => 0
  | d :: r => uptoBulk d + uptoBulkAll r
def uptoBulkEntries {H : Type} : List (Lit × DataW H) → Nat
  | [] => 0
  | x :: r => uptoBulkEntry x + uptoBulkEntries r
def uptoBulkEntry {H : Type} : Lit × DataW H → Nat
  | (.string bytes, d) => bytes.length + uptoBulk d + 1
  | (_, d) => uptoBulk d + 1
 end
def uptoSmall : (H : Type) → List (DataW H) → Bool := fun _ ds => decide (uptoBulkAll ds ≤ 1048576)
def OpenSpec.upto (s : _root_.Go.ChangeSpec) : _root_.Go.OpenSpec := { _root_.Go.OpenSpec.ofChange s with cond := some uptoSmall }

/-- 'sidinglaw05.SlotsNames', WHERE WHAT IT READS IS OF BULK AT MOST 1048576: true; the input reads as it did. -/
def slotsNamesUptoRow : OpenClaim := { program := "ytakgglpfgpkboaa", sum := "6d4d0abb4a472cf817e4087e20dd7359e66258be11820192cbd89c3332d47591", func := "siding/sidinglaw05.SlotsNames", spec := "slotsNames", apart := false, narrowed := true }
def SlotsNamesUptoSaid : Prop := slotsNamesUptoRow.holds Try.pinned (OpenSpec.upto slotsNamesSpec)

/-- 'sidinglaw05.SlotsSaves', WHERE WHAT IT READS IS OF BULK AT MOST 1048576: true; the input reads as it did. -/
def slotsSavesUptoRow : OpenClaim := { program := "ytakgglpfgpkboaa", sum := "6d4d0abb4a472cf817e4087e20dd7359e66258be11820192cbd89c3332d47591", func := "siding/sidinglaw05.SlotsSaves", spec := "slotsSaves", apart := false, narrowed := true }
def SlotsSavesUptoSaid : Prop := slotsSavesUptoRow.holds Try.pinned (OpenSpec.upto slotsSavesSpec)

/-- 'sidinglaw05.SlotsLoads', WHERE WHAT IT READS IS OF BULK AT MOST 1048576: true; the input reads as it did. -/
def slotsLoadsUptoRow : OpenClaim := { program := "ytakgglpfgpkboaa", sum := "6d4d0abb4a472cf817e4087e20dd7359e66258be11820192cbd89c3332d47591", func := "siding/sidinglaw05.SlotsLoads", spec := "slotsLoads", apart := false, narrowed := true }
def SlotsLoadsUptoSaid : Prop := slotsLoadsUptoRow.holds Try.pinned (OpenSpec.upto slotsLoadsSpec)

/-- 'sidinglaw05.SlotsSurvive', WHERE WHAT IT READS IS OF BULK AT MOST 1048576: true; the input reads as it did. -/
def slotsSurviveUptoRow : OpenClaim := { program := "ytakgglpfgpkboaa", sum := "6d4d0abb4a472cf817e4087e20dd7359e66258be11820192cbd89c3332d47591", func := "siding/sidinglaw05.SlotsSurvive", spec := "slotsSurvive", apart := false, narrowed := true }
def SlotsSurviveUptoSaid : Prop := slotsSurviveUptoRow.holds Try.pinned (OpenSpec.upto slotsSurviveSpec)

/-- 'sidinglaw05.SlotsKeeps', WHERE WHAT IT READS IS OF BULK AT MOST 1048576: true; the input reads as it did. -/
def slotsKeepsUptoRow : OpenClaim := { program := "ytakgglpfgpkboaa", sum := "6d4d0abb4a472cf817e4087e20dd7359e66258be11820192cbd89c3332d47591", func := "siding/sidinglaw05.SlotsKeeps", spec := "slotsKeeps", apart := false, narrowed := true }
def SlotsKeepsUptoSaid : Prop := slotsKeepsUptoRow.holds Try.pinned (OpenSpec.upto slotsKeepsSpec)

/-- 'sidinglaw05.SlotsRow', WHERE WHAT IT READS IS OF BULK AT MOST 1048576: true; the input reads as it did. -/
def slotsRowUptoRow : OpenClaim := { program := "ytakgglpfgpkboaa", sum := "6d4d0abb4a472cf817e4087e20dd7359e66258be11820192cbd89c3332d47591", func := "siding/sidinglaw05.SlotsRow", spec := "slotsRow", apart := false, narrowed := true }
def SlotsRowUptoSaid : Prop := slotsRowUptoRow.holds Try.pinned (OpenSpec.upto slotsRowSpec)

end Rows
end Go.Proofs.Ytakgglpfgpkboaa
