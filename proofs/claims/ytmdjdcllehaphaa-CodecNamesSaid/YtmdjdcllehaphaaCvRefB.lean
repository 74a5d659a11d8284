/- The reference of the codec: values read, walked. Own work. -/
import Derived.Test.YtmdjdcllehaphaaCvRefA
set_option linter.unusedVariables false
set_option linter.unusedSimpArgs false
namespace Go.Proofs.Ytmdjdcllehaphaa
open Go.RowKit
open Codec (V)

/-- What the reference's read returns. -/
def RetR (d : Nat) (w : World) (l : List UInt8) (e : Ending) (w' : World) : Prop := Ab w w' ∧ match Codec.read d l with
  | some (v, u) => ∃ x : VM, e = .returned (.tuple #[x.val, .int .i64 (u : Int)]) ∧ x.v = v ∧ VL d w' (fun g => w.heap.size ≤ g) x
  | none => e = .returned (.tuple #[VM.zero.val, .int .i64 0])
theorem reads_many {d n : Nat} {t : List UInt8} (ht : t.length ≤ 1000000) (h : t.length < n) : Codec.reads d n t = none := by
  rcases hr : Codec.reads d n t with _ | ⟨vs, u⟩
  · rfl
  · obtain ⟨a1, a2, a3, a4, a5⟩ := Codec.reads_back (fun t v u ht h => Codec.read_back d t v u ht h) n t vs u (by omega) hr
    have h1 := Codec.flat_ge vs a2
    have h2 := congrArg List.length a5
    rw [List.length_append] at h2
    omega
end Go.Proofs.Ytmdjdcllehaphaa
