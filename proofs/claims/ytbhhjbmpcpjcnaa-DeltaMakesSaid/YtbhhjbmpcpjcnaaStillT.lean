/- A region of reads before one last operation, at a named world. Own work. -/
import Derived.StillTailTactics
namespace Go.Proofs.Ytbhhjbmpcpjcnaa
open Go
theorem still_tail {P : Program} {id : Nat} {Q : Exit → Act → World → Prop} {a : Act} {w : World} {l : List Oper} (n : Nat) (hm : P.follows .mixedOrders = true) (hB : Region.lexTailB .any l.toArray n = true)
    (wd : World) (hwd : wd = w.drew) (h : wpStill P l.toArray wd (fun a' => wpList P l.toArray Q (l.drop n) a' wd) (l.take n) a) : (Code.region id l.toArray true).wp P Q a w :=
  wp_region_still_tail n hm hB (by subst hwd; exact h)
end Go.Proofs.Ytbhhjbmpcpjcnaa
