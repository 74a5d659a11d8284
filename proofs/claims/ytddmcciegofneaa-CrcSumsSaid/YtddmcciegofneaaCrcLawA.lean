import Derived.Test.YtddmcciegofneaaCrcRef
import Derived.Test.YtddmcciegofneaaCrcCode
set_option linter.unusedVariables false
namespace Go.Proofs.Ytddmcciegofneaa
open Go.RowKit

set_option maxHeartbeats 1600000 in
theorem sums_walk (A : Option Addr) (l : List UInt8) (c : Nat) (x : BitVec 32) (i : Int) (w : World) (hl : RB w 0 A l) (hc : l.length ≤ c) (ll : l.length ≤ 9223372036854775807) (h1 : -9223372036854775808 ≤ i) (h2 : i ≤ 9223372036854775807) :
    Calls Try.prog 4 #[.slice A l.length c, .int .u32 (x.toNat : Int), .int .i64 i] w fun e w' => e = .returned (.bool true) ∧ Ab w w' := by
  cases hg : Crc.long l
  · have HG := Lib.hid hg; clear hg
    go_enter Try.func4, Try.ntmps4
    go_wp2_with fail
    refine (refLong_any A l c _ ll).mono ?_
    rintro e w' ⟨rfl, rfl⟩
    rw [HG.out]
    go_wp2_with fail
    refine (sum_any A l c _ hl hc ll).mono ?_
    rintro e w' ⟨rfl, rfl⟩
    go_wp2_with fail
    refine (refSum_any A l c _ hl hc ll).mono ?_
    rintro e w' ⟨rfl, rfl⟩
    go_wp2_with fail
    refine (update_any x _ rfl A l c _ hl hc ll).mono ?_
    rintro e w' ⟨rfl, rfl⟩
    go_wp2_with fail
    refine (refUpdate_any x A l c _ hl hc ll).mono ?_
    rintro e w' ⟨rfl, rfl⟩
    go_wp2_with fail
    refine (row_any i _ h1 h2).mono ?_
    rintro e w1 ⟨rfl, hb1⟩
    go_wp2_with fail
    refine (refRow_any i _ h1 h2).mono ?_
    rintro e w' ⟨rfl, rfl⟩
    go_wp2
    go_ret
    exact ⟨rfl, hb1⟩
  · have HG := Lib.hid hg; clear hg
    go_enter Try.func4, Try.ntmps4
    go_wp2_with fail
    refine (refLong_any A l c _ ll).mono ?_
    rintro e w' ⟨rfl, rfl⟩
    rw [HG.out]
    go_wp2
    go_ret
    exact ⟨rfl, (by repeat (first | with_reducible exact Ab.refl _ | with_reducible assumption | with_reducible refine Ab.drew ?_ | with_reducible refine Ab.drewN ?_ _ | with_reducible refine Ab.alloc ?_ _ | with_reducible refine Ab.trans ?_ (by assumption) | with_reducible refine Ab.set ?_ (by first | (simp; done) | omega | (simp; omega)) _))⟩
end Go.Proofs.Ytddmcciegofneaa
