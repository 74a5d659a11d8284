/- Tail of layer 2, walked. Own work. -/
import Derived.Test.YtddmcciegofneaaCrcCode
set_option linter.unusedVariables false
namespace Go.Proofs.Ytddmcciegofneaa
open Go.RowKit

/-- Four bytes of a register. -/
def four (W : BitVec 32) : Array Value := #[.int .u8 ((Crc.byteAt W 0).toNat : Int), .int .u8 ((Crc.byteAt W 1).toNat : Int), .int .u8 ((Crc.byteAt W 2).toNat : Int), .int .u8 ((Crc.byteAt W 3).toNat : Int)]
theorem four_mk (W : BitVec 32) : (#[.int .u8 ((W.toNat : Int) % 256), .int .u8 ((W.toNat : Int) / 256 % 256), .int .u8 ((W.toNat : Int) / 65536 % 256), .int .u8 ((W.toNat : Int) / 16777216 % 256)] : Array Value) = four W := by
  rw [byte0, byte1, byte2, byte3]; rfl

set_option maxHeartbeats 800000 in
theorem tail_any (want : BitVec 32) (A : Option Addr) (l : List UInt8) (c : Nat) (w : World) (hl : RB w 0 A l) (hc : l.length ≤ c) (ll : l.length ≤ 9223372036854775807) :
    Calls Try.prog 13 #[.slice A l.length c, .int .u32 (want.toNat : Int)] w fun e w' => e = .returned (.tuple #[.agg (four (Crc.tailE l want)), .int .i64 (Crc.errE l)]) ∧ Ab w w' := by
  by_cases h20 : l.length ≤ 20000
  · have HF := Lib.hid (tail_form l want)
    go_enter Try.func13, Try.ntmps13
    go_wp2_with fail
    refine (steps_any (4294967295#32) _ ones_lit' A l c _ (RB.ab hl (by repeat (first | with_reducible exact Ab.refl _ | with_reducible assumption | with_reducible refine Ab.drew ?_ | with_reducible refine Ab.drewN ?_ _ | with_reducible refine Ab.alloc ?_ _ | with_reducible refine Ab.trans ?_ (by assumption) | with_reducible refine Ab.set ?_ (by first | (simp; done) | omega | (simp; omega)) _))) hc ll).mono ?_
    rintro e w' ⟨rfl, rfl⟩
    go_wp2_with fail
    refine (back_any (~~~ want) _ (not_form want) _).mono ?_
    rintro e w' ⟨rfl, rfl⟩
    go_wp2
    rw [HF.out]
    refine bodyPost_ret (v := .tuple #[.agg #[.int .u8 (((Crc.tailW l want).toNat : Int) % 256), .int .u8 (((Crc.tailW l want).toNat : Int) / 256 % 256), .int .u8 (((Crc.tailW l want).toNat : Int) / 65536 % 256), .int .u8 (((Crc.tailW l want).toNat : Int) / 16777216 % 256)], .int .i64 0]) (by simp [results, Try.results13, go_sem]) rfl ?_
    exact ⟨by rw [four_mk, Crc.tailE_le h20, Crc.errE_le h20], (by repeat (first | with_reducible exact Ab.refl _ | with_reducible assumption | with_reducible refine Ab.drew ?_ | with_reducible refine Ab.drewN ?_ _ | with_reducible refine Ab.alloc ?_ _ | with_reducible refine Ab.trans ?_ (by assumption) | with_reducible refine Ab.set ?_ (by first | (simp; done) | omega | (simp; omega)) _))⟩
  · go_enter Try.func13, Try.ntmps13
    go_wp2
    refine bodyPost_ret (v := .tuple #[.agg #[.int .u8 0, .int .u8 0, .int .u8 0, .int .u8 0], .int .i64 4]) (by simp [results, Try.results13, go_sem]) rfl ?_
    exact ⟨by rw [Crc.tailE_gt h20, Crc.errE_gt h20]; rfl, (by repeat (first | with_reducible exact Ab.refl _ | with_reducible assumption | with_reducible refine Ab.drew ?_ | with_reducible refine Ab.drewN ?_ _ | with_reducible refine Ab.alloc ?_ _ | with_reducible refine Ab.trans ?_ (by assumption) | with_reducible refine Ab.set ?_ (by first | (simp; done) | omega | (simp; omega)) _))⟩
end Go.Proofs.Ytddmcciegofneaa
