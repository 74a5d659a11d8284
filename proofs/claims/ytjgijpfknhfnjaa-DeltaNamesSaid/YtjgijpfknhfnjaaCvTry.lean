/- Bytes compared, however many. Own work. -/
import Derived.Test.YtjgijpfknhfnjaaProg
import Derived.Test.YtjgijpfknhfnjaaMem
namespace Go.Proofs.Ytjgijpfknhfnjaa
open Go.RowKit


theorem sameBytes_all (A B : Option Addr) (c d : Nat) (x y : List UInt8) (w : World) (hx : RB w 0 A x) (hy : RB w 0 B y) (hl : x.length ≤ 9223372036854775807) (hl' : y.length ≤ 9223372036854775807) :
    Calls Try.prog 16 #[.slice A x.length c, .slice B y.length d] w fun e w' => e = .returned (.bool (x == y)) ∧ ∃ n, w' = w.drewN n := by
  by_cases hne : x.length = y.length
  · have hq : ((x.length : Int) != (y.length : Int)) = false := by simp [hne]
    have H := Lib.hid hne; clear hne
    go_enter Try.func16, Try.ntmps16
    go_wp2
    go_loopw [4, 5] (fun r i wr => ∃ k : Nat, k ≤ x.length ∧ r = .bool false ∧ i = .int .i64 k ∧ x.take k = y.take k ∧ ∃ n, wr = w.drewN n) (fun _ i _ => x.length - (intOf i).toNat)
    case atStart => exact ⟨0, Nat.zero_le _, rfl, rfl, rfl, 0, rfl⟩
    case round =>
      obtain ⟨k, hk, rfl, rfl, ht, n, rfl⟩ := hrel
      by_cases hlt : k < x.length
      · obtain ⟨ad, rfl, _, ha⟩ := hx (by omega)
        obtain ⟨bd, rfl, _, hb⟩ := hy (by have := H.out; omega)
        have hac : w.cell? (ad.add k) = some (.int .u8 (x[k].toNat : Int)) := ha k hlt
        have hyk : k < y.length := by have := H.out; omega
        have hbc : w.cell? (bd.add k) = some (.int .u8 (y[k].toNat : Int)) := hb k hyk
        have hyl : (k : Int) < y.length := by omega
        have hxl : (k : Int) < x.length := by omega
        clear ha hb
        by_cases hxy : x[k] = y[k]
        · have hcmp : ((x[k].toNat : Int) != (y[k].toNat : Int)) = false := by simp [hxy]
          have HT := Lib.hid ht; clear ht
          have HXY := Lib.hid hxy; clear hxy
          go_wp2
          go_quiet (fail)
          go_wp2
          go_roundw
          case rel => exact ⟨k + 1, by omega, rfl, by go_num, by rw [List.take_succ_eq_append_getElem hlt, List.take_succ_eq_append_getElem hyk, HT.out, HXY.out], _, rfl⟩
          case measure => simp [intOf]; omega
        · have hcmp : ((x[k].toNat : Int) != (y[k].toNat : Int)) = true := by
            simp only [bne_iff_ne, ne_eq, Int.natCast_inj]; exact fun e => hxy (UInt8.toNat.inj e)
          have hfin : (x == y) = false := by
            rw [beq_eq_false_iff_ne]; rintro rfl; exact hxy rfl
          have HF := Lib.hid hfin; clear hfin hxy ht
          go_wp2
          go_quiet (fail)
          go_wp2
          go_ret
          exact ⟨ret_bool (by rw [HF.out]), _, World.drewN_drewN _ _ _⟩
      · have hkl : k = x.length := by omega
        have hfin : (x == y) = true := by
          rw [beq_iff_eq]; rw [hkl, List.take_length] at ht; rw [ht, H.out, List.take_length]
        have HF := Lib.hid hfin; clear hfin hkl ht
        go_wp2
        go_ret
        exact ⟨ret_bool (by rw [HF.out]), _, rfl⟩
  · have hq : ((x.length : Int) != (y.length : Int)) = true := by simp; omega
    have hfin : (x == y) = false := by rw [beq_eq_false_iff_ne]; rintro rfl; exact hne rfl
    have HF := Lib.hid hfin; clear hfin hne
    go_enter Try.func16, Try.ntmps16
    go_wp2
    go_ret
    exact ⟨ret_bool (by rw [HF.out]), 0, rfl⟩
end Go.Proofs.Ytjgijpfknhfnjaa
