/- The code of layer 2, walked. Own work. -/
import Derived.Test.YtddmcciegofneaaCrcWalk
import Derived.Test.YtddmcciegofneaaLit
set_option linter.unusedVariables false
namespace Go.Proofs.Ytddmcciegofneaa
open Go.RowKit

theorem update_any (x : BitVec 32) (v : Int) (hv : v = (x.toNat : Int)) (A : Option Addr) (l : List UInt8) (c : Nat) (w : World) (hl : RB w 0 A l) (hc : l.length ≤ c) (ll : l.length ≤ 9223372036854775807) :
    Calls Try.prog 10 #[.int .u32 v, .slice A l.length c] w fun e w' => e = .returned (.tuple #[.int .u32 ((Crc.updE x l).toNat : Int), .int .i64 (Crc.errE l)]) ∧ w = w' := by
  subst hv
  by_cases h20 : l.length ≤ 20000
  · go_enter Try.func10, Try.ntmps10
    go_wp2_with fail
    refine (steps_any (~~~ x) _ (not_form x) A l c _ hl hc ll).mono ?_
    rintro e w' ⟨rfl, rfl⟩
    go_wp2
    go_ret2
    exact ⟨by rw [Crc.updE_le h20, Crc.errE_le h20]; exact ret_pair (not_form (Crc.steps (~~~ x) l)) rfl, rfl⟩
  · go_enter Try.func10, Try.ntmps10
    go_wp2
    go_ret2
    exact ⟨by rw [Crc.updE_gt h20, Crc.errE_gt h20]; rfl, rfl⟩

theorem sum_any (A : Option Addr) (l : List UInt8) (c : Nat) (w : World) (hl : RB w 0 A l) (hc : l.length ≤ c) (ll : l.length ≤ 9223372036854775807) :
    Calls Try.prog 9 #[.slice A l.length c] w fun e w' => e = .returned (.tuple #[.int .u32 ((Crc.sumE l).toNat : Int), .int .i64 (Crc.errE l)]) ∧ w = w' := by
  go_enter Try.func9, Try.ntmps9
  go_wp2_with fail
  refine (update_any 0#32 _ rfl A l c _ hl hc ll).mono ?_
  rintro e w' ⟨rfl, rfl⟩
  go_wp2
  go_ret2
  exact ⟨rfl, rfl⟩

theorem stepZero_any (r : BitVec 32) (v : Int) (hv : v = (r.toNat : Int)) (w : World) :
    Calls Try.prog 20 #[.int .u32 v] w fun e w' => e = .returned (.int .u32 ((Crc.it 8 r).toNat : Int)) ∧ Ab w w' := by
  subst hv
  go_enter Try.func20, Try.ntmps20
  go_wp2_with fail
  refine (steps_any r _ rfl (some ⟨w.heap.size, 0, none⟩) [0] 1 _ (RB.blk (T := 5) (fr := (0, 0)) (by (repeat (first | exact new_plain (by first | (simp; done) | omega | (simp; omega)) | with_reducible refine old_alloc ?_ | with_reducible refine old_drew ?_ | with_reducible refine old_set ?_ (by first | (simp; done) | omega | (simp; omega)) | with_reducible refine old_ab (by assumption) ?_))) (by omega)) (by simp) (by simp)).mono ?_
  rintro e w' ⟨rfl, rfl⟩
  go_wp2
  go_ret
  exact ⟨ret_int (by rw [Crc.steps_one]), (by repeat (first | with_reducible exact Ab.refl _ | with_reducible assumption | with_reducible refine Ab.drew ?_ | with_reducible refine Ab.drewN ?_ _ | with_reducible refine Ab.alloc ?_ _ | with_reducible refine Ab.trans ?_ (by assumption) | with_reducible refine Ab.set ?_ (by first | (simp; done) | omega | (simp; omega)) _))⟩

theorem row_any (i : Int) (w : World) (h1 : -9223372036854775808 ≤ i) (h2 : i ≤ 9223372036854775807) :
    Calls Try.prog 11 #[.int .i64 i] w fun e w' => e = .returned (.tuple #[.int .u32 ((Crc.rowE i).1.toNat : Int), .int .i64 (Crc.rowE i).2]) ∧ Ab w w' := by
  rcases Crc.row_ways i with ⟨h, hr⟩ | ⟨h0, h255, hr⟩
  · have HR := Lib.hid hr; clear hr
    rcases h with h | h
    · go_enter Try.func11, Try.ntmps11
      go_wp2
      go_ret2
      exact ⟨by rw [HR.out]; rfl, (by repeat (first | with_reducible exact Ab.refl _ | with_reducible assumption | with_reducible refine Ab.drew ?_ | with_reducible refine Ab.drewN ?_ _ | with_reducible refine Ab.alloc ?_ _ | with_reducible refine Ab.trans ?_ (by assumption) | with_reducible refine Ab.set ?_ (by first | (simp; done) | omega | (simp; omega)) _))⟩
    · have h' : ¬ i < 0 := by omega
      go_enter Try.func11, Try.ntmps11
      go_wp2
      go_ret2
      exact ⟨by rw [HR.out]; rfl, (by repeat (first | with_reducible exact Ab.refl _ | with_reducible assumption | with_reducible refine Ab.drew ?_ | with_reducible refine Ab.drewN ?_ _ | with_reducible refine Ab.alloc ?_ _ | with_reducible refine Ab.trans ?_ (by assumption) | with_reducible refine Ab.set ?_ (by first | (simp; done) | omega | (simp; omega)) _))⟩
  · have HR := Lib.hid hr; clear hr
    have h' : ¬ i < 0 := by omega
    have h'' : ¬ 255 < i := by omega
    go_enter Try.func11, Try.ntmps11
    go_wp2_with fail
    refine (steps_any (BitVec.ofNat 32 i.toNat) _ (int_reg i h0 h255) (some ⟨w.heap.size, 0, none⟩) [0] 1 _ (RB.blk (T := 5) (fr := (0, 0)) (by (repeat (first | exact new_plain (by first | (simp; done) | omega | (simp; omega)) | with_reducible refine old_alloc ?_ | with_reducible refine old_drew ?_ | with_reducible refine old_set ?_ (by first | (simp; done) | omega | (simp; omega)) | with_reducible refine old_ab (by assumption) ?_))) (by omega)) (by simp) (by simp)).mono ?_
    rintro e w' ⟨rfl, rfl⟩
    go_wp2
    go_ret2
    exact ⟨by rw [HR.out, Crc.steps_one]; rfl, (by repeat (first | with_reducible exact Ab.refl _ | with_reducible assumption | with_reducible refine Ab.drew ?_ | with_reducible refine Ab.drewN ?_ _ | with_reducible refine Ab.alloc ?_ _ | with_reducible refine Ab.trans ?_ (by assumption) | with_reducible refine Ab.set ?_ (by first | (simp; done) | omega | (simp; omega)) _))⟩
end Go.Proofs.Ytddmcciegofneaa
