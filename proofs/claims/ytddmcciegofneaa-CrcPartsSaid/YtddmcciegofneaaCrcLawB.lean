import Derived.Test.YtddmcciegofneaaCrcAlive
import Derived.Test.YtddmcciegofneaaPostB
set_option linter.unusedVariables false
namespace Go.Proofs.Ytddmcciegofneaa
open Go.RowKit

set_option maxHeartbeats 1600000 in
theorem parts_walk (A : Option Addr) (a : List UInt8) (ca : Nat) (B : Option Addr) (b : List UInt8) (cb : Nat) (w : World) (ha : RB w 0 A a) (hca : a.length ≤ ca) (la : a.length ≤ 9223372036854775807) (hb : RB w 0 B b) (hcb : b.length ≤ cb) (lb : b.length ≤ 9223372036854775807) :
    Calls Try.prog 5 #[.slice A a.length ca, .slice B b.length cb] w fun e w' => e = .returned (.bool true) ∧ Ab w w' := by
  by_cases hg : 1000 < a.length ∨ 1000 < b.length
  · by_cases hga : 1000 < a.length
    · clear hg
      go_enter Try.func5, Try.ntmps5
      go_wp2_with fail
      refine (alive_true _).mono ?_
      rintro e wz ⟨rfl, hbz⟩
      go_wp2
      go_ret
      exact ⟨rfl, (by repeat (first | with_reducible exact Ab.refl _ | with_reducible assumption | with_reducible refine Ab.drew ?_ | with_reducible refine Ab.drewN ?_ _ | with_reducible refine Ab.alloc ?_ _ | with_reducible refine Ab.trans ?_ (by assumption) | with_reducible refine Ab.set ?_ (by first | (simp; done) | omega | (simp; omega)) _))⟩
    · have hgb : 1000 < b.length := by omega
      clear hg
      go_enter Try.func5, Try.ntmps5
      go_wp2_with fail
      refine (alive_true _).mono ?_
      rintro e wz ⟨rfl, hbz⟩
      go_wp2
      go_ret
      exact ⟨rfl, (by repeat (first | with_reducible exact Ab.refl _ | with_reducible assumption | with_reducible refine Ab.drew ?_ | with_reducible refine Ab.drewN ?_ _ | with_reducible refine Ab.alloc ?_ _ | with_reducible refine Ab.trans ?_ (by assumption) | with_reducible refine Ab.set ?_ (by first | (simp; done) | omega | (simp; omega)) _))⟩
  have ka : a.length ≤ 1000 := by omega
  have kb : b.length ≤ 1000 := by omega
  clear hg
  have H1 : Hid (Crc.sumE a = Crc.sum a) := Lib.hid (Crc.sumE_le (by omega))
  have H2 : Hid (Crc.sumE b = Crc.sum b) := Lib.hid (Crc.sumE_le (by omega))
  have E1 : Hid (Crc.errE a = 0) := Lib.hid (Crc.errE_le (by omega))
  have E2 : Hid (Crc.errE b = 0) := Lib.hid (Crc.errE_le (by omega))
  obtain ⟨J, HJ⟩ : ∃ J, Hid (J = Crc.join (Crc.sum a) (Crc.sum b) b.length) := ⟨_, Lib.hid rfl⟩
  have H3 : Hid (Crc.sumE (a ++ b) = J) := Lib.hid (by rw [HJ.out, Crc.sumE_le (by simp; omega), Crc.sum_append])
  have E3 : Hid (Crc.errE (a ++ b) = 0) := Lib.hid (Crc.errE_le (by simp; omega))
  have H4 : Hid (Crc.joinE (Crc.sum a) (Crc.sum b) (b.length : Int) = (J, 0)) := Lib.hid (by rw [HJ.out]; unfold Crc.joinE; rw [if_pos (by omega)]; rfl)
  have H5 : Hid (Crc.updE (Crc.sum a) b = J) := Lib.hid (by rw [HJ.out, Crc.updE_le (by omega), Crc.upd_join])
  go_enter Try.func5, Try.ntmps5
  go_wp2_with fail
  refine (sum_any A a ca _ ha hca la).mono ?_
  rintro e w' ⟨rfl, rfl⟩
  rw [H1.out, E1.out]
  go_wp2_with fail
  refine (sum_any B b cb _ hb hcb lb).mono ?_
  rintro e w' ⟨rfl, rfl⟩
  rw [H2.out, E2.out]
  go_wp2_with (first
    | (at_builtin
       refine listLit rfl _ _ rfl rfl rfl (m := a) rfl (by (repeat (first | exact new_plain (by first | (simp; done) | omega | (simp; omega)) | with_reducible refine old_alloc ?_ | with_reducible refine old_drew ?_ | with_reducible refine old_set ?_ (by first | (simp; done) | omega | (simp; omega)) | with_reducible refine old_ab (by assumption) ?_))) (RB.ab ha (by repeat (first | with_reducible exact Ab.refl _ | with_reducible assumption | with_reducible refine Ab.drew ?_ | with_reducible refine Ab.drewN ?_ _ | with_reducible refine Ab.alloc ?_ _ | with_reducible refine Ab.trans ?_ (by assumption) | with_reducible refine Ab.set ?_ (by first | (simp; done) | omega | (simp; omega)) _))) hca (by omega) ?_
       intro A1 c1 w1 L1 e1 a1 o1
       have z1 := a1.size; simp at z1
       have p1 := o1 w.heap.size (by omega) (by simp)
       have l1 : L1.length ≤ 1000 := by rw [e1.out]; exact ka
       have b1 : Ab w w1 := (by repeat (first | with_reducible exact Ab.refl _ | with_reducible assumption | with_reducible refine Ab.drew ?_ | with_reducible refine Ab.drewN ?_ _ | with_reducible refine Ab.alloc ?_ _ | with_reducible refine Ab.trans ?_ (by assumption) | with_reducible refine Ab.set ?_ (by first | (simp; done) | omega | (simp; omega)) _))
       clear o1)
    | (at_builtin
       refine listApp rfl _ _ rfl rfl rfl (m := b) rfl p1 (by omega) (RB.ab hb b1) hcb (by omega) ?_
       intro A2 c2 w2 L2 e2 p2 _ f2
       have b2 := f2 w b1 (Nat.le_refl _)
       have l2 : L2.length ≤ 9223372036854775807 := by rw [e2.out, List.length_append]; omega
       clear f2))
  refine (sum_any A2 L2 c2 _ p2.rb.zero p2.le l2).mono ?_
  rintro e w' ⟨rfl, rfl⟩
  rw [show Crc.sumE L2 = J from by rw [e2.out, e1.out]; exact H3.out, show Crc.errE L2 = 0 from by rw [e2.out, e1.out]; exact E3.out]
  go_wp2_with fail
  refine (join_any (Crc.sum a) (Crc.sum b) (b.length : Int) _ (by omega) (by omega)).mono ?_
  rintro e w3 ⟨rfl, hb3⟩
  rw [H4.out]
  go_wp2_with fail
  refine (update_any (Crc.sum a) _ rfl B b cb _ (RB.ab hb (by repeat (first | with_reducible exact Ab.refl _ | with_reducible assumption | with_reducible refine Ab.drew ?_ | with_reducible refine Ab.drewN ?_ _ | with_reducible refine Ab.alloc ?_ _ | with_reducible refine Ab.trans ?_ (by assumption) | with_reducible refine Ab.set ?_ (by first | (simp; done) | omega | (simp; omega)) _))) hcb lb).mono ?_
  rintro e w' ⟨rfl, rfl⟩
  rw [H5.out, E2.out]
  go_wp2_with fail
  refine (alive_true _).mono ?_
  rintro e wz ⟨rfl, hbz⟩
  go_wp2
  go_ret
  exact ⟨rfl, (by repeat (first | with_reducible exact Ab.refl _ | with_reducible assumption | with_reducible refine Ab.drew ?_ | with_reducible refine Ab.drewN ?_ _ | with_reducible refine Ab.alloc ?_ _ | with_reducible refine Ab.trans ?_ (by assumption) | with_reducible refine Ab.set ?_ (by first | (simp; done) | omega | (simp; omega)) _))⟩
end Go.Proofs.Ytddmcciegofneaa
