import Derived.Test.YtddmcciegofneaaCrcAlive
import Derived.Test.YtddmcciegofneaaCrcTail
import Derived.Test.YtddmcciegofneaaPostB
import Derived.Test.YtddmcciegofneaaCrcFour
import Derived.Deep.DeepCutAuto
set_option linter.unusedVariables false
namespace Go.Proofs.Ytddmcciegofneaa
open Go.RowKit

set_option maxRecDepth 100000 in
set_option maxHeartbeats 1600000 in
theorem tails_walk (A : Option Addr) (a : List UInt8) (ca : Nat) (want : BitVec 32) (o0 o1 o2 o3 : UInt8) (w : World) (ha : RB w 0 A a) (hca : a.length ≤ ca) (la : a.length ≤ 9223372036854775807) :
    Calls Try.prog 6 #[.slice A a.length ca, .int .u32 (want.toNat : Int), .agg #[.int .u8 (o0.toNat : Int), .int .u8 (o1.toNat : Int), .int .u8 (o2.toNat : Int), .int .u8 (o3.toNat : Int)]] w fun e w' => e = .returned (.bool true) ∧ Ab w w' := by
  by_cases hg : 1000 < a.length
  · go_enter Try.func6, Try.ntmps6
    go_wp2_with fail
    refine (alive_true _).mono ?_
    rintro e wz ⟨rfl, hbz⟩
    go_wp2
    go_ret
    exact ⟨rfl, (by repeat (first | with_reducible exact Ab.refl _ | with_reducible assumption | with_reducible refine Ab.drew ?_ | with_reducible refine Ab.drewN ?_ _ | with_reducible refine Ab.alloc ?_ _ | with_reducible refine Ab.trans ?_ (by assumption) | with_reducible refine Ab.set ?_ (by first | (simp; done) | omega | (simp; omega)) _))⟩
  have ka : a.length ≤ 1000 := by omega
  clear hg
  have E1 : Hid (Crc.errE a = 0) := Lib.hid (Crc.errE_le (by omega))
  have H1 : Hid (Crc.tailE a want = Crc.tailW a want) := Lib.hid (Crc.tailE_le (by omega))
  go_enter Try.func6, Try.ntmps6
  go_wp2_with fail
  refine (tail_any want A a ca _ (RB.ab ha (by repeat (first | with_reducible exact Ab.refl _ | with_reducible assumption | with_reducible refine Ab.drew ?_ | with_reducible refine Ab.drewN ?_ _ | with_reducible refine Ab.alloc ?_ _ | with_reducible refine Ab.trans ?_ (by assumption) | with_reducible refine Ab.set ?_ (by first | (simp; done) | omega | (simp; omega)) _))) hca la).mono ?_
  rintro e w1 ⟨rfl, hb1⟩
  rw [H1.out, E1.out]
  unfold four
  generalize hT0 : Crc.byteAt (Crc.tailW a want) 0 = t0
  generalize hT1 : Crc.byteAt (Crc.tailW a want) 1 = t1
  generalize hT2 : Crc.byteAt (Crc.tailW a want) 2 = t2
  generalize hT3 : Crc.byteAt (Crc.tailW a want) 3 = t3
  have HT : Hid (Crc.word t0 t1 t2 t3 = Crc.tailW a want) := Lib.hid (by rw [← hT0, ← hT1, ← hT2, ← hT3, Crc.word_bytes])
  clear hT0 hT1 hT2 hT3
  have ES : ∀ x0 x1 x2 x3 : UInt8, Hid (Crc.sumE (a ++ [x0, x1, x2, x3]) = Crc.sum (a ++ [x0, x1, x2, x3])) := fun x0 x1 x2 x3 => Lib.hid (Crc.sumE_le (by simp; omega))
  have EE : ∀ x0 x1 x2 x3 : UInt8, Hid (Crc.errE (a ++ [x0, x1, x2, x3]) = 0) := fun x0 x1 x2 x3 => Lib.hid (Crc.errE_le (by simp; omega))
  go_upto_region 4 with fail
  go_cut [9, 10] (fun s9 s10 wx => s9 = .int .u32 ((Crc.sum (a ++ [t0, t1, t2, t3])).toNat : Int) ∧ s10 = .int .i64 0 ∧ Ab (w1.alloc (.cells #[.int .u8 (t0.toNat : Int), .int .u8 (t1.toNat : Int), .int .u8 (t2.toNat : Int), .int .u8 (t3.toNat : Int)] 31)) wx)
  case first =>
    go_region_held3 (fun w' => w'.cell? ⟨w1.heap.size, 0, none⟩ = some (.int .u8 (t0.toNat : Int)) ∧ w'.cell? ⟨w1.heap.size, 1, none⟩ = some (.int .u8 (t1.toNat : Int)) ∧ w'.cell? ⟨w1.heap.size, 2, none⟩ = some (.int .u8 (t2.toNat : Int)) ∧ w'.cell? ⟨w1.heap.size, 3, none⟩ = some (.int .u8 (t3.toNat : Int)))
      ((refine ⟨?_, ?_, ?_, ?_⟩ <;> (repeat (first | with_reducible assumption | (simp [go_sem]; done) | with_reducible apply cell_alloc | with_reducible apply cell_drew | with_reducible apply cell_drewN | (with_reducible apply Ab.at; with_reducible assumption) | (with_reducible refine cell_set ?_ ?_; rotate_left; focus (first | (simp; done) | (simp; omega))) | (with_reducible refine cell_setb ?_ ?_; rotate_left; focus (first | omega | (simp only; omega) | (simp; omega)))))))
      ((first
        | (refine stepLit (by rfl) _ _ (by rfl) (by rfl) (by rfl) (m := a) (by first | rfl | (simp; done) | (simp; omega)) (by (repeat (first | with_reducible exact new_drew (by first | (simp; done) | (simp; omega)) | with_reducible exact new_plain (by first | (simp; done) | (simp; omega)) | with_reducible exact new_drewN (by first | (simp; done) | (simp; omega)) | with_reducible refine old_alloc ?_ | with_reducible refine old_drew ?_ | with_reducible refine old_drewN ?_ _ | with_reducible refine old_grown (by assumption) (by simp) ?_ | with_reducible refine old_ab (by assumption) ?_))) (ha.ab (by repeat (first | with_reducible exact Ab.refl _ | with_reducible assumption | with_reducible refine Ab.drew ?_ | with_reducible refine Ab.drewN ?_ _ | with_reducible refine Ab.alloc ?_ _ | with_reducible refine Ab.trans ?_ (by assumption) | with_reducible refine Ab.set ?_ (by first | (simp; done) | omega | (simp; omega)) _))) hca (by first | (simp; done) | omega | (simp; omega)) ?_
           intro A1 c1 w3 L1 e1 a1 o1
           have l1 : L1.length ≤ 1000 := by rw [e1.out]; exact ka
           have z1 := a1.size; (try simp at z1)
           have p1 := o1 (w1.heap.size + 1) (by first | (simp; done) | omega | (simp; omega)) (by first | (simp; done) | omega | (simp; omega))
           clear o1)
        | (refine stepApp (by rfl) _ _ (by rfl) (by rfl) (by rfl) (m := [t0, t1, t2, t3]) (by rfl) (show OR 5 (w1.heap.size + 1) _ A1 c1 L1 from (by (repeat (first | with_reducible exact OR.none_ | with_reducible assumption | with_reducible refine OR.drew ?_ | with_reducible refine OR.drewN ?_ _ | with_reducible refine OR.alloc ?_ _ | (with_reducible refine OR.setNew ?_ _ ?_ _; rotate_left; focus (first | (simp; done) | omega | (simp; omega))) | with_reducible refine OR.set ?_ (by first | (simp; done) | omega | (simp; omega)) _ | (with_reducible refine OR.keep ?_ (by assumption)))))) (by first | (simp; done) | omega | (simp; omega)) (RB.blk (T := 5) (fr := (0, 0)) (by (repeat (first | exact new_plain (by first | (simp; done) | omega | (simp; omega)) | with_reducible refine old_alloc ?_ | with_reducible refine old_drew ?_ | with_reducible refine old_set ?_ (by first | (simp; done) | omega | (simp; omega)) | with_reducible refine old_ab (by assumption) ?_))) (Nat.zero_le _)) (by simp) (by simp; omega) ?_
           intro A2 c2 w4 L2 e2 p2 _ f2
           have b2 := f2 (w1.alloc (.cells #[.int .u8 (t0.toNat : Int), .int .u8 (t1.toNat : Int), .int .u8 (t2.toNat : Int), .int .u8 (t3.toNat : Int)] 31)) (by repeat (first | with_reducible exact Ab.refl _ | with_reducible assumption | with_reducible refine Ab.drew ?_ | with_reducible refine Ab.drewN ?_ _ | with_reducible refine Ab.alloc ?_ _ | with_reducible refine Ab.trans ?_ (by assumption) | with_reducible refine Ab.set ?_ (by first | (simp; done) | omega | (simp; omega)) _)) (by first | (simp; done) | omega | (simp; omega))
           have l2 : L2.length ≤ 9223372036854775807 := by rw [e2.out, List.length_append]; simp; omega
           have q2 : Hid (L2 = a ++ [t0, t1, t2, t3]) := Lib.hid (by rw [e2.out, e1.out])
           clear f2)
        | (go_at_call 9
           refine (sum_any A2 L2 c2 _ p2.rb.zero p2.le l2).mono ?_
           rintro e w5 ⟨rfl, rfl⟩
           rw [q2.out, (ES _ _ _ _).out, (EE _ _ _ _).out])))
    all_goals (go_wp2_with fail; go_meet)
    all_goals exact ⟨rfl, rfl, b2⟩
  obtain ⟨rfl, rfl, hb2⟩ := hcut
  have hw : Hid (Crc.sum (a ++ [t0, t1, t2, t3]) = want) := Lib.hid ((Crc.sum_four a t0 t1 t2 t3 want).2 HT.out)
  rw [hw.out]
  have oq0 : wc.cell? ⟨w.heap.size, 0, none⟩ = some (.int .u8 (o0.toNat : Int)) := by (repeat (first | with_reducible assumption | (simp [go_sem]; done) | with_reducible apply cell_alloc | with_reducible apply cell_drew | with_reducible apply cell_drewN | (with_reducible apply Ab.at; with_reducible assumption) | (with_reducible refine cell_set ?_ ?_; rotate_left; focus (first | (simp; done) | (simp; omega))) | (with_reducible refine cell_setb ?_ ?_; rotate_left; focus (first | omega | (simp only; omega) | (simp; omega)))))
  have oq1 : wc.cell? ⟨w.heap.size, 1, none⟩ = some (.int .u8 (o1.toNat : Int)) := by (repeat (first | with_reducible assumption | (simp [go_sem]; done) | with_reducible apply cell_alloc | with_reducible apply cell_drew | with_reducible apply cell_drewN | (with_reducible apply Ab.at; with_reducible assumption) | (with_reducible refine cell_set ?_ ?_; rotate_left; focus (first | (simp; done) | (simp; omega))) | (with_reducible refine cell_setb ?_ ?_; rotate_left; focus (first | omega | (simp only; omega) | (simp; omega)))))
  have oq2 : wc.cell? ⟨w.heap.size, 2, none⟩ = some (.int .u8 (o2.toNat : Int)) := by (repeat (first | with_reducible assumption | (simp [go_sem]; done) | with_reducible apply cell_alloc | with_reducible apply cell_drew | with_reducible apply cell_drewN | (with_reducible apply Ab.at; with_reducible assumption) | (with_reducible refine cell_set ?_ ?_; rotate_left; focus (first | (simp; done) | (simp; omega))) | (with_reducible refine cell_setb ?_ ?_; rotate_left; focus (first | omega | (simp only; omega) | (simp; omega)))))
  have oq3 : wc.cell? ⟨w.heap.size, 3, none⟩ = some (.int .u8 (o3.toNat : Int)) := by (repeat (first | with_reducible assumption | (simp [go_sem]; done) | with_reducible apply cell_alloc | with_reducible apply cell_drew | with_reducible apply cell_drewN | (with_reducible apply Ab.at; with_reducible assumption) | (with_reducible refine cell_set ?_ ?_; rotate_left; focus (first | (simp; done) | (simp; omega))) | (with_reducible refine cell_setb ?_ ?_; rotate_left; focus (first | omega | (simp only; omega) | (simp; omega)))))
  have tq0 : wc.cell? ⟨w1.heap.size, 0, none⟩ = some (.int .u8 (t0.toNat : Int)) := by (repeat (first | with_reducible assumption | (simp [go_sem]; done) | with_reducible apply cell_alloc | with_reducible apply cell_drew | with_reducible apply cell_drewN | (with_reducible apply Ab.at; with_reducible assumption) | (with_reducible refine cell_set ?_ ?_; rotate_left; focus (first | (simp; done) | (simp; omega))) | (with_reducible refine cell_setb ?_ ?_; rotate_left; focus (first | omega | (simp only; omega) | (simp; omega)))))
  have tq1 : wc.cell? ⟨w1.heap.size, 1, none⟩ = some (.int .u8 (t1.toNat : Int)) := by (repeat (first | with_reducible assumption | (simp [go_sem]; done) | with_reducible apply cell_alloc | with_reducible apply cell_drew | with_reducible apply cell_drewN | (with_reducible apply Ab.at; with_reducible assumption) | (with_reducible refine cell_set ?_ ?_; rotate_left; focus (first | (simp; done) | (simp; omega))) | (with_reducible refine cell_setb ?_ ?_; rotate_left; focus (first | omega | (simp only; omega) | (simp; omega)))))
  have tq2 : wc.cell? ⟨w1.heap.size, 2, none⟩ = some (.int .u8 (t2.toNat : Int)) := by (repeat (first | with_reducible assumption | (simp [go_sem]; done) | with_reducible apply cell_alloc | with_reducible apply cell_drew | with_reducible apply cell_drewN | (with_reducible apply Ab.at; with_reducible assumption) | (with_reducible refine cell_set ?_ ?_; rotate_left; focus (first | (simp; done) | (simp; omega))) | (with_reducible refine cell_setb ?_ ?_; rotate_left; focus (first | omega | (simp only; omega) | (simp; omega)))))
  have tq3 : wc.cell? ⟨w1.heap.size, 3, none⟩ = some (.int .u8 (t3.toNat : Int)) := by (repeat (first | with_reducible assumption | (simp [go_sem]; done) | with_reducible apply cell_alloc | with_reducible apply cell_drew | with_reducible apply cell_drewN | (with_reducible apply Ab.at; with_reducible assumption) | (with_reducible refine cell_set ?_ ?_; rotate_left; focus (first | (simp; done) | (simp; omega))) | (with_reducible refine cell_setb ?_ ?_; rotate_left; focus (first | omega | (simp only; omega) | (simp; omega)))))
  have bc : Ab w wc := (by repeat (first | with_reducible exact Ab.refl _ | with_reducible assumption | with_reducible refine Ab.drew ?_ | with_reducible refine Ab.drewN ?_ _ | with_reducible refine Ab.alloc ?_ _ | with_reducible refine Ab.trans ?_ (by assumption) | with_reducible refine Ab.set ?_ (by first | (simp; done) | omega | (simp; omega)) _))
  clear hb1 hb2
  go_upto_region 5 with fail
  go_cut [11, 12] (fun s9 s10 wx => s9 = .int .u32 ((Crc.sum (a ++ [o0, o1, o2, o3])).toNat : Int) ∧ s10 = .int .i64 0 ∧ Ab (wc) wx)
  case first =>
    go_region_held3 (fun w' => w'.cell? ⟨w.heap.size, 0, none⟩ = some (.int .u8 (o0.toNat : Int)) ∧ w'.cell? ⟨w.heap.size, 1, none⟩ = some (.int .u8 (o1.toNat : Int)) ∧ w'.cell? ⟨w.heap.size, 2, none⟩ = some (.int .u8 (o2.toNat : Int)) ∧ w'.cell? ⟨w.heap.size, 3, none⟩ = some (.int .u8 (o3.toNat : Int)))
      ((refine ⟨?_, ?_, ?_, ?_⟩ <;> (repeat (first | with_reducible assumption | (simp [go_sem]; done) | with_reducible apply cell_alloc | with_reducible apply cell_drew | with_reducible apply cell_drewN | (with_reducible apply Ab.at; with_reducible assumption) | (with_reducible refine cell_set ?_ ?_; rotate_left; focus (first | (simp; done) | (simp; omega))) | (with_reducible refine cell_setb ?_ ?_; rotate_left; focus (first | omega | (simp only; omega) | (simp; omega)))))))
      ((first
        | (refine stepLit (by rfl) _ _ (by rfl) (by rfl) (by rfl) (m := a) (by first | rfl | (simp; done) | (simp; omega)) (by (repeat (first | with_reducible exact new_drew (by first | (simp; done) | (simp; omega)) | with_reducible exact new_plain (by first | (simp; done) | (simp; omega)) | with_reducible exact new_drewN (by first | (simp; done) | (simp; omega)) | with_reducible refine old_alloc ?_ | with_reducible refine old_drew ?_ | with_reducible refine old_drewN ?_ _ | with_reducible refine old_grown (by assumption) (by simp) ?_ | with_reducible refine old_ab (by assumption) ?_))) (ha.ab (by repeat (first | with_reducible exact Ab.refl _ | with_reducible assumption | with_reducible refine Ab.drew ?_ | with_reducible refine Ab.drewN ?_ _ | with_reducible refine Ab.alloc ?_ _ | with_reducible refine Ab.trans ?_ (by assumption) | with_reducible refine Ab.set ?_ (by first | (simp; done) | omega | (simp; omega)) _))) hca (by first | (simp; done) | omega | (simp; omega)) ?_
           intro A1 c1 w3 L1 e1 a1 o1
           have l1 : L1.length ≤ 1000 := by rw [e1.out]; exact ka
           have z1 := a1.size; (try simp at z1)
           have p1 := o1 (wc.heap.size) (by first | (simp; done) | omega | (simp; omega)) (by first | (simp; done) | omega | (simp; omega))
           clear o1)
        | (refine stepApp (by rfl) _ _ (by rfl) (by rfl) (by rfl) (m := [o0, o1, o2, o3]) (by rfl) (show OR 5 (wc.heap.size) _ A1 c1 L1 from (by (repeat (first | with_reducible exact OR.none_ | with_reducible assumption | with_reducible refine OR.drew ?_ | with_reducible refine OR.drewN ?_ _ | with_reducible refine OR.alloc ?_ _ | (with_reducible refine OR.setNew ?_ _ ?_ _; rotate_left; focus (first | (simp; done) | omega | (simp; omega))) | with_reducible refine OR.set ?_ (by first | (simp; done) | omega | (simp; omega)) _ | (with_reducible refine OR.keep ?_ (by assumption)))))) (by first | (simp; done) | omega | (simp; omega)) (RB.blk (T := 5) (fr := (0, 0)) (by (repeat (first | exact new_plain (by first | (simp; done) | omega | (simp; omega)) | with_reducible refine old_alloc ?_ | with_reducible refine old_drew ?_ | with_reducible refine old_set ?_ (by first | (simp; done) | omega | (simp; omega)) | with_reducible refine old_ab (by assumption) ?_))) (Nat.zero_le _)) (by simp) (by simp; omega) ?_
           intro A2 c2 w4 L2 e2 p2 _ f2
           have b2 := f2 (wc) (by repeat (first | with_reducible exact Ab.refl _ | with_reducible assumption | with_reducible refine Ab.drew ?_ | with_reducible refine Ab.drewN ?_ _ | with_reducible refine Ab.alloc ?_ _ | with_reducible refine Ab.trans ?_ (by assumption) | with_reducible refine Ab.set ?_ (by first | (simp; done) | omega | (simp; omega)) _)) (by first | (simp; done) | omega | (simp; omega))
           have l2 : L2.length ≤ 9223372036854775807 := by rw [e2.out, List.length_append]; simp; omega
           have q2 : Hid (L2 = a ++ [o0, o1, o2, o3]) := Lib.hid (by rw [e2.out, e1.out])
           clear f2)
        | (go_at_call 9
           refine (sum_any A2 L2 c2 _ p2.rb.zero p2.le l2).mono ?_
           rintro e w5 ⟨rfl, rfl⟩
           rw [q2.out, (ES _ _ _ _).out, (EE _ _ _ _).out])))
    all_goals (go_wp2_with fail; go_meet)
    all_goals exact ⟨rfl, rfl, b2⟩
  obtain ⟨rfl, rfl, hb3⟩ := hcut
  have bd : Ab w wc := (by repeat (first | with_reducible exact Ab.refl _ | with_reducible assumption | with_reducible refine Ab.drew ?_ | with_reducible refine Ab.drewN ?_ _ | with_reducible refine Ab.alloc ?_ _ | with_reducible refine Ab.trans ?_ (by assumption) | with_reducible refine Ab.set ?_ (by first | (simp; done) | omega | (simp; omega)) _))
  replace oq0 := hb3.at oq0
  replace oq1 := hb3.at oq1
  replace oq2 := hb3.at oq2
  replace oq3 := hb3.at oq3
  replace tq0 := hb3.at tq0
  replace tq1 := hb3.at tq1
  replace tq2 := hb3.at tq2
  replace tq3 := hb3.at tq3
  have HO : Hid (Crc.sum (a ++ [o0, o1, o2, o3]) = want ↔ Crc.word o0 o1 o2 o3 = Crc.tailW a want) := Lib.hid (Crc.sum_four a o0 o1 o2 o3 want)
  clear hb3 bc
  by_cases hq : o0 = t0 ∧ o1 = t1 ∧ o2 = t2 ∧ o3 = t3
  · obtain ⟨rfl, rfl, rfl, rfl⟩ := hq
    rw [HO.out.2 HT.out]
    have hfe := run_four_eq o0 o1 o2 o3 o0 o1 o2 o3 wc
    rw [decide_eq_true ⟨rfl, rfl, rfl, rfl⟩] at hfe
    go_wp2_with fail
    refine (alive_true _).mono ?_
    rintro e wz ⟨rfl, hbz⟩
    go_wp2
    go_ret
    exact ⟨rfl, (by repeat (first | with_reducible exact Ab.refl _ | with_reducible assumption | with_reducible refine Ab.drew ?_ | with_reducible refine Ab.drewN ?_ _ | with_reducible refine Ab.alloc ?_ _ | with_reducible refine Ab.trans ?_ (by assumption) | with_reducible refine Ab.set ?_ (by first | (simp; done) | omega | (simp; omega)) _))⟩
  · have hs : ¬ Crc.sum (a ++ [o0, o1, o2, o3]) = want := fun h => hq (Crc.word_inj ((HO.out.1 h).trans HT.out.symm))
    have hfe := run_four_eq o0 o1 o2 o3 t0 t1 t2 t3 wc
    rw [decide_eq_false hq] at hfe
    have hs2 : (((Crc.sum (a ++ [o0, o1, o2, o3])).toNat : Int) == (want.toNat : Int)) = false := by
      rw [beq_eq_false_iff_ne]
      exact fun h => hs (BitVec.eq_of_toNat_eq (by omega))
    clear hs hq HO
    go_wp2_with fail
    refine (alive_true _).mono ?_
    rintro e wz ⟨rfl, hbz⟩
    go_wp2
    go_ret
    exact ⟨rfl, (by repeat (first | with_reducible exact Ab.refl _ | with_reducible assumption | with_reducible refine Ab.drew ?_ | with_reducible refine Ab.drewN ?_ _ | with_reducible refine Ab.alloc ?_ _ | with_reducible refine Ab.trans ?_ (by assumption) | with_reducible refine Ab.set ?_ (by first | (simp; done) | omega | (simp; omega)) _))⟩
end Go.Proofs.Ytddmcciegofneaa
