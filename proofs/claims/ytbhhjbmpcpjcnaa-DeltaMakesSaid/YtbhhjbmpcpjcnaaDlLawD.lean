/- DeltaMakes, walked. Own work. -/
import Derived.Test.YtbhhjbmpcpjcnaaDlLawC
import Derived.Test.YtbhhjbmpcpjcnaaDlLong
set_option linter.unusedVariables false
set_option linter.unusedSimpArgs false
namespace Go.Proofs.Ytbhhjbmpcpjcnaa
open Go.RowKit

set_option maxRecDepth 100000 in
set_option maxHeartbeats 16000000 in
theorem makes_walk (B : Option Addr) (cb_ : Nat) (s : List UInt8) (D : Option Addr) (cd : Nat) (T : List UInt8) (W : World) (hM : MaxL W) (hs : RB W 0 B s) (hcb : s.length ≤ cb_) (hsl : s.length ≤ 9223372036854775807) (hB : B = none → cb_ = 0)
    (ht : RB W 0 D T) (hcd : T.length ≤ cd) (htl : T.length ≤ 9223372036854775807) :
    Calls Try.prog 5 #[.slice B s.length cb_, .slice D T.length cd] W (RetTrue W) := by
  have TL1 := fun w' => rlong_any B cb_ s w'
  have TL2 := fun w' => rlong_any D cd T w'
  have G1 := Lib.hid (fun h => great_le (n := s.length) h)
  have G2 := Lib.hid (fun h => great_le (n := T.length) h)
  have HX := Lib.hid (⟨hM, hs, ht⟩ : MaxL W ∧ RB W 0 B s ∧ RB W 0 D T)
  generalize Dl.great s.length = q1 at *
  generalize Dl.great T.length = q2 at *
  clear hM hs ht
  go_enter Try.func5, Try.ntmps5
  go_wp2_with fail
  refine (TL1 _).mono ?_
  rintro e wa ⟨rfl, hba⟩
  have ba : Ab W wa := Ab.trans (by exact abA) hba
  cases q1 with
  | true =>
    go_wp2
    go_ret
    exact ⟨rfl, ba⟩
  | false =>
    have hs2 := G1.out rfl
    go_wp2_with fail
    refine (TL2 _).mono ?_
    rintro e wb ⟨rfl, hbb⟩
    have bb : Ab W wb := Ab.trans ba (Ab.trans (by exact abA) hbb)
    cases q2 with
    | true =>
      go_wp2
      go_ret
      exact ⟨rfl, bb⟩
    | false =>
      have ht2 := G2.out rfl
      clear TL1 TL2 G1 G2 hba hbb ba
      have HB := Lib.hid bb
      clear bb
      go_wp2_with (first
        | (at_builtin
           refine listLit rfl _ _ rfl rfl rfl (m := T) rfl (by (repeat (first | exact new_plain wnA | with_reducible refine old_alloc ?_ | with_reducible refine old_drew ?_ | with_reducible refine old_set ?_ wnA | with_reducible refine old_ab (by assumption) ?_))) (RB.ab HX.out.2.2 (show Ab W _ from Ab.trans HB.out abA)) hcd (by omega) ?_
           intro A1 c1 w1 L1 e1 a1 o1
           have z1 := a1.size; simp at z1
           have p1 := o1 wb.heap.size (by simp) (by simp)
           have b1 : Ab W w1 := Ab.trans HB.out abA
           clear o1 a1))
      have hWb := HB.out.size
      have e1' := e1.out
      subst e1'
      have r1 := p1.rb.zero
      have m1 := p1.le
      refine (make_any B A1 cb_ c1 s L1 w1 (HX.out.1.ab b1) (HX.out.2.1.ab b1) r1 hcb m1 hB hsl (by omega)).mono ?_
      rintro e w2 ⟨P, cp, ps, er, rfl, oP, hb2, hr⟩
      have b2 := b1.trans hb2
      go_wp2_with fail
      refine (rmake_any B D cb_ cd s L1 w2 (HX.out.2.1.ab b2) (HX.out.2.2.ab b2) hcb hcd hsl (by omega)).mono ?_
      rintro e w3 ⟨P', cp', ps', er', rfl, oP', hb3, hr'⟩
      obtain ⟨hee, hpp, hl1, hl2⟩ := ret_same (w := W) (w' := W) (w2 := W) (w2' := W) (e := .returned (.bool true)) (e' := .returned (.bool true)) hr.out hr'.out
      subst hee
      have HPP := Lib.hid hpp
      have oP3 := oP.ab hb3
      have o3 := p1.keep (hb2.trans hb3)
      have hrg := p1.rng
      have hz2 := hb2.size
      have hz3 := hb3.size
      have HB3 := Lib.hid ((b1.trans hb2).trans hb3)
      clear hpp hr hr' r1 oP e1 b1 b2 hb2 hb3 p1
      go_wp2
      go_loopw [10] (fun i wr => ∃ (k : Nat) (l : List UInt8), k ≤ L1.length ∧ i = .int .i64 k ∧ Hid (l.length = L1.length) ∧ OR 5 wb.heap.size wr A1 c1 l ∧ w3.grownBy wr (A1.map (·.block))) (fun i _ => L1.length - (intOf i).toNat)
      case atStart => exact ⟨0, L1, Nat.zero_le _, rfl, Lib.hid rfl, o3, World.grownBy.refl _ _⟩
      case round =>
        obtain ⟨k, l, hk, rfl, hll, ol, hgr⟩ := hrel
        by_cases hlt : k < L1.length
        · have hkl : k < l.length := by rw [hll.out]; exact hlt
          obtain ⟨g, rfl, hg1, hg2⟩ := ol.at_ (by omega)
          have hcell := ol.cellAt hkl
          have hfz := ol.unfrozen k
          have hki : (k : Int) < (L1.length : Int) := by omega
          have hk0 : (0 : Int) ≤ (k : Int) := by omega
          rename World => wr
          have hx := Lib.hid (u8_xor l[k])
          generalize hyy : l[k] = y at *
          clear hyy
          go_wp2
          refine ⟨⟨k + 1, l.set k (UInt8.ofNat (255 - y.toNat)), by omega, by go_num, Lib.hid (by rw [List.length_set]; exact hll.out), by rw [hx.out]; exact ol.store k _, grown_set hgr _⟩, ?_⟩
          simp [intOf]; omega
        · obtain rfl : k = L1.length := by omega
          rename World => wr
          have hne : ∀ g, A1.map (·.block) = some g → wb.heap.size ≤ g ∧ g < w1.heap.size := fun g hg => by
            obtain ⟨a, ha, rfl⟩ := mapD_blk hg
            exact hrg a ha
          have bWr : Ab W wr := grown_ab HB3.out hgr (fun g hg => by have := (hne g hg).1; omega)
          have hkp : ∀ g, w1.heap.size ≤ g → g < w3.heap.size → wr.heap[g]? = w3.heap[g]? := fun g h1 h2 => hgr.block g h2 (fun e => by have := (hne g e.symm).2; omega)
          have q1 := (oP3.keep hkp).pts (by omega)
          have q2 := (oP'.keep (fun g h1 h2 => hkp g (by omega) h2)).pts (by omega)
          clear hgr ol hne hkp hrg oP3 oP' o3 HB3
          go_wp2_with fail
          refine (dsame_any P P' cp cp' ps ps' _ q1 q2 HPP.out).mono ?_
          rintro e w9 ⟨rfl, hb9⟩
          have b9 := Ab.trans bWr hb9
          go_wp2
          go_ret
          exact ⟨rfl, b9⟩
end Go.Proofs.Ytbhhjbmpcpjcnaa
