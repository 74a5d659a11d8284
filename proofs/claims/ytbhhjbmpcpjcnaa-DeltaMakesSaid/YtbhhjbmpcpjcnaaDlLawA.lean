/- DeltaApplies, walked. Own work. -/
import Derived.Test.YtbhhjbmpcpjcnaaDlFunC
import Derived.Test.YtbhhjbmpcpjcnaaCvTry
set_option linter.unusedVariables false
set_option linter.unusedSimpArgs false
namespace Go.Proofs.Ytbhhjbmpcpjcnaa
open Go.RowKit

theorem xor_255 : ∀ n : Fin 256, bits .xor .u8 ((n.val : Nat) : Int) 255 = ((255 - n.val : Nat) : Int) := by decide +kernel
theorem u8_xor (x : UInt8) : Value.int .u8 (bits .xor .u8 (x.toNat : Int) 255) = cb (UInt8.ofNat (255 - x.toNat)) := by
  have h := x.toNat_lt
  have := xor_255 ⟨x.toNat, by omega⟩
  unfold cb
  rw [show bits .xor .u8 (x.toNat : Int) 255 = ((255 - x.toNat : Nat) : Int) from this, UInt8.toNat_ofNat']
  congr 1
  omega
theorem apply_len (s : List UInt8) (l : List Dl.Part) : (Dl.apply s l).1.length ≤ 2000 := by
  unfold Dl.apply
  split
  · simp
  · split
    · split
      · simp
      · show (Dl.out s l).length ≤ 2000
        omega
    · simp
theorem mapD_blk {A : Option Addr} {g : Nat} (h : A.map (·.block) = some g) : ∃ a, A = some a ∧ a.block = g := by
  cases A with
  | none => cases h
  | some a => exact ⟨a, rfl, by simpa using h⟩
set_option maxRecDepth 100000 in
set_option maxHeartbeats 4000000 in
theorem applies_walk (B : Option Addr) (cb_ : Nat) (s : List UInt8) (A : Option Addr) (c : Nat) (xs : List PM) (n : Int) (W : World) (hs : RB W 0 B s) (hcb : s.length ≤ cb_) (hsl : s.length ≤ 9223372036854775807) (h : Pts W A c xs) :
    Calls Try.prog 4 #[.slice B s.length cb_, .slice A xs.length c, .int .i64 n] W (RetTrue W) := by
  by_cases h21 : s.length ≤ 2100
  · have k21 : ¬ (2100 : Int) < (s.length : Int) := by omega
    have TG := fun w' (k : Ab W w') => dgreat_any A c xs w' (h.ab k)
    have TC := Lib.hid (fun w' (k : Ab W w') => cost_any A c xs w' (h.ab k))
    have TD := Lib.hid (fun w' (k : Ab W w') => rcost_any A c xs w' (h.ab k))
    have TA := Lib.hid (fun w' (k : Ab W w') A1 c1 (h1 : RB w' 0 A1 s) (h2 : s.length ≤ c1) => dapply_any A1 c1 s A c xs w' h1 h2 hsl (h.ab k))
    have TB := Lib.hid (fun w' (k : Ab W w') => rapply_any B cb_ s A c xs w' (hs.ab k) hcb hsl (h.ab k))
    have TE := Lib.hid (fun w' (k : Ab W w') => dcheck_any A c xs n w' (h.ab k))
    have TF := Lib.hid (fun w' (k : Ab W w') => rdcheck_any A c xs n w' (h.ab k))
    have hal := apply_len s (xs.map PM.d)
    generalize Dl.apply s (xs.map PM.d) = qa at *
    generalize Dl.cost (xs.map PM.d) = qc at *
    generalize Dl.check (xs.map PM.d) n = qe at *
    obtain ⟨La, xa⟩ := qa
    obtain ⟨nc, xc⟩ := qc
    simp only at hal
    clear h
    go_enter Try.func4, Try.ntmps4
    go_wp2_with fail
    refine (TG _ abA).mono ?_
    rintro e w0 ⟨v, rfl, hv, hb0⟩
    have b0 : Ab W w0 := Ab.trans (by exact abA) hb0
    clear TG hb0
    cases v with
    | true =>
      go_wp2
      go_ret
      exact ⟨rfl, b0⟩
    | false =>
      clear hv
      go_wp2_with ((at_builtin
                    refine listLit rfl _ _ rfl rfl rfl (m := s) rfl (by (repeat (first | exact new_plain wnA | with_reducible refine old_alloc ?_ | with_reducible refine old_drew ?_ | with_reducible refine old_set ?_ wnA | with_reducible refine old_ab (by assumption) ?_))) (RB.ab hs (show Ab W _ from abA)) hcb (by omega) ?_
                    intro A1 c1 w1 L1 e1 a1 o1
                    have p1 := o1 w0.heap.size wnA wnA
                    have b1 : Ab W w1 := Ab.trans (by exact abA) a1
                    clear o1))
      obtain rfl : s = L1 := e1.out.symm
      refine (TC.out _ b1).mono ?_
      rintro e w2 ⟨rfl, hb2⟩
      have p2 := p1.keep hb2
      have b2 := b1.trans hb2
      go_wp2_with fail
      refine (TD.out _ b2).mono ?_
      rintro e w3 ⟨rfl, hb3⟩
      have p3 := p2.keep hb3
      have b3 := b2.trans hb3
      go_wp2_with fail
      refine (TA.out _ b3 A1 c1 p3.rb.zero p3.le).mono ?_
      rintro e w4 ⟨D, cd, L4, hL4, rfl, o4, hb4⟩
      obtain rfl : L4 = La := hL4.out
      have r4 := p3.rb.zero.ab hb4
      have b4 := b3.trans hb4
      go_wp2_with fail
      refine (TB.out _ b4).mono ?_
      rintro e w5 ⟨E, ce, L5, hL5, rfl, o5, hb5⟩
      obtain rfl : L4 = L5 := hL5.out.symm
      have r5 := r4.ab hb5
      have hr4 := o4.rng
      have o45 := o4.keep hb5
      have d5 := o5.rb
      have b5 := b4.trans hb5
      have b35 := hb4.trans hb5
      have s3 := p3.le
      have s5 := o4.le
      have z3 := b3.size
      have r3 := p3.rb.zero
      clear hL4 hL5 p1 p2 p3 o4 o5 hb2 hb3 r4 r5 TA TB TC TD
      go_wp2
      go_loopw [16] (fun i wr => ∃ (k : Nat) (l : List UInt8), k ≤ L4.length ∧ i = .int .i64 k ∧ Hid (l.length = L4.length) ∧ Hid (∀ j (h : j < l.length) (h' : j < L4.length), k ≤ j → l[j] = L4[j]) ∧ OR 5 w3.heap.size wr D cd l ∧ w5.grownBy wr (D.map (·.block))) (fun i _ => L4.length - (intOf i).toNat)
      case atStart => exact ⟨0, L4, Nat.zero_le _, rfl, Lib.hid rfl, Lib.hid (fun _ _ _ _ => rfl), o45, World.grownBy.refl _ _⟩
      case round =>
        obtain ⟨k, l, hk, rfl, hll, heq, ol, hgr⟩ := hrel
        by_cases hlt : k < L4.length
        · have hkl : k < l.length := by rw [hll.out]; exact hlt
          have hd := grown_hi hgr d5 (fun a ha => (hr4 a ha).2)
          obtain ⟨g, rfl, hg1, hg2⟩ := ol.at_ (by omega)
          have hcell := ol.cellAt hkl
          rw [heq.out k hkl hlt (Nat.le_refl _)] at hcell
          have hfz := ol.unfrozen k
          obtain ⟨ad, rfl, _, hda⟩ := hd (by omega)
          have hdc : World.cell? (‹World› : World) (ad.add k) = some (.int .u8 (L4[k].toNat : Int)) := hda k hlt
          have hki : (k : Int) < (L4.length : Int) := by omega
          have hk0 : (0 : Int) ≤ (k : Int) := by omega
          rename World => wr
          have heq2 : Hid (∀ j (hj : j < (l.set k (UInt8.ofNat (255 - L4[k].toNat))).length) (hj' : j < L4.length), k + 1 ≤ j → (l.set k (UInt8.ofNat (255 - L4[k].toNat)))[j] = L4[j]) := Lib.hid (fun j hj hj' hkj => by rw [List.getElem_set_ne (by omega)]; exact heq.out j (by simpa using hj) hj' (by omega))
          have hx := Lib.hid (u8_xor L4[k])
          clear hda hd heq
          generalize hyy : L4[k] = y at *
          clear hyy
          go_wp2
          go_quiet (fail)
          have hfz2 : (wr.drewN nq).frozen? ⟨g, k, none⟩ = false := hfz
          have hcell2 : (wr.drewN nq).cell? ⟨g, k, none⟩ = some (.int .u8 (y.toNat : Int)) := hcell
          have ol2 := ol.drewN nq
          have hgr2 : w5.grownBy (wr.drewN nq) (some g) := ⟨hgr.os, hgr.tape, hgr.output, hgr.size, hgr.block⟩
          go_wp2
          go_roundw
          case rel => exact ⟨k + 1, l.set k (UInt8.ofNat (255 - y.toNat)), by omega, by go_num, Lib.hid (by rw [List.length_set]; exact hll.out), heq2, by rw [hx.out]; exact ol2.store k _, grown_set hgr2 _⟩
          case measure => simp [intOf]; omega
        · obtain rfl : k = L4.length := by omega
          rename World => wr
          have b3r : Ab w3 wr := grown_ab b35 hgr (fun g hg => by
            obtain ⟨a, ha, rfl⟩ := mapD_blk hg
            exact (hr4 a ha).1)
          have bWr : Ab W wr := b3.trans b3r
          have pr := r3.ab b3r
          have qr := hs.ab bWr
          have hll' : l.length = L4.length := hll.out
          clear hgr heq ol
          go_wp2_with fail
          refine (TE.out _ bWr).mono ?_
          rintro e w8 ⟨rfl, hb8⟩
          have b8 := bWr.trans hb8
          go_wp2_with fail
          refine (TF.out _ b8).mono ?_
          rintro e w9 ⟨rfl, hb9⟩
          have b9 := b8.trans hb9
          have SX : Calls Try.prog 16 #[.slice A1 s.length c1, .slice B s.length cb_] w9 (fun e w'' => e = .returned (.bool true) ∧ ∃ n, w'' = w9.drewN n) :=
            (sameBytes_all A1 B c1 cb_ s s w9 (pr.ab (hb8.trans hb9)) (qr.ab (hb8.trans hb9)) (by omega) (by omega)).mono fun _ _ h => ⟨by rw [h.1, beq_self_eq_true], h.2⟩
          go_wp2_with fail
          refine SX.mono ?_
          rintro e wa ⟨rfl, na, rfl⟩
          go_wp2
          go_ret
          exact ⟨rfl, abA⟩
  · have k21 : (2100 : Int) < (s.length : Int) := by omega
    go_enter Try.func4, Try.ntmps4
    go_wp2
    go_ret
    exact ⟨rfl, abA⟩
end Go.Proofs.Ytbhhjbmpcpjcnaa
