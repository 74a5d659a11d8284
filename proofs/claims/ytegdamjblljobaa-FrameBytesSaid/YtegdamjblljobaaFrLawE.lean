/- FrameBytes, walked. Own work. -/
import Derived.Test.YtegdamjblljobaaFrLawA
set_option linter.unusedVariables false
set_option linter.unusedSimpArgs false
namespace Go.Proofs.Ytegdamjblljobaa
open Go.RowKit

theorem RB.far {w w' : World} {lo : Nat} {A : Option Addr} {l : List UInt8} {row : Option Nat} (h : RB w lo A l) (hg : w.grownBy w' row) (hne : ∀ g, row = some g → g < lo) : RB w' lo A l :=
  h.block fun g h1 h2 => hg.block g h2 (fun e => by have := hne g e.symm; omega)
theorem encE_small {r : Frame.Rec} {L : List UInt8} {er : Int} (h : EncE r L er) : L.length ≤ 1012 := by
  rcases h with ⟨hv, rfl, _⟩ | ⟨_, rfl, _⟩
  · rw [Frame.enc_length]; have := hv.2.2; omega
  · simp
theorem allE_small {l : List Frame.Rec} {L : List UInt8} {er : Int} (h : AllE l L er) : L.length ≤ 20000 := by
  rcases h with ⟨_, rfl, _⟩ | ⟨_, _, rfl, _⟩ | ⟨_, h, rfl, _⟩
  · simp
  · simp
  · exact h

set_option maxHeartbeats 4000000 in
theorem bytes_walk (x : RecM) (A : Option Addr) (c : Nat) (xs : List RecM) (W : World) (hx : Laid W 0 x) (h : Recs W 0 A xs) (hn : xs.length ≤ 9223372036854775807) :
    Calls Try.prog 4 #[.agg #[.int .i64 x.num, .slice x.A x.b.length x.c], .slice A xs.length c] W (RetTrue W) := by
  go_enter Try.func4, Try.ntmps4
  go_wp2_with fail
  refine (great_any A c xs _ (h.ab (by repeat (first | with_reducible exact Ab.refl _ | with_reducible assumption | with_reducible refine Ab.drew ?_ | with_reducible refine Ab.drewN ?_ _ | with_reducible refine Ab.alloc ?_ _ | with_reducible refine Ab.trans ?_ (by assumption) | with_reducible refine Ab.set ?_ (by first | (simp; done) | omega | (simp; omega)) _))) hn).mono ?_
  rintro e w' ⟨v, hv, rfl, rfl⟩
  cases v with
  | true =>
    go_wp2
    go_ret
    exact ⟨rfl, (by repeat (first | with_reducible exact Ab.refl _ | with_reducible assumption | with_reducible refine Ab.drew ?_ | with_reducible refine Ab.drewN ?_ _ | with_reducible refine Ab.alloc ?_ _ | with_reducible refine Ab.trans ?_ (by assumption) | with_reducible refine Ab.set ?_ (by first | (simp; done) | omega | (simp; omega)) _))⟩
  | false =>
    obtain ⟨h40, hbs⟩ := hv.out rfl
    clear hv hbs
    by_cases h11 : 1100 < x.b.length
    · go_wp2
      go_ret
      exact ⟨rfl, (by repeat (first | with_reducible exact Ab.refl _ | with_reducible assumption | with_reducible refine Ab.drew ?_ | with_reducible refine Ab.drewN ?_ _ | with_reducible refine Ab.alloc ?_ _ | with_reducible refine Ab.trans ?_ (by assumption) | with_reducible refine Ab.set ?_ (by first | (simp; done) | omega | (simp; omega)) _))⟩
    · have hxl : x.b.length ≤ 1100 := by omega
      go_wp2_with ((at_builtin
                    refine listLit rfl _ _ rfl rfl rfl (m := x.b) rfl (by (repeat (first | exact new_plain (by first | (simp; done) | omega | (simp; omega)) | with_reducible refine old_alloc ?_ | with_reducible refine old_drew ?_ | with_reducible refine old_set ?_ (by first | (simp; done) | omega | (simp; omega)) | with_reducible refine old_ab (by assumption) ?_))) (RB.ab hx.1 (by repeat (first | with_reducible exact Ab.refl _ | with_reducible assumption | with_reducible refine Ab.drew ?_ | with_reducible refine Ab.drewN ?_ _ | with_reducible refine Ab.alloc ?_ _ | with_reducible refine Ab.trans ?_ (by assumption) | with_reducible refine Ab.set ?_ (by first | (simp; done) | omega | (simp; omega)) _))) hx.2.1 (by omega) ?_
                    intro A1 c1 w1 L1 e1 a1 o1
                    have p1 := o1 W.heap.size (by first | (simp; done) | omega | (simp; omega)) (by first | (simp; done) | omega | (simp; omega))
                    have bw1 : Ab W w1 := (by repeat (first | with_reducible exact Ab.refl _ | with_reducible assumption | with_reducible refine Ab.drew ?_ | with_reducible refine Ab.drewN ?_ _ | with_reducible refine Ab.alloc ?_ _ | with_reducible refine Ab.trans ?_ (by assumption) | with_reducible refine Ab.set ?_ (by first | (simp; done) | omega | (simp; omega)) _))
                    have qb : w1.cell? ⟨W.heap.size, 0, none⟩ = some (.int .i64 x.num) := a1.at (by repeat (first | with_reducible assumption | exact cell_newc (by first | (simp; done) | omega | (simp; omega)) rfl | with_reducible apply cell_alloc | with_reducible apply cell_drew | with_reducible apply cell_drewN))
                    have qc : w1.cell? ⟨W.heap.size, 1, none⟩ = some (.slice x.A x.b.length x.c) := a1.at (by repeat (first | with_reducible assumption | exact cell_newc (by first | (simp; done) | omega | (simp; omega)) rfl | with_reducible apply cell_alloc | with_reducible apply cell_drew | with_reducible apply cell_drewN))
                    clear o1))
      have hx1 := hx.1.ab bw1
      have h1 := h.ab bw1
      have l1 : L1.length ≤ 1100 := by rw [e1.out]; exact hxl
      refine (size_any x.num x.A x.b x.c _).mono ?_
      rintro e w2 ⟨n2, er2, hS2, rfl, b2⟩
      have qb2 := b2.at qb
      have qc2 := b2.at qc
      go_wp2_with fail
      refine (refSize_any x.num x.A x.b x.c _ (hx1.ab b2) hx.2.1).mono ?_
      rintro e w3 ⟨n3, er3, hS3, rfl, b3⟩
      obtain ⟨rfl, rfl⟩ := SizeE.unique hS2.out hS3.out
      have qb3 := b3.at qb2
      have qc3 := b3.at qc2
      go_wp2_with fail
      refine (encode_any x.num x.A x.b x.c _ ((hx1.ab b2).ab b3) hx.2.1).mono ?_
      rintro e w4 ⟨A4, c4, L, er4, hE4, rfl, o4, b4⟩
      have qb4 := b4.at qb3
      have qc4 := b4.at qc3
      have hx4 := ((hx1.ab b2).ab b3).ab b4
      go_wp2_with fail
      refine (refEncode_any x.num x.A x.b x.c _ hx4 hx.2.1).mono ?_
      rintro e w5 ⟨A5, c5, L5, er5, hE5, rfl, o5, b5⟩
      obtain ⟨hLL, rfl⟩ := EncE.unique hE4.out hE5.out
      subst hLL
      have hLs := encE_small hE4.out
      have b14 : Ab w1 w4 := (b2.trans b3).trans b4
      have b15 : Ab w1 w5 := b14.trans b5
      go_wp2_with fail
      refine (all_any A c xs _ (h1.ab b15) (by omega)).mono ?_
      rintro e w6 ⟨A6, c6, L6, er6, hE6, rfl, o6, b6⟩
      go_wp2_with fail
      refine (refAll_any A c xs _ ((h1.ab b15).ab b6) (by omega)).mono ?_
      rintro e w7 ⟨A7, c7, L7, er7, hE7, rfl, o7, b7⟩
      obtain ⟨hMM, rfl⟩ := AllE.unique hE6.out hE7.out
      subst hMM
      have hMs := allE_small hE6.out
      have hr4 := o4.rng
      have b13 : Ab w1 w3 := b2.trans b3
      have hz13 := b13.size
      have hz5 := b5.size
      have hz6 := b6.size
      have o47 : OR 5 w3.heap.size w7 A4 c4 L := ((o4.keep b5).keep b6).keep b7
      have d7 : RB w7 w4.heap.size A5 L := (o5.rb.ab b6).ab b7
      have i7 : RB w7 w5.heap.size A6 L6 := o6.rb.ab b7
      have j7 : RB w7 w6.heap.size A7 L6 := o7.rb
      have b17 : Ab w1 w7 := (b15.trans b6).trans b7
      clear hS2 hS3 hE4 hE5 hE6 hE7 qb2 qb3 qb4 qc2 qc3 qc4 o4 o5 o6 o7 b2 b3 b4 b5 b6 b7 b14 b15 hx4
      go_wp2
      go_loopw [18] (fun i wr => ∃ (k : Nat) (l : List UInt8), k ≤ L.length ∧ i = .int .i64 k ∧ Hid (l.length = L.length) ∧ Hid (∀ j (h : j < l.length) (h' : j < L.length), k ≤ j → l[j] = L[j]) ∧ OR 5 w3.heap.size wr A4 c4 l ∧ w7.grownBy wr (A4.map (·.block))) (fun i _ => L.length - (intOf i).toNat)
      case atStart => exact ⟨0, L, Nat.zero_le _, rfl, Lib.hid rfl, Lib.hid (fun _ _ _ _ => rfl), o47, World.grownBy.refl _ _⟩
      case round =>
        obtain ⟨k, l, hk, rfl, hll, heq, ol, hgr⟩ := hrel
        have hlo4 : ∀ g, A4.map (·.block) = some g → g < w4.heap.size := fun g hg => by
          obtain ⟨a, ha, rfl⟩ := map_blk hg
          exact (hr4 a ha).2
        by_cases hlt : k < L.length
        · have hkl : k < l.length := by rw [hll.out]; exact hlt
          have hd := d7.far hgr hlo4
          obtain ⟨g, rfl, hg1, hg2⟩ := ol.at_ (by omega)
          have hcell := ol.cellAt hkl
          rw [heq.out k hkl hlt (Nat.le_refl _)] at hcell
          have hfz := ol.unfrozen k
          obtain ⟨ad, rfl, _, hda⟩ := hd (by omega)
          have hdc : wr.cell? (ad.add k) = some (.int .u8 (L[k].toNat : Int)) := hda k hlt
          have hki : (k : Int) < (L.length : Int) := by omega
          have hk0 : (0 : Int) ≤ (k : Int) := by omega
          clear hda hd
          generalize L[k] = y at *
          go_wp2
          go_quiet (fail)
          have hfz2 : (wr.drewN nq).frozen? ⟨g, k, none⟩ = false := hfz
          have hcell2 : (wr.drewN nq).cell? ⟨g, k, none⟩ = some (.int .u8 (y.toNat : Int)) := hcell
          have ol2 := ol.drewN nq
          have hgr2 : w7.grownBy (wr.drewN nq) (some g) := ⟨hgr.os, hgr.tape, hgr.output, hgr.size, hgr.block⟩
          go_wp2
          go_roundw
          case rel => exact ⟨k + 1, l.set k 0, by omega, by go_num, Lib.hid (by rw [List.length_set]; exact hll.out), Lib.hid (fun j hj hj' hkj => by rw [List.getElem_set_ne (by omega)]; exact heq.out j (by simpa using hj) hj' (by omega)), ol2.store k 0, grown_set hgr2 _⟩
          case measure => simp [intOf]; omega
        · obtain rfl : k = L.length := by omega
          have b1r : Ab w1 wr := grown_ab b17 hgr (fun g hg => by
            obtain ⟨a, ha, rfl⟩ := map_blk hg
            have := (hr4 a ha).1
            omega)
          have hi := (i7.far hgr (fun g hg => by have := hlo4 g hg; omega)).zero
          have hj := (j7.far hgr (fun g hg => by have := hlo4 g hg; omega)).zero
          have qbr := b1r.at qb
          have qcr := b1r.at qc
          have pr := p1.rb.zero.ab b1r
          have xr := hx1.ab b1r
          have bWr : Ab W wr := bw1.trans b1r
          have HE1 := e1.out
          subst HE1
          have SX : ∀ w', Ab wr w' → Calls Try.prog 20 #[.slice x.A x.b.length x.c, .slice A1 x.b.length c1] w' (fun e w'' => e = .returned (.bool true) ∧ ∃ n, w'' = w'.drewN n) := fun w' hw =>
            (sameBytes_eq x.A A1 x.c c1 x.b x.b w' (xr.ab hw) (pr.ab hw) (by omega) (by omega)).mono fun _ _ h => ⟨by rw [h.1, beq_self_eq_true], h.2⟩
          clear hgr hlo4 heq ol
          go_wp2_with fail
          refine (sameBytes_eq A6 A7 c6 c7 L6 L6 _ (hi.ab (by repeat (first | with_reducible exact Ab.refl _ | with_reducible assumption | with_reducible refine Ab.drew ?_ | with_reducible refine Ab.drewN ?_ _ | with_reducible refine Ab.alloc ?_ _ | with_reducible refine Ab.trans ?_ (by assumption) | with_reducible refine Ab.set ?_ (by first | (simp; done) | omega | (simp; omega)) _))) (hj.ab (by repeat (first | with_reducible exact Ab.refl _ | with_reducible assumption | with_reducible refine Ab.drew ?_ | with_reducible refine Ab.drewN ?_ _ | with_reducible refine Ab.alloc ?_ _ | with_reducible refine Ab.trans ?_ (by assumption) | with_reducible refine Ab.set ?_ (by first | (simp; done) | omega | (simp; omega)) _))) (by omega) (by omega)).mono ?_
          rintro e w9 ⟨rfl, n9, rfl⟩
          rw [beq_self_eq_true]
          have qcs : (wr.drewN n9).cell? ⟨W.heap.size, 1, none⟩ = some (.slice x.A x.b.length x.c) := qcr
          go_wp2_with fail
          refine (SX _ (by repeat (first | with_reducible exact Ab.refl _ | with_reducible assumption | with_reducible refine Ab.drew ?_ | with_reducible refine Ab.drewN ?_ _ | with_reducible refine Ab.alloc ?_ _ | with_reducible refine Ab.trans ?_ (by assumption) | with_reducible refine Ab.set ?_ (by first | (simp; done) | omega | (simp; omega)) _))).mono ?_
          rintro e wa ⟨rfl, na, rfl⟩
          go_wp2
          go_ret
          exact ⟨rfl, (by repeat (first | with_reducible exact Ab.refl _ | with_reducible assumption | with_reducible refine Ab.drew ?_ | with_reducible refine Ab.drewN ?_ _ | with_reducible refine Ab.alloc ?_ _ | with_reducible refine Ab.trans ?_ (by assumption) | with_reducible refine Ab.set ?_ (by first | (simp; done) | omega | (simp; omega)) _))⟩
end Go.Proofs.Ytegdamjblljobaa
