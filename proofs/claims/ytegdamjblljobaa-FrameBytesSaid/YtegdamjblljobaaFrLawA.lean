/- FrameScans, walked. Own work. -/
import Derived.Test.YtegdamjblljobaaFrRefE
import Derived.Test.YtegdamjblljobaaFrRefF
set_option linter.unusedVariables false
set_option linter.unusedSimpArgs false
namespace Go.Proofs.Ytegdamjblljobaa
open Go.RowKit

theorem Recs.grown {w w' : World} {lo : Nat} {A : Option Addr} {xs : List RecM} {row : Option Nat} (h : Recs w lo A xs) (hg : w.grownBy w' row) (hne : ∀ g, row = some g → g < lo) : Recs w' lo A xs :=
  h.block fun g h1 h2 => hg.block g h2 (fun e => by have := hne g e.symm; omega)
theorem u8_xor_form (a b : UInt8) : bits .xor .u8 (a.toNat : Int) (b.toNat : Int) = ((a ^^^ b).toNat : Int) := by
  have ha := a.toNat_lt; have hb := b.toNat_lt
  have h : a.toNat ^^^ b.toNat < 2 ^ 8 := Nat.xor_lt_two_pow ha hb
  show IntKind.u8.wrap ((BitVec.ofInt 8 (a.toNat : Int) ^^^ BitVec.ofInt 8 (b.toNat : Int)).toNat : Int) = _
  rw [BitVec.toNat_xor, BitVec.ofInt_natCast, BitVec.ofInt_natCast, BitVec.toNat_ofNat, BitVec.toNat_ofNat, Nat.mod_eq_of_lt (by omega), Nat.mod_eq_of_lt (by omega), UInt8.toNat_xor]
  simp [IntKind.wrap, IntKind.bits, IntKind.signed]; omega
theorem u8_xorc (a : UInt8) : bits .xor .u8 (a.toNat : Int) 255 = ((a ^^^ 255).toNat : Int) := u8_xor_form a 255
theorem longB_false {n : Nat} (h : longB n = false) : n ≤ 21000 := by unfold longB at h; simp at h; omega

theorem recs_small {b : List UInt8} {xs : List RecM} {u er : Int} (h : ScanE b (recs xs) u er) : ∀ i (hi : i < xs.length), xs[i].b.length ≤ 140737488351232 := by
  intro i hi
  have key : Frame.Foll (recs xs) := by
    rcases h with ⟨_, h0, _⟩ | ⟨_, _, n, _, hs⟩
    · rw [h0]; exact Frame.foll_nil
    · exact hs.1
  have := (key i (by rw [recs_length]; exact hi)).1
  rw [recs_get xs i hi] at this
  have h2 : xs[i].b.length ≤ 1000 := this.2.2
  omega
theorem scan_count {b : List UInt8} {xs : List RecM} {u er : Int} (h : ScanE b (recs xs) u er) : xs.length ≤ b.length := by
  rcases h with ⟨_, h0, _⟩ | ⟨_, _, n, _, hs⟩
  · have := congrArg List.length h0
    rw [recs_length] at this; simp at this; subst this; simp
  · have h1 := hs.2.2.1.length_le
    have h2 : ∀ l : List Frame.Rec, l.length ≤ (Frame.all l).length := by
      intro l
      induction l with
      | nil => simp
      | cons r l ih => rw [Frame.all_cons, List.length_append, Frame.enc_length, List.length_cons]; omega
    have h3 := h2 (recs xs)
    rw [recs_length] at h3
    omega

set_option maxHeartbeats 1600000 in
theorem scans_walk (A : Option Addr) (b : List UInt8) (c : Nat) (W : World) (hb : RB W 0 A b) (hc : b.length ≤ c) (lb : b.length ≤ 9223372036854775807) :
    Calls Try.prog 5 #[.slice A b.length c] W (RetTrue W) := by
  cases hg : longB b.length
  · have HG := Lib.hid hg; clear hg
    have hlb := longB_false HG.out
    go_enter Try.func5, Try.ntmps5
    go_wp2_with fail
    refine (long_any A b.length c _ lb).mono ?_
    rintro e w' ⟨rfl, rfl⟩
    rw [HG.out]
    go_wp2_with ((at_builtin
                  refine listLit rfl _ _ rfl rfl rfl (m := b) rfl (by (repeat (first | exact new_plain (by first | (simp; done) | omega | (simp; omega)) | with_reducible refine old_alloc ?_ | with_reducible refine old_drew ?_ | with_reducible refine old_set ?_ (by first | (simp; done) | omega | (simp; omega)) | with_reducible refine old_ab (by assumption) ?_))) (RB.ab hb (by repeat (first | with_reducible exact Ab.refl _ | with_reducible assumption | with_reducible refine Ab.drew ?_ | with_reducible refine Ab.drewN ?_ _ | with_reducible refine Ab.alloc ?_ _ | with_reducible refine Ab.trans ?_ (by assumption) | with_reducible refine Ab.set ?_ (by first | (simp; done) | omega | (simp; omega)) _))) hc (by omega) ?_
                  intro A1 c1 w1 L1 e1 a1 o1
                  have p1 := o1 W.heap.size (by omega) (by simp)
                  have b1 : Ab W w1 := (by repeat (first | with_reducible exact Ab.refl _ | with_reducible assumption | with_reducible refine Ab.drew ?_ | with_reducible refine Ab.drewN ?_ _ | with_reducible refine Ab.alloc ?_ _ | with_reducible refine Ab.trans ?_ (by assumption) | with_reducible refine Ab.set ?_ (by first | (simp; done) | omega | (simp; omega)) _))
                  have l1 : L1.length ≤ 21000 := by rw [e1.out]; exact hlb
                  clear o1))
    refine (scan_any A1 L1 c1 _ p1.rb.zero p1.le (by omega)).mono ?_
    rintro e w2 ⟨B, d, xs, u, er, hS, rfl, ho, hb2⟩
    go_wp2_with fail
    refine (refScan_any A b c _ (hb.ab (by repeat (first | with_reducible exact Ab.refl _ | with_reducible assumption | with_reducible refine Ab.drew ?_ | with_reducible refine Ab.drewN ?_ _ | with_reducible refine Ab.alloc ?_ _ | with_reducible refine Ab.trans ?_ (by assumption) | with_reducible refine Ab.set ?_ (by first | (simp; done) | omega | (simp; omega)) _))) hc lb).mono ?_
    rintro e w3 ⟨B', d', ys, u', er', hS', rfl, ho', hb3⟩
    obtain ⟨hrr, rfl, rfl⟩ := ScanE.unique (by rw [← e1.out]; exact hS.out) hS'.out
    have HR := Lib.hid hrr
    have hsm := Lib.hid (recs_small hS.out)
    have hcn := scan_count hS.out
    have p3 : OR 5 W.heap.size w3 A1 c1 L1 := (p1.keep hb2).keep hb3
    have hrg := p1.rng
    have hX : Recs w3 w1.heap.size B xs := ho.recs.ab hb3
    have hY : Recs w3 w1.heap.size B' ys := ho'.recs.mono hb2.size
    have b3 : Ab W w3 := (by repeat (first | with_reducible exact Ab.refl _ | with_reducible assumption | with_reducible refine Ab.drew ?_ | with_reducible refine Ab.drewN ?_ _ | with_reducible refine Ab.alloc ?_ _ | with_reducible refine Ab.trans ?_ (by assumption) | with_reducible refine Ab.set ?_ (by first | (simp; done) | omega | (simp; omega)) _))
    clear hS hS' hrr
    go_wp2
    go_loopw [10] (fun i wr => ∃ (k : Nat) (l : List UInt8), k ≤ L1.length ∧ i = .int .i64 k ∧ Hid (l.length = L1.length) ∧ OR 5 W.heap.size wr A1 c1 l ∧ w3.grownBy wr (A1.map (·.block))) (fun i _ => L1.length - (intOf i).toNat)
    case atStart => exact ⟨0, L1, Nat.zero_le _, rfl, Lib.hid rfl, p3, World.grownBy.refl _ _⟩
    case round =>
      obtain ⟨k, l, hk, rfl, hll, ol, hgr⟩ := hrel
      by_cases hlt : k < L1.length
      · have hkl : k < l.length := by rw [hll.out]; exact hlt
        obtain ⟨g, rfl, hg1, hg2⟩ := ol.at_ (by omega)
        have hcell := ol.cellAt hkl
        have hfz := ol.unfrozen k
        have hki : (k : Int) < (L1.length : Int) := by omega
        have HX : Hid (Value.int .u8 (bits .xor .u8 (l[k].toNat : Int) 255) = cb (l[k] ^^^ 255)) := Lib.hid (by rw [u8_xorc]; rfl)
        go_wp2
        go_roundw
        case rel => exact ⟨k + 1, l.set k (l[k] ^^^ 255), by omega, by go_num, Lib.hid (by rw [List.length_set]; exact hll.out), by rw [HX.out]; exact ol.store k _, grown_set hgr _⟩
        case measure => simp [intOf]; omega
      · obtain rfl : k = L1.length := by omega
        have hne : ∀ g, A1.map (·.block) = some g → g < w1.heap.size := fun g hg => by
          obtain ⟨a, ha, rfl⟩ := map_blk hg
          exact (hrg a ha).2
        have hX2 := (hX.grown hgr hne).mono (Nat.zero_le _)
        have hY2 := (hY.grown hgr hne).mono (Nat.zero_le _)
        have hab : Ab W wr := grown_ab b3 hgr (fun g hg => by
          obtain ⟨a, ha, rfl⟩ := map_blk hg
          exact (hrg a ha).1)
        go_wp2_with fail
        refine (same_true B B' d d' xs ys _ hX2 hY2 HR (by omega) hsm).mono ?_
        rintro e w9 ⟨rfl, n9, rfl⟩
        go_wp2
        go_ret
        exact ⟨rfl, (by repeat (first | with_reducible exact Ab.refl _ | with_reducible assumption | with_reducible refine Ab.drew ?_ | with_reducible refine Ab.drewN ?_ _ | with_reducible refine Ab.alloc ?_ _ | with_reducible refine Ab.trans ?_ (by assumption) | with_reducible refine Ab.set ?_ (by first | (simp; done) | omega | (simp; omega)) _))⟩
  · have HG := Lib.hid hg; clear hg
    go_enter Try.func5, Try.ntmps5
    go_wp2_with fail
    refine (long_any A b.length c _ lb).mono ?_
    rintro e w' ⟨rfl, rfl⟩
    rw [HG.out]
    go_wp2
    go_ret
    exact ⟨rfl, (by repeat (first | with_reducible exact Ab.refl _ | with_reducible assumption | with_reducible refine Ab.drew ?_ | with_reducible refine Ab.drewN ?_ _ | with_reducible refine Ab.alloc ?_ _ | with_reducible refine Ab.trans ?_ (by assumption) | with_reducible refine Ab.set ?_ (by first | (simp; done) | omega | (simp; omega)) _))⟩
end Go.Proofs.Ytegdamjblljobaa
