/- FrameFlips, walked. Own work. -/
import Derived.Test.YtegdamjblljobaaFrLawC
set_option linter.unusedVariables false
set_option linter.unusedSimpArgs false
namespace Go.Proofs.Ytegdamjblljobaa
open Go.RowKit

set_option maxHeartbeats 4000000 in
theorem flips_walk (A : Option Addr) (c : Nat) (xs : List RecM) (n m by_ : Int) (W : World) (h : Recs W 0 A xs) (hn : xs.length ≤ 9223372036854775807) (hxc : xs.length ≤ c) (hn1 : -9223372036854775808 ≤ n) (hn2 : n ≤ 9223372036854775807)
    (hm1 : -9223372036854775808 ≤ m) (hm2 : m ≤ 9223372036854775807) (hb1 : 0 ≤ by_) (hb2 : by_ ≤ 255) :
    Calls Try.prog 8 #[.slice A xs.length c, .int .i64 n, .int .i64 m, .int .u8 by_] W (RetTrue W) := by
  go_enter Try.func8, Try.ntmps8
  go_wp2_with fail
  refine (great_any A c xs _ h hn).mono ?_
  rintro e w' ⟨v, hv, rfl, rfl⟩
  cases v with
  | true =>
    go_wp2_with fail
    go_wp2_with fail
    refine (alive_true _).mono ?_
    rintro e wz ⟨rfl, hbz⟩
    go_wp2
    go_ret
    exact ⟨rfl, (by repeat (first | with_reducible exact Ab.refl _ | with_reducible assumption | with_reducible refine Ab.drew ?_ | with_reducible refine Ab.drewN ?_ _ | with_reducible refine Ab.alloc ?_ _ | with_reducible refine Ab.trans ?_ (by assumption) | with_reducible refine Ab.set ?_ (by first | (simp; done) | omega | (simp; omega)) _))⟩
  | false =>
    obtain ⟨h40, hbs⟩ := hv.out rfl
    have HB0 := Lib.hid hbs
    have HB := Lib.hid (show ∀ i (hi : i < xs.length), xs[i].b.length ≤ 140737488351232 from fun i hi => by have := hbs i hi; omega)
    clear hv hbs
    go_wp2_with fail
    refine (following_any A c xs _ h hn).mono ?_
    rintro e w1 ⟨v, hv, rfl, b1⟩
    cases v with
    | false =>
      go_wp2_with fail
      go_wp2_with fail
      refine (alive_true _).mono ?_
      rintro e wz ⟨rfl, hbz⟩
      go_wp2
      go_ret
      exact ⟨rfl, (by repeat (first | with_reducible exact Ab.refl _ | with_reducible assumption | with_reducible refine Ab.drew ?_ | with_reducible refine Ab.drewN ?_ _ | with_reducible refine Ab.alloc ?_ _ | with_reducible refine Ab.trans ?_ (by assumption) | with_reducible refine Ab.set ?_ (by first | (simp; done) | omega | (simp; omega)) _))⟩
    | true =>
      have HF := Lib.hid (hv.out.1 (by trivial))
      clear hv
      by_cases hneg : n < 0
      · go_wp2_with fail
        go_wp2_with fail
        refine (alive_true _).mono ?_
        rintro e wz ⟨rfl, hbz⟩
        go_wp2
        go_ret
        exact ⟨rfl, (by repeat (first | with_reducible exact Ab.refl _ | with_reducible assumption | with_reducible refine Ab.drew ?_ | with_reducible refine Ab.drewN ?_ _ | with_reducible refine Ab.alloc ?_ _ | with_reducible refine Ab.trans ?_ (by assumption) | with_reducible refine Ab.set ?_ (by first | (simp; done) | omega | (simp; omega)) _))⟩
      · by_cases hbig : (xs.length : Int) ≤ n
        · go_wp2_with fail
          go_wp2_with fail
          refine (alive_true _).mono ?_
          rintro e wz ⟨rfl, hbz⟩
          go_wp2
          go_ret
          exact ⟨rfl, (by repeat (first | with_reducible exact Ab.refl _ | with_reducible assumption | with_reducible refine Ab.drew ?_ | with_reducible refine Ab.drewN ?_ _ | with_reducible refine Ab.alloc ?_ _ | with_reducible refine Ab.trans ?_ (by assumption) | with_reducible refine Ab.set ?_ (by first | (simp; done) | omega | (simp; omega)) _))⟩
        · obtain ⟨k, rfl⟩ : ∃ k : Nat, n = k := ⟨n.toNat, by omega⟩
          have hk : k < xs.length := by omega
          by_cases h4 : m < 4
          · go_wp2_with fail
            go_wp2_with fail
            refine (alive_true _).mono ?_
            rintro e wz ⟨rfl, hbz⟩
            go_wp2
            go_ret
            exact ⟨rfl, (by repeat (first | with_reducible exact Ab.refl _ | with_reducible assumption | with_reducible refine Ab.drew ?_ | with_reducible refine Ab.drewN ?_ _ | with_reducible refine Ab.alloc ?_ _ | with_reducible refine Ab.trans ?_ (by assumption) | with_reducible refine Ab.set ?_ (by first | (simp; done) | omega | (simp; omega)) _))⟩
          · obtain ⟨q, rfl⟩ : ∃ q : Nat, m = q := ⟨m.toNat, by omega⟩
            obtain ⟨a, hA, _, c0, c1, hl⟩ := (h.ab b1).at_ hk
            subst hA
            have hxb := HB0.out k hk
            have hxv : Hid (xs[k].r.data.length = xs[k].b.length) := Lib.hid rfl
            generalize hx : xs[k] = x at *
            have HX := Lib.hid hx
            clear hx
            by_cases hqb : 12 + (x.b.length : Int) ≤ (q : Int)
            · go_wp2_with fail
              go_wp2_with fail
              refine (alive_true _).mono ?_
              rintro e wz ⟨rfl, hbz⟩
              go_wp2
              go_ret
              exact ⟨rfl, (by repeat (first | with_reducible exact Ab.refl _ | with_reducible assumption | with_reducible refine Ab.drew ?_ | with_reducible refine Ab.drewN ?_ _ | with_reducible refine Ab.alloc ?_ _ | with_reducible refine Ab.trans ?_ (by assumption) | with_reducible refine Ab.set ?_ (by first | (simp; done) | omega | (simp; omega)) _))⟩
            · by_cases hz : by_ = 0
              · subst hz
                go_wp2_with fail
                go_wp2_with fail
                refine (alive_true _).mono ?_
                rintro e wz ⟨rfl, hbz⟩
                go_wp2
                go_ret
                exact ⟨rfl, (by repeat (first | with_reducible exact Ab.refl _ | with_reducible assumption | with_reducible refine Ab.drew ?_ | with_reducible refine Ab.drewN ?_ _ | with_reducible refine Ab.alloc ?_ _ | with_reducible refine Ab.trans ?_ (by assumption) | with_reducible refine Ab.set ?_ (by first | (simp; done) | omega | (simp; omega)) _))⟩
              · have hz' : (by_ == 0) = false := by simpa using hz
                obtain ⟨y, rfl⟩ : ∃ y : UInt8, by_ = (y.toNat : Int) := ⟨UInt8.ofNat by_.toNat, by rw [UInt8.toNat_ofNat']; omega⟩
                have hy0 : Hid (y ≠ 0) := Lib.hid (fun h => hz (by rw [h]; rfl))
                go_wp2_with fail
                refine (all_any (some a) c xs _ (h.ab b1) (by omega)).mono ?_
                rintro e w2 ⟨B, d, L, er, hE, rfl, o2, b2⟩
                have b22 : Ab W w2 := b1.trans b2
                rcases hE.out with ⟨⟨i, hi, hbad⟩, _⟩ | ⟨_, _, h3, rfl⟩ | ⟨_, h20, h3, rfl⟩
                · exact absurd (HF.out i hi).1 hbad
                · subst h3
                  go_wp2_with fail
                  go_wp2_with fail
                  refine (alive_true _).mono ?_
                  rintro e wz ⟨rfl, hbz⟩
                  go_wp2
                  go_ret
                  exact ⟨rfl, (by repeat (first | with_reducible exact Ab.refl _ | with_reducible assumption | with_reducible refine Ab.drew ?_ | with_reducible refine Ab.drewN ?_ _ | with_reducible refine Ab.alloc ?_ _ | with_reducible refine Ab.trans ?_ (by assumption) | with_reducible refine Ab.set ?_ (by first | (simp; done) | omega | (simp; omega)) _))⟩
                · have HL := Lib.hid h3
                  have l2 : L.length ≤ 20000 := by rw [h3]; exact h20
                  clear h3 h20 hE c0 c1 hl hz' hz
                  have hsz1 := b1.size
                  go_wp2
                  go_loopw [11, 12] (fun t i wr => ∃ i' s : Nat, i' ≤ k ∧ i = .int .i64 i' ∧ t = .int .i64 (s : Int) ∧ Hid (s = (Frame.all (recs (xs.take i'))).length) ∧ s ≤ 1112 * i' ∧ w2 = wr) (fun _ i _ => k - (intOf i).toNat)
                  case atStart => exact ⟨0, 0, Nat.zero_le _, rfl, rfl, Lib.hid rfl, by omega, by first | rfl | trivial⟩
                  case round =>
                    obtain ⟨i, s, hik, rfl, rfl, hS, hsl, rfl⟩ := hrel
                    by_cases hlt : i < k
                    · have hix : i < xs.length := by omega
                      obtain ⟨a', hA', _, c0, c1, hl⟩ := (h.ab b22).at_ hix
                      obtain rfl := Option.some.inj hA'
                      have ht := take_len xs i hix
                      have hzb := HB0.out i hix
                      clear hA'
                      generalize hz : xs[i] = z at *
                      have HT := Lib.hid ht
                      clear ht hz
                      go_wp2
                      go_roundw
                      case rel => exact ⟨i + 1, s + (12 + z.b.length), by omega, by go_num, by go_num, Lib.hid (by rw [HT.out, hS.out]), by omega, by first | rfl | trivial⟩
                      case measure => simp [intOf]; omega
                    · obtain rfl : i = k := by omega
                      have hjlt : s + q < L.length := by
                        have h1 := take_len xs i hk
                        rw [HX.out, ← hS.out] at h1
                        have h2 := (Frame.all_take_prefix (recs xs) (i + 1)).length_le
                        rw [← recs_take, ← HL.out] at h2
                        omega
                      have hflip : Hid (∀ hj : s + q < L.length, Frame.IsScan (L.set (s + q) (L[s + q] ^^^ y)) ((recs xs).take i) s) := Lib.hid (fun hj => by
                        have e1 : (Frame.all ((recs xs).take i)).length = s := by rw [← recs_take, ← hS.out]
                        have e2 := HL.out
                        subst e2
                        have := Frame.scan_flip HF.out i q (by rw [recs_length]; exact hk) (by omega) (by rw [recs_get xs i hk, HX.out, hxv.out]; omega) ((Frame.all (recs xs))[s + q] ^^^ y) (fun hh => by
                          simp only [e1]
                          exact fun h9 => hy0.out ((Crc.xor_self_iff _ _).1 h9))
                        rw [e1] at this
                        exact this)
                      have hj' : (s : Int) + (q : Int) = ((s + q : Nat) : Int) := by omega
                      have hsq : s + q ≤ 9223372036854775807 := by omega
                      generalize s + q = j at *
                      obtain ⟨g, rfl, hg1, hg2⟩ := o2.at_ (by omega)
                      have hcell := o2.cellAt hjlt
                      have hfz := o2.unfrozen j
                      have hji : (j : Int) < (L.length : Int) := by omega
                      have hj0 : (0 : Int) ≤ (j : Int) := by omega
                      have HXR : Hid (Value.int .u8 (bits .xor .u8 (L[j].toNat : Int) (y.toNat : Int)) = cb (L[j] ^^^ y)) := Lib.hid (by rw [u8_xor_form]; rfl)
                      go_wp2_with fail
                      have HFL := hflip.out hjlt
                      have oS : OR 5 w1.heap.size (w2.setCell ⟨g, j, none⟩ (cb (L[j] ^^^ y))) (some ⟨g, 0, none⟩) d (L.set j (L[j] ^^^ y)) := o2.store j _
                      have bS : Ab W (w2.setCell ⟨g, j, none⟩ (cb (L[j] ^^^ y))) := b22.set (by show W.heap.size ≤ g; omega) _
                      rw [HXR.out]
                      generalize L[j] ^^^ y = z at *
                      generalize hM : L.set j z = M at *
                      have hML : M.length = L.length := by rw [← hM, List.length_set]
                      generalize w2.setCell ⟨g, j, none⟩ (cb z) = wS at *
                      have S0 : Calls Try.prog 11 #[.slice (some ⟨g, 0, none⟩) L.length d] wS (fun e w' => ∃ B d xs u er, Hid (ScanE M (recs xs) u er) ∧ e = .returned (.tuple #[.slice B xs.length d, .int .i64 u, .int .i64 er]) ∧
                          OwnRecs wS.heap.size w' B d xs ∧ Ab wS w') := by
                        have := scan_any (some ⟨g, 0, none⟩) M d wS oS.rb.zero (by have := o2.le; omega) (by omega)
                        rw [hML] at this
                        exact this
                      refine S0.mono ?_
                      rintro e w3 ⟨C, dc, ys, u, er, hSc, rfl, o3, b3⟩
                      obtain ⟨hr, rfl, rfl⟩ := ScanE.unique hSc.out (.inr ⟨by omega, rfl, s, rfl, HFL⟩)
                      have HR := Lib.hid hr
                      have hyl : ys.length = i := by have := congrArg List.length hr; rw [recs_length, List.length_take, recs_length] at this; omega
                      have b33 : Ab W w3 := bS.trans b3
                      have hY := o3.recs.mono (Nat.zero_le _)
                      have hX3 := h.ab b33
                      have hik2 : (i : Int) ≤ (c : Int) := by omega
                      have hik3 : (0 : Int) ≤ (i : Int) := by omega
                      have SC : ∀ w', Ab w3 w' → Calls Try.prog 23 #[.slice C i dc, .slice (some a) i c] w' (fun e w'' => e = .returned (.bool true) ∧ ∃ n, w'' = w'.drewN n) := fun w' hw => by
                        have := same_cut_true C (some a) dc c i ys xs w' (hY.ab hw) (hX3.ab hw) (by omega) HR (by omega) HB
                        rw [hyl] at this
                        exact this
                      rw [hyl]
                      clear hyl hr hSc HFL hM hML oS bS o2 b1 b2 b3 o3 hX3 hY S0 hcell hfz
                      go_wp2_with fail
                      refine (SC _ (by repeat (first | with_reducible exact Ab.refl _ | with_reducible assumption | with_reducible refine Ab.drew ?_ | with_reducible refine Ab.drewN ?_ _ | with_reducible refine Ab.alloc ?_ _ | with_reducible refine Ab.trans ?_ (by assumption) | with_reducible refine Ab.set ?_ (by first | (simp; done) | omega | (simp; omega)) _))).mono ?_
                      rintro e w7 ⟨rfl, n7, rfl⟩
                      go_wp2_with fail
                      refine (alive_true _).mono ?_
                      rintro e wz ⟨rfl, hbz⟩
                      go_wp2
                      go_ret
                      exact ⟨rfl, (by repeat (first | with_reducible exact Ab.refl _ | with_reducible assumption | with_reducible refine Ab.drew ?_ | with_reducible refine Ab.drewN ?_ _ | with_reducible refine Ab.alloc ?_ _ | with_reducible refine Ab.trans ?_ (by assumption) | with_reducible refine Ab.set ?_ (by first | (simp; done) | omega | (simp; omega)) _))⟩
end Go.Proofs.Ytegdamjblljobaa
