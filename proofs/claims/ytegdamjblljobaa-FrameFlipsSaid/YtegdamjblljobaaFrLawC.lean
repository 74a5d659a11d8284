/- FrameTorn, walked. Own work. -/
import Derived.Test.YtegdamjblljobaaFrLawB
set_option linter.unusedVariables false
set_option linter.unusedSimpArgs false
namespace Go.Proofs.Ytegdamjblljobaa
open Go.RowKit

/-- How many records are within the first n bytes. -/
def WholeP (xs : List RecM) (n : Int) (w : World) (e : Ending) (w' : World) : Prop := ∃ k u : Nat, e = .returned (.tuple #[.int .i64 (k : Int), .int .i64 (u : Int)]) ∧ k ≤ xs.length ∧ u = (Frame.all (recs (xs.take k))).length ∧ (u : Int) ≤ n ∧
  (k = xs.length ∨ n < ((Frame.all (recs (xs.take (k + 1)))).length : Int)) ∧ Ab w w'
set_option maxHeartbeats 800000 in
theorem whole_any (A : Option Addr) (c : Nat) (xs : List RecM) (n : Int) (w : World) (h : Recs w 0 A xs) (hn : xs.length ≤ 40) (hb : Hid (∀ i (hi : i < xs.length), xs[i].b.length ≤ 1100)) (h0 : 0 ≤ n) (h1 : n ≤ 1000000) :
    Calls Try.prog 25 #[.slice A xs.length c, .int .i64 n] w (WholeP xs n w) := by
  go_enter Try.func25, Try.ntmps25
  go_wp2
  go_loopw [6, 7] (fun t i wr => ∃ k u : Nat, k ≤ xs.length ∧ i = .int .i64 k ∧ t = .int .i64 (u : Int) ∧ Hid (u = (Frame.all (recs (xs.take k))).length) ∧ (u : Int) ≤ n ∧ Ab w wr) (fun _ i _ => xs.length - (intOf i).toNat)
  case atStart => exact ⟨0, 0, Nat.zero_le _, rfl, rfl, Lib.hid rfl, h0, (by repeat (first | with_reducible exact Ab.refl _ | with_reducible assumption | with_reducible refine Ab.drew ?_ | with_reducible refine Ab.drewN ?_ _ | with_reducible refine Ab.alloc ?_ _ | with_reducible refine Ab.trans ?_ (by assumption) | with_reducible refine Ab.set ?_ (by first | (simp; done) | omega | (simp; omega)) _))⟩
  case round =>
    obtain ⟨k, u, hk, rfl, rfl, hU, hun, hab⟩ := hrel
    by_cases hlt : k < xs.length
    · obtain ⟨a, rfl, _, c0, c1, hl⟩ := (h.ab hab).at_ hlt
      have ht := take_len xs k hlt
      have hxb := hb.out k hlt
      generalize hx : xs[k] = x at *
      have HT := Lib.hid ht
      clear ht hx
      by_cases hgt : n < (u : Int) + 12 + (x.b.length : Int)
      · go_wp2
        go_ret2
        exact ⟨k, u, rfl, hk, hU.out, hun, .inr (by rw [HT.out, ← hU.out]; omega), (by repeat (first | with_reducible exact Ab.refl _ | with_reducible assumption | with_reducible refine Ab.drew ?_ | with_reducible refine Ab.drewN ?_ _ | with_reducible refine Ab.alloc ?_ _ | with_reducible refine Ab.trans ?_ (by assumption) | with_reducible refine Ab.set ?_ (by first | (simp; done) | omega | (simp; omega)) _))⟩
      · go_wp2
        go_roundw
        case rel => exact ⟨k + 1, u + (12 + x.b.length), by omega, by go_num, by go_num, Lib.hid (by rw [HT.out, hU.out]), by omega, (by repeat (first | with_reducible exact Ab.refl _ | with_reducible assumption | with_reducible refine Ab.drew ?_ | with_reducible refine Ab.drewN ?_ _ | with_reducible refine Ab.alloc ?_ _ | with_reducible refine Ab.trans ?_ (by assumption) | with_reducible refine Ab.set ?_ (by first | (simp; done) | omega | (simp; omega)) _))⟩
        case measure => simp [intOf]; omega
    · obtain rfl : k = xs.length := by omega
      go_wp2
      go_ret2
      exact ⟨xs.length, u, rfl, Nat.le_refl _, hU.out, hun, .inl rfl, (by repeat (first | with_reducible exact Ab.refl _ | with_reducible assumption | with_reducible refine Ab.drew ?_ | with_reducible refine Ab.drewN ?_ _ | with_reducible refine Ab.alloc ?_ _ | with_reducible refine Ab.trans ?_ (by assumption) | with_reducible refine Ab.set ?_ (by first | (simp; done) | omega | (simp; omega)) _))⟩

/-- A list cut at its head. -/
theorem same_cut_true (A B : Option Addr) (c d m : Nat) (xs ys : List RecM) (w : World) (hx : Recs w 0 A xs) (hy : Recs w 0 B ys) (hm : m ≤ ys.length) (he : Hid (recs xs = (recs ys).take m)) (hn : xs.length ≤ 9223372036854775807) (hb : Hid (∀ i (hi : i < ys.length), ys[i].b.length ≤ 140737488351232)) :
    Calls Try.prog 23 #[.slice A xs.length c, .slice B m d] w fun e w' => e = .returned (.bool true) ∧ ∃ n, w' = w.drewN n := by
  have hl : (ys.take m).length = m := by simp; omega
  have hxm : xs.length = m := by have := congrArg List.length he.out; rw [recs_length, List.length_take, recs_length] at this; omega
  have := same_true A B c d xs (ys.take m) w hx (hy.take m) (Lib.hid (by rw [recs_take]; exact he.out)) hn (Lib.hid (fun i hi => by
    have hi' : i < ys.length := by omega
    have h1 := he.out
    have e1 := recs_get xs i hi
    have e2 : (recs xs)[i]'(by rw [recs_length]; exact hi) = ys[i].r := by
      simp only [h1, List.getElem_take]
      exact recs_get ys i hi'
    have e3 := e1.symm.trans e2
    unfold RecM.r at e3
    injection e3 with _ e4
    rw [e4]; exact hb.out i hi'))
  rw [hl] at this
  exact this
theorem cut_same_true (A B : Option Addr) (c d m : Nat) (xs ys : List RecM) (w : World) (hx : Recs w 0 A xs) (hy : Recs w 0 B ys) (hm : m ≤ xs.length) (hl : m = ys.length) (he : Hid ((recs xs).take m = recs ys)) (hn : xs.length ≤ 9223372036854775807) (hb : Hid (∀ i (hi : i < xs.length), xs[i].b.length ≤ 140737488351232)) :
    Calls Try.prog 23 #[.slice A m c, .slice B ys.length d] w fun e w' => e = .returned (.bool true) ∧ ∃ n, w' = w.drewN n := by
  have hlt : (xs.take m).length = m := by simp; omega
  have := same_true A B c d (xs.take m) ys w (hx.take m) hy (Lib.hid (by rw [recs_take]; exact he.out)) (by omega) (Lib.hid (fun i hi => by rw [List.getElem_take]; exact hb.out i (by omega)))
  rw [hlt] at this
  exact this

theorem OV.le {e : TypeId} {k lo n c : Nat} {w : World} {A : Option Addr} {vs : List Value} (h : OV e k lo w A n c vs) : n ≤ c := by
  rcases h.2 with ⟨hv, h0⟩ | ⟨g, cap, cur, hv, _, _, hn, _⟩
  · injection hv; omega
  · injection hv; omega

set_option maxHeartbeats 4000000 in
theorem torn_walk (A : Option Addr) (c : Nat) (xs : List RecM) (n : Int) (T : Option Addr) (t : List UInt8) (ct : Nat) (W : World) (h : Recs W 0 A xs) (hn : xs.length ≤ 9223372036854775807) (hxc : xs.length ≤ c) (hn1 : -9223372036854775808 ≤ n) (hn2 : n ≤ 9223372036854775807)
    (ht : RB W 0 T t) (hct : t.length ≤ ct) (lt : t.length ≤ 9223372036854775807) :
    Calls Try.prog 6 #[.slice A xs.length c, .int .i64 n, .slice T t.length ct] W (RetTrue W) := by
  go_enter Try.func6, Try.ntmps6
  go_wp2_with fail
  refine (great_any A c xs _ h hn).mono ?_
  rintro e w' ⟨v, hv, rfl, rfl⟩
  cases v with
  | true => 
    go_wp2_with fail
    go_wp2_with fail
    refine (alive_true _).mono ?_
    rintro e wz ⟨rfl, hbz⟩
    go_wp2
    go_ret
    exact ⟨rfl, (by repeat (first | with_reducible exact Ab.refl _ | with_reducible assumption | with_reducible refine Ab.drew ?_ | with_reducible refine Ab.drewN ?_ _ | with_reducible refine Ab.alloc ?_ _ | with_reducible refine Ab.trans ?_ (by assumption) | with_reducible refine Ab.set ?_ (by first | (simp; done) | omega | (simp; omega)) _))⟩
  | false =>
    obtain ⟨h40, hbs⟩ := hv.out rfl
    have HB0 := Lib.hid hbs
    have HB := Lib.hid (show ∀ i (hi : i < xs.length), xs[i].b.length ≤ 140737488351232 from fun i hi => by have := hbs i hi; omega)
    clear hv hbs
    go_wp2_with fail
    refine (following_any A c xs _ h hn).mono ?_
    rintro e w1 ⟨v, hv, rfl, b1⟩
    cases v with
    | false =>
      go_wp2_with fail
      go_wp2_with fail
      refine (alive_true _).mono ?_
      rintro e wz ⟨rfl, hbz⟩
      go_wp2
      go_ret
      exact ⟨rfl, (by repeat (first | with_reducible exact Ab.refl _ | with_reducible assumption | with_reducible refine Ab.drew ?_ | with_reducible refine Ab.drewN ?_ _ | with_reducible refine Ab.alloc ?_ _ | with_reducible refine Ab.trans ?_ (by assumption) | with_reducible refine Ab.set ?_ (by first | (simp; done) | omega | (simp; omega)) _))⟩
    | true =>
      have HF := Lib.hid (hv.out.1 (by trivial))
      clear hv
      by_cases h100 : 100 < t.length
      · go_wp2_with fail
        go_wp2_with fail
        refine (alive_true _).mono ?_
        rintro e wz ⟨rfl, hbz⟩
        go_wp2
        go_ret
        exact ⟨rfl, (by repeat (first | with_reducible exact Ab.refl _ | with_reducible assumption | with_reducible refine Ab.drew ?_ | with_reducible refine Ab.drewN ?_ _ | with_reducible refine Ab.alloc ?_ _ | with_reducible refine Ab.trans ?_ (by assumption) | with_reducible refine Ab.set ?_ (by first | (simp; done) | omega | (simp; omega)) _))⟩
      · go_wp2_with fail
        refine (all_any A c xs _ (h.ab b1) (by omega)).mono ?_
        rintro e w2 ⟨B, d, L, er, hE, rfl, o2, b2⟩
        have b22 : Ab W w2 := b1.trans b2
        rcases hE.out with ⟨⟨i, hi, hbad⟩, _⟩ | ⟨_, _, h3, rfl⟩ | ⟨_, h20, h3, rfl⟩
        · exact absurd (HF.out i hi).1 hbad
        · subst h3
          go_wp2_with fail
          go_wp2_with fail
          refine (alive_true _).mono ?_
          rintro e wz ⟨rfl, hbz⟩
          go_wp2
          go_ret
          exact ⟨rfl, (by repeat (first | with_reducible exact Ab.refl _ | with_reducible assumption | with_reducible refine Ab.drew ?_ | with_reducible refine Ab.drewN ?_ _ | with_reducible refine Ab.alloc ?_ _ | with_reducible refine Ab.trans ?_ (by assumption) | with_reducible refine Ab.set ?_ (by first | (simp; done) | omega | (simp; omega)) _))⟩
        · have HL := Lib.hid h3
          have l2 : L.length ≤ 20000 := by rw [h3]; exact h20
          clear h3 h20 hE
          by_cases hneg : n < 0
          · go_wp2_with fail
            go_wp2_with fail
            refine (alive_true _).mono ?_
            rintro e wz ⟨rfl, hbz⟩
            go_wp2
            go_ret
            exact ⟨rfl, (by repeat (first | with_reducible exact Ab.refl _ | with_reducible assumption | with_reducible refine Ab.drew ?_ | with_reducible refine Ab.drewN ?_ _ | with_reducible refine Ab.alloc ?_ _ | with_reducible refine Ab.trans ?_ (by assumption) | with_reducible refine Ab.set ?_ (by first | (simp; done) | omega | (simp; omega)) _))⟩
          · by_cases hbig : (L.length : Int) < n
            · go_wp2_with fail
              go_wp2_with fail
              refine (alive_true _).mono ?_
              rintro e wz ⟨rfl, hbz⟩
              go_wp2
              go_ret
              exact ⟨rfl, (by repeat (first | with_reducible exact Ab.refl _ | with_reducible assumption | with_reducible refine Ab.drew ?_ | with_reducible refine Ab.drewN ?_ _ | with_reducible refine Ab.alloc ?_ _ | with_reducible refine Ab.trans ?_ (by assumption) | with_reducible refine Ab.set ?_ (by first | (simp; done) | omega | (simp; omega)) _))⟩
            · obtain ⟨m, rfl⟩ : ∃ m : Nat, n = m := ⟨n.toNat, by omega⟩
              have hmL : m ≤ L.length := by omega
              have hd := o2.le
              have hi3 : (m : Int) ≤ (d : Int) := by omega
              have hi4 : (0 : Int) ≤ (m : Int) := by omega
              go_wp2_with fail
              refine (scan_cut B L d m _ o2.rb.zero o2.le hmL (by omega)).mono ?_
              rintro e w3 ⟨C, dc, ys, u, er, hS, rfl, o3, b3⟩
              go_wp2_with fail
              refine (whole_any A c xs (m : Int) _ (h.ab (by repeat (first | with_reducible exact Ab.refl _ | with_reducible assumption | with_reducible refine Ab.drew ?_ | with_reducible refine Ab.drewN ?_ _ | with_reducible refine Ab.alloc ?_ _ | with_reducible refine Ab.trans ?_ (by assumption) | with_reducible refine Ab.set ?_ (by first | (simp; done) | omega | (simp; omega)) _))) h40 HB0 hi4 (by omega)).mono ?_
              rintro e w4 ⟨k, u2, rfl, hk, hu2, hum, hkk, b4⟩
              have hsc : Frame.IsScan (L.take m) ((recs xs).take k) u2 := by
                rw [HL.out, hu2, recs_take]
                refine Frame.scan_torn HF.out m k (by rw [recs_length]; exact hk) (by rw [← HL.out]; exact hmL) (by rw [← recs_take, ← hu2]; omega) ?_
                rcases hkk with hkk | hkk
                · exact .inl (by rw [recs_length]; exact hkk)
                · exact .inr (by rw [← recs_take]; omega)
              obtain ⟨hr, rfl, rfl⟩ := ScanE.unique hS.out (.inr ⟨by simp; omega, rfl, u2, rfl, hsc⟩)
              have HR := Lib.hid hr
              have hyl : ys.length = k := by have := congrArg List.length hr; rw [recs_length, List.length_take, recs_length] at this; omega
              clear hr hS hsc hkk hu2
              have hY := (o3.recs.mono (Nat.zero_le _)).ab b4
              have hX4 : Recs w4 0 A xs := ((h.ab b22).ab b3).ab b4
              have b44 : Ab W w4 := (b22.trans b3).trans b4
              have o44 := (o2.keep b3).keep b4
              have ht4 := ht.ab b44
              have hkx : (k : Int) ≤ (c : Int) := by omega
              have hk00 : (0 : Int) ≤ (k : Int) := by omega
              have hsz1 := b1.size
              have hl4 : w1.heap.size ≤ w4.heap.size := ((b2.trans b3).trans b4).size
              have hyl1 := Nat.le_of_eq hyl
              have hyl2 := Nat.le_of_eq hyl.symm
              have HYL := Lib.hid hyl
              have SC : ∀ w', Ab w4 w' → Calls Try.prog 23 #[.slice C k dc, .slice A k c] w' (fun e w'' => e = .returned (.bool true) ∧ ∃ n, w'' = w'.drewN n) := fun w' hw => by
                have := same_cut_true C A dc c k ys xs w' (hY.ab hw) (hX4.ab hw) hk HR (by omega) HB
                rw [HYL.out] at this
                exact this
              have ht20 : t.length ≤ 100 := by omega
              rw [hyl]
              clear hyl b1 b2 b3 b4 o2 o3
              by_cases hbig2 : 20000 < L.length + t.length
              · have hbi : (20000 : Int) < (L.length : Int) + (t.length : Int) := by omega
                go_wp2_with fail
                refine (SC _ (by repeat (first | with_reducible exact Ab.refl _ | with_reducible assumption | with_reducible refine Ab.drew ?_ | with_reducible refine Ab.drewN ?_ _ | with_reducible refine Ab.alloc ?_ _ | with_reducible refine Ab.trans ?_ (by assumption) | with_reducible refine Ab.set ?_ (by first | (simp; done) | omega | (simp; omega)) _))).mono ?_
                rintro e w5 ⟨rfl, n5, rfl⟩
                go_wp2_with fail
                go_wp2_with fail
                refine (alive_true _).mono ?_
                rintro e wz ⟨rfl, hbz⟩
                go_wp2
                go_ret
                exact ⟨rfl, (by repeat (first | with_reducible exact Ab.refl _ | with_reducible assumption | with_reducible refine Ab.drew ?_ | with_reducible refine Ab.drewN ?_ _ | with_reducible refine Ab.alloc ?_ _ | with_reducible refine Ab.trans ?_ (by assumption) | with_reducible refine Ab.set ?_ (by first | (simp; done) | omega | (simp; omega)) _))⟩
              · have hbi : ¬ (20000 : Int) < (L.length : Int) + (t.length : Int) := by omega
                go_wp2_with fail
                refine (SC _ (by repeat (first | with_reducible exact Ab.refl _ | with_reducible assumption | with_reducible refine Ab.drew ?_ | with_reducible refine Ab.drewN ?_ _ | with_reducible refine Ab.alloc ?_ _ | with_reducible refine Ab.trans ?_ (by assumption) | with_reducible refine Ab.set ?_ (by first | (simp; done) | omega | (simp; omega)) _))).mono ?_
                rintro e w5 ⟨rfl, n5, rfl⟩
                have o5 : OR 5 w1.heap.size (w4.drewN n5) B d L := o44.drewN n5
                have b5 : Ab W (w4.drewN n5) := b44.drewN n5
                have hl5 : w1.heap.size ≤ (w4.drewN n5).heap.size := hl4
                have ht5 : RB (w4.drewN n5) 0 T t := ht.ab b5
                clear o44 b44 ht4 SC hY
                go_wp2_with ((at_builtin
                              refine listApp rfl _ _ rfl rfl rfl (m := t) rfl o5 hl5 ht5 hct (by omega) ?_
                              intro B9 c9 w9 L9 e9 o9 _ f9
                              have b9 := f9 W b5 hsz1
                              have l9 : L9.length ≤ 20000 := by rw [e9.out, List.length_append]; omega
                              clear f9))
                refine (scan_any B9 L9 c9 _ o9.rb.zero o9.le (by omega)).mono ?_
                rintro e w6 ⟨D, dd, zs, u3, er3, hS3, rfl, o6, b6⟩
                obtain ⟨u4, rfl, rfl, hs3⟩ : ∃ u4 : Nat, u3 = u4 ∧ er3 = 0 ∧ Frame.IsScan L9 (recs zs) u4 := by
                  rcases hS3.out with ⟨h, _⟩ | ⟨_, h1, q, h3, h4⟩
                  · omega
                  · exact ⟨q, h3, h1, h4⟩
                have hsm3 := Lib.hid (recs_small hS3.out)
                have hcn3 := scan_count hS3.out
                obtain ⟨hpre, hlu⟩ := Frame.scan_more HF.out (by rw [← HL.out, ← e9.out]; exact hs3)
                rw [← HL.out] at hlu
                have hxz : xs.length ≤ zs.length := by have := hpre.length_le; rwa [recs_length, recs_length] at this
                have HZ : Hid ((recs zs).take xs.length = recs xs) := Lib.hid (by have := List.prefix_iff_eq_take.1 hpre; rw [recs_length] at this; exact this.symm)
                have hzd := o6.1.le
                have b66 : Ab W w6 := b9.trans b6
                have hZ6 := o6.recs.mono (Nat.zero_le _)
                have hX6 := h.ab b66
                clear hpre hs3 hS3 b6 b9 o6 o9
                have g1 : (xs.length : Int) ≤ (zs.length : Int) := by omega
                have g2 : (xs.length : Int) ≤ (dd : Int) := by omega
                have g3 : (L.length : Int) ≤ (u4 : Int) := by omega
                have g4 : (0 : Int) ≤ (xs.length : Int) := by omega
                go_wp2_with fail
                refine (cut_same_true D A dd c xs.length zs xs _ (hZ6.ab (by repeat (first | with_reducible exact Ab.refl _ | with_reducible assumption | with_reducible refine Ab.drew ?_ | with_reducible refine Ab.drewN ?_ _ | with_reducible refine Ab.alloc ?_ _ | with_reducible refine Ab.trans ?_ (by assumption) | with_reducible refine Ab.set ?_ (by first | (simp; done) | omega | (simp; omega)) _))) (hX6.ab (by repeat (first | with_reducible exact Ab.refl _ | with_reducible assumption | with_reducible refine Ab.drew ?_ | with_reducible refine Ab.drewN ?_ _ | with_reducible refine Ab.alloc ?_ _ | with_reducible refine Ab.trans ?_ (by assumption) | with_reducible refine Ab.set ?_ (by first | (simp; done) | omega | (simp; omega)) _))) hxz rfl HZ (by omega) hsm3).mono ?_
                rintro e w7 ⟨rfl, n7, rfl⟩
                go_wp2_with fail
                refine (alive_true _).mono ?_
                rintro e wz ⟨rfl, hbz⟩
                go_wp2
                go_ret
                exact ⟨rfl, (by repeat (first | with_reducible exact Ab.refl _ | with_reducible assumption | with_reducible refine Ab.drew ?_ | with_reducible refine Ab.drewN ?_ _ | with_reducible refine Ab.alloc ?_ _ | with_reducible refine Ab.trans ?_ (by assumption) | with_reducible refine Ab.set ?_ (by first | (simp; done) | omega | (simp; omega)) _))⟩
end Go.Proofs.Ytegdamjblljobaa
