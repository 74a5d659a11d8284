/- DeltaForms, walked. Own work. -/
import Derived.Test.YtbhhjbmpcpjcnaaDlRefE
import Derived.Test.YtbhhjbmpcpjcnaaDlRefD
import Derived.Test.YtbhhjbmpcpjcnaaCvTry
set_option linter.unusedVariables false
set_option linter.unusedSimpArgs false
namespace Go.Proofs.Ytbhhjbmpcpjcnaa
open Go.RowKit
open Codec (V)

namespace Dl
theorem encode_len (l : List Part) : (encode l).1.length ≤ 3000 := by
  unfold encode
  split
  · unfold Codec.encode
    split
    · simp
    · rename_i h
      have h' : Codec.check (dv l) = 0 := Classical.not_not.1 h
      unfold Codec.check at h'
      split at h'
      · cases h'
      · split at h'
        · cases h'
        · show (Codec.enc 6 (dv l)).length ≤ 3000; omega
  · simp
theorem decode_len (b : List UInt8) : (decode b).1.length ≤ 200 := by
  unfold decode
  split
  · simp
  · split
    · simp
    · rename_i h
      have h1 : (encode ((Codec.decode b).1.l.map pin)).2 = 0 := Classical.not_not.1 fun e => h (.inl e)
      exact (valid_zero.1 (enc_ok h1).1).1
end Dl
theorem same_true (A B : Option Addr) (c d : Nat) (x : List UInt8) (w : World) (hx : RB w 0 A x) (hy : RB w 0 B x) (hl : x.length ≤ 9223372036854775807) :
    Calls Try.prog 16 #[.slice A x.length c, .slice B x.length d] w fun e w' => e = .returned (.bool true) ∧ Ab w w' :=
  (sameBytes_all A B c d x x w hx hy hl hl).mono fun e w' h => ⟨by rw [h.1, beq_self_eq_true], by obtain ⟨_, n, rfl⟩ := h; exact abA⟩
set_option maxRecDepth 100000 in
set_option maxHeartbeats 16000000 in
theorem forms_walk (A : Option Addr) (ca : Nat) (xs : List PM) (B : Option Addr) (cb_ : Nat) (b : List UInt8) (W : World) (hx : Pts W A ca xs) (hb : RB W 0 B b) (hcb : b.length ≤ cb_) (hbl : b.length ≤ 9223372036854775807) :
    Calls Try.prog 6 #[.slice A xs.length ca, .slice B b.length cb_] W (RetTrue W) := by
  have TG := Lib.hid (fun w' (k : Ab W w') => dgreat_any A ca xs w' (hx.ab k))
  have TE := Lib.hid (fun w' (k : Ab W w') => dencode_any A ca xs w' (hx.ab k))
  have TF := Lib.hid (fun h w' (k : Ab W w') => rdencode_any A ca xs w' (hx.ab k) h)
  have TD := Lib.hid (fun w' (k : Ab W w') => ddecode_any B b cb_ w' (hb.ab k) hcb hbl)
  have TR := Lib.hid (fun h w' (k : Ab W w') => rddecode_any B b cb_ w' (hb.ab k) hcb h)
  have HX := Lib.hid (⟨hx, hb⟩ : Pts W A ca xs ∧ RB W 0 B b)
  have HEL := Lib.hid (Dl.encode_len (xs.map PM.d))
  have HDL := Lib.hid (Dl.decode_len b)
  have HDE := Lib.hid (fun h => Dl.decode_encode (l := xs.map PM.d) h)
  have HED := Lib.hid (fun h => Dl.decode_ok (b := b) h)
  have hxn := hx.n'
  clear hx hb
  go_enter Try.func6, Try.ntmps6
  go_wp2_with fail
  refine (TG.out _ abA).mono ?_
  rintro e w1 ⟨g, rfl, hg, hb1⟩
  have b1 : Ab W w1 := Ab.trans (by exact abA) hb1
  clear TG hb1
  cases g with
  | true =>
    go_wp2
    go_ret
    exact ⟨rfl, b1.trans abA⟩
  | false =>
    have hg2 := Lib.hid (hg.out rfl).2
    clear hg
    by_cases h35 : 3500 < b.length
    · have k35 : (3500 : Int) < (b.length : Int) := by omega
      go_wp2
      go_ret
      exact ⟨rfl, b1.trans abA⟩
    · have k35 : ¬ (3500 : Int) < (b.length : Int) := by omega
      go_wp2_with fail
      refine (TE.out _ (b1.trans abA)).mono ?_
      rintro e w2 ⟨A1, c1, L1, e1, rfl, hE1, o1, hb2⟩
      have b2 : Ab W w2 := Ab.trans (b1.trans (by exact abA)) hb2
      clear b1 hb2
      go_wp2_with fail
      refine (TF.out (fun x hx => by obtain ⟨j, hj, rfl⟩ := List.getElem_of_mem hx; have := hg2.out j hj; omega) _ (b2.trans abA)).mono ?_
      rintro e w3 ⟨A2, c2, L2, e2, rfl, hE2, o2, hb3⟩
      have d3 : Ab w2 w3 := Ab.trans (by exact abA) hb3
      have b3 := b2.trans d3
      obtain ⟨rfl, rfl⟩ := Prod.mk.inj (hE1.out.symm.trans hE2.out)
      have p1 := o1.rb.zero.ab d3
      have p2 := o2.rb.zero
      have m1 := o1.le
      rw [hE1.out] at HEL
      have hL : L1.length ≤ 3000 := HEL.out
      clear b2 hb3 d3 o1 o2 hE2 TF HEL hg2
      go_wp2_with fail
      refine (TD.out _ (b3.trans abA)).mono ?_
      rintro e w4 ⟨P3, q3, x3, e3, rfl, hD3, o3, hb4⟩
      have d4 : Ab w3 w4 := Ab.trans (by exact abA) hb4
      have b4 := b3.trans d4
      have p1 := p1.ab d4
      have p2 := p2.ab d4
      clear b3 hb4 d4 TD
      go_wp2_with fail
      refine (TR.out (by omega) _ (b4.trans abA)).mono ?_
      rintro e w5 ⟨P4, q4, x4, e4, rfl, hD4, o4, hb5⟩
      have d5 : Ab w4 w5 := Ab.trans (by exact abA) hb5
      have b5 := b4.trans d5
      have p1 := p1.ab d5
      have p2 := p2.ab d5
      have hmap : x3.map PM.d = x4.map PM.d ∧ e3 = e4 := Prod.mk.inj (hD3.out.symm.trans hD4.out)
      obtain ⟨hm, rfl⟩ := hmap
      rw [hD3.out] at HDL
      have hn3 : x3.length ≤ 200 := by have := HDL.out; simpa using this
      have hn4 : x4.length ≤ 200 := by have h1 := congrArg List.length hm; simp at h1; omega
      have t3 := (o3.ab d5).pts (by omega)
      have t4 := o4.pts (by omega)
      have HM := Lib.hid hm
      clear b4 hb5 d5 TR o3 o4 HDL hD4 hm
      go_wp2_with fail
      refine (same_true A1 A2 c1 c2 L1 _ (p1.ab abA) (p2.ab abA) (by omega)).mono ?_
      rintro e w6 ⟨rfl, hb6⟩
      have d6 : Ab w5 w6 := Ab.trans (by exact abA) hb6
      have b6 := b5.trans d6
      have p1 := p1.ab d6
      have t3 := t3.ab d6
      have t4 := t4.ab d6
      clear b5 p2 hb6 d6
      go_wp2_with fail
      refine (dsame_any P3 P4 q3 q4 x3 x4 _ (t3.ab abA) (t4.ab abA) HM.out).mono ?_
      rintro e w7 ⟨rfl, hb7⟩
      have d7 : Ab w6 w7 := Ab.trans (by exact abA) hb7
      have b7 := b6.trans d7
      have p1 := p1.ab d7
      have t3 := t3.ab d7
      clear b6 t4 hb7 d7 HM
      have n1 : (e1 != e1) = false := by simp
      have n3 : (e3 != e3) = false := by simp
      go_upto_region 9 with fail
      clear n1 n3
      by_cases h1 : e1 = 0
      · subst h1
        have hq5 := HDE.out (by rw [hE1.out])
        rw [hE1.out] at hq5
        have HQ5 := Lib.hid hq5
        clear hq5
        go_wp2_with fail
        refine (ddecode_any A1 L1 c1 _ (p1.ab abA) m1 (by omega)).mono ?_
        rintro e w8 ⟨P5, q5, x5, e5, rfl, hD5, o5, hb8⟩
        have d8 : Ab w7 w8 := Ab.trans (by exact abA) hb8
        have b8 := b7.trans d8
        have t3 := t3.ab d8
        obtain ⟨hm5, rfl⟩ := Prod.mk.inj (hD5.out.symm.trans HQ5.out)
        have hn5 : x5.length = xs.length := by have h1 := congrArg List.length hm5; simpa using h1
        have t5 := o5.pts (by omega)
        have HM5 := Lib.hid hm5
        clear b7 hb8 d8 o5 hD5 hm5 HQ5 p1 hn5
        go_wp2_with fail
        refine (dsame_any P5 A q5 ca x5 xs _ (t5.ab abA) (HX.out.1.ab (b8.trans abA)) HM5.out).mono ?_
        rintro e w9 ⟨rfl, hb9⟩
        have d9 : Ab w8 w9 := Ab.trans (by exact abA) hb9
        have b9 := b8.trans d9
        have t3 := t3.ab d9
        clear b8 hb9 d9 t5 HM5
        by_cases h3 : e3 = 0
        · subst h3
          have hq6 := HED.out (by rw [hD3.out])
          rw [hD3.out] at hq6
          have HQ6 := Lib.hid hq6
          clear hq6
          go_wp2_with fail
          refine (dencode_any P3 q3 x3 _ (t3.ab abA)).mono ?_
          rintro e wx ⟨A6, c6, L6, e6, rfl, hE6, o6, hbx⟩
          have dx : Ab w9 wx := Ab.trans (by exact abA) hbx
          have bx := b9.trans dx
          obtain ⟨hL6, rfl⟩ := Prod.mk.inj (hE6.out.symm.trans HQ6.out)
          subst hL6
          have px := o6.rb.zero
          clear b9 t3 hbx dx o6 HQ6
          go_wp2_with fail
          refine (same_true A6 B c6 cb_ L6 _ (px.ab abA) (HX.out.2.ab (bx.trans abA)) (by omega)).mono ?_
          rintro e wy ⟨rfl, hby⟩
          have dy : Ab wx wy := Ab.trans (by exact abA) hby
          have by_ := bx.trans dy
          go_wp2
          go_ret
          exact ⟨rfl, by_.trans abA⟩
        · have g3 : (e3 == 0) = false := by rw [beq_eq_false_iff_ne]; exact h3
          have g3' : (e3 != 0) = true := by rw [bne_iff_ne]; exact h3
          go_wp2
          go_ret
          exact ⟨rfl, b9.trans abA⟩
      · have g1 : (e1 == 0) = false := by rw [beq_eq_false_iff_ne]; exact h1
        have g1' : (e1 != 0) = true := by rw [bne_iff_ne]; exact h1
        by_cases h3 : e3 = 0
        · subst h3
          have hq6 := HED.out (by rw [hD3.out])
          rw [hD3.out] at hq6
          have HQ6 := Lib.hid hq6
          clear hq6
          go_wp2_with fail
          refine (dencode_any P3 q3 x3 _ (t3.ab abA)).mono ?_
          rintro e wx ⟨A6, c6, L6, e6, rfl, hE6, o6, hbx⟩
          have dx : Ab w7 wx := Ab.trans (by exact abA) hbx
          have bx := b7.trans dx
          obtain ⟨hL6, rfl⟩ := Prod.mk.inj (hE6.out.symm.trans HQ6.out)
          subst hL6
          have px := o6.rb.zero
          clear b7 t3 hbx dx o6 HQ6
          go_wp2_with fail
          refine (same_true A6 B c6 cb_ L6 _ (px.ab abA) (HX.out.2.ab (bx.trans abA)) (by omega)).mono ?_
          rintro e wy ⟨rfl, hby⟩
          have dy : Ab wx wy := Ab.trans (by exact abA) hby
          have by_ := bx.trans dy
          go_wp2
          go_ret
          exact ⟨rfl, by_.trans abA⟩
        · have g3 : (e3 == 0) = false := by rw [beq_eq_false_iff_ne]; exact h3
          have g3' : (e3 != 0) = true := by rw [bne_iff_ne]; exact h3
          go_wp2
          go_ret
          exact ⟨rfl, b7.trans abA⟩
end Go.Proofs.Ytbhhjbmpcpjcnaa
