/- ShaOn, walked: great arguments. Own work. -/
import Derived.Test.YtmechdddhfcckaaDoorShLawC
import Derived.Deep.DeepCutAuto
set_option linter.unusedVariables false
set_option linter.unusedSimpArgs false
namespace Go.Proofs.YtmechdddhfcckaaDoor
open Go.RowKit

set_option maxRecDepth 100000 in
theorem on_great (w : World) (hG : Glob w) (h : Sha.W8) (n : Int) (A : Option Addr) (b : List UInt8) (c : Nat) (hg : n < 0 ∨ 1000 < n ∨ 1000 < b.length) :
    Calls Tryd.prog 7 #[.agg (w8 h).toArray, .int .i64 n, .slice A b.length c] w (RetTrue w) := by
  have al := fun w' (hk : Ab w w') => alive_true w' (hG.ab hk)
  by_cases h1 : n < 0
  · go_enter Tryd.func7, Tryd.ntmps7
    go_wp2_with fail
    refine (al _ abA).mono ?_
    rintro e w1 ⟨rfl, hb1⟩
    go_wp2
    go_ret
    exact ⟨rfl, Ab.trans abA hb1⟩
  · by_cases h2 : 1000 < n
    · go_enter Tryd.func7, Tryd.ntmps7
      go_wp2_with fail
      refine (al _ abA).mono ?_
      rintro e w1 ⟨rfl, hb1⟩
      go_wp2
      go_ret
      exact ⟨rfl, Ab.trans abA hb1⟩
    · have h3 : 1000 < b.length := by omega
      go_enter Tryd.func7, Tryd.ntmps7
      go_wp2_with fail
      refine (al _ abA).mono ?_
      rintro e w1 ⟨rfl, hb1⟩
      go_wp2
      go_ret
      exact ⟨rfl, Ab.trans abA hb1⟩
/-- What Write, Finish and Block do with hashes of any words, at n0 bytes before and at most 1,000 behind. -/
structure PkgW (w : World) (n0 : Nat) (F : List UInt8 → Sha.W8) (T : List UInt8 → List UInt8) (O : List UInt8 → List UInt8) : Prop where
  write : ∀ (x l y : List UInt8) (n m : Int) (R : Option Addr) (cr : Nat) (A : Option Addr) (c : Nat) (w' : World), Ab w w' → Hid (n = (n0 : Int) + (x.length : Int)) → Hid (m = (n0 : Int) + (y.length : Int)) → Hid (y = x ++ l) → RB w' 0 R (T x) → (T x).length ≤ cr → RB w' 0 A l → l.length ≤ c → y.length ≤ 1000 →
    Calls Tryd.prog 12 #[.agg (hv (F x) R (T x).length cr n).toArray, .slice A l.length c] w' (RetG F T w' y m)
  finish : ∀ (x : List UInt8) (n : Int) (R : Option Addr) (cr : Nat) (w' : World), Ab w w' → Hid (n = (n0 : Int) + (x.length : Int)) → RB w' 0 R (T x) → (T x).length ≤ cr → x.length ≤ 1000 →
    Calls Tryd.prog 13 #[.agg (hv (F x) R (T x).length cr n).toArray] w' fun e w2 => e = .returned (.tuple #[.agg (idv (O x)).toArray, .int .i64 0]) ∧ Ab w' w2
  len : ∀ x, (O x).length = 32
  tl : ∀ x, (T x).length ≤ 64
  nil : T [] = []
theorem pkgw (w : World) (hG : Glob w) (h : Sha.W8) (n0 : Nat) (h64 : n0 % 64 = 0) (hle : n0 ≤ 64000) : PkgW w n0 (Sha.after h) Sha.tail (fun x => Sha.dig (Sha.after (Sha.after h x) (Sha.tail x ++ Sha.pad (n0 + x.length)))) where
  write x l y n m R cr A c w' hk hn hm hy hr hcr hb hc hmx := by
    have hx : x.length + l.length ≤ 1000 := by rw [hy.out, List.length_append] at hmx; exact hmx
    have hv : vh (Sha.tail x).length n = true := by
      unfold vh
      rw [Sha.tail_length, decide_eq_true_eq, hn.out]
      omega
    have e : wrE (Sha.after h x) (Sha.tail x) n l = ⟨Sha.after h y, Sha.tail y, m, 0⟩ := by
      unfold wrE
      rw [if_pos hv, if_pos (by rw [hn.out]; omega), hy.out, ← Sha.after_append, ← Sha.tail_append, hm.out, hn.out, hy.out, List.length_append]
      simp [Int.add_assoc]
    have := write_any (Sha.after h x) R (Sha.tail x) cr n A l c w' (hG.ab hk) hr hcr (by rw [Sha.tail_length]; omega) hb hc (by omega)
    rw [e] at this
    exact this
  finish x n R cr w' hk hn hr hcr hx := by
    have hv : vh (Sha.tail x).length n = true := by
      unfold vh
      rw [Sha.tail_length, decide_eq_true_eq, hn.out]
      omega
    have := finish_any (Sha.after h x) R (Sha.tail x) cr n w' (hG.ab hk) hr hcr (by rw [Sha.tail_length]; omega)
    have e : finE (Sha.after h x) (Sha.tail x) n = (Sha.dig (Sha.after (Sha.after h x) (Sha.tail x ++ Sha.pad (n0 + x.length))), 0) := by
      unfold finE
      have e2 : n.toNat = n0 + x.length := by rw [hn.out]; omega
      rw [if_pos hv, e2]
    rw [e] at this
    exact this
  len x := Sha.dig_length _
  tl x := by rw [Sha.tail_length]; omega
  nil := rfl
end Go.Proofs.YtmechdddhfcckaaDoor
