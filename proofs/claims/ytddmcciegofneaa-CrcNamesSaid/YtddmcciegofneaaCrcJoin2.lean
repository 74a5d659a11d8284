/- Join of layer 2, walked. Own work. -/
import Derived.Test.YtddmcciegofneaaCrcJoin
set_option linter.unusedVariables false
namespace Go.Proofs.Ytddmcciegofneaa
open Go.RowKit

theorem and_i64 (m : Nat) (h : m ≤ 1000000000) : bits .and .i64 (m : Int) 1 = ((m % 2 : Nat) : Int) := by
  show IntKind.i64.wrap ((BitVec.ofInt 64 (m : Int) &&& BitVec.ofInt 64 1).toNat : Int) = _
  have e : (BitVec.ofInt 64 (m : Int) &&& BitVec.ofInt 64 1).toNat = m % 2 := by
    rw [BitVec.toNat_and, BitVec.ofInt_natCast, BitVec.toNat_ofNat, Nat.mod_eq_of_lt (by omega)]
    show m &&& 1 = m % 2
    exact Nat.and_one_is_mod m
  rw [e]
  have : m % 2 < 2 := Nat.mod_lt _ (by omega)
  simp [IntKind.wrap, IntKind.bits, IntKind.signed]; omega

/-- A function that makes d steps. -/
def IsStep (w : World) (v : Value) (d : Nat) : Prop :=
  (v = .func (.func 20) #[] #[] ∧ d = 8) ∨ (∃ G : Nat, v = .func (.func 26) #[] #[.pointer (some ⟨G, 0, none⟩)] ∧ Made w G d)

set_option maxHeartbeats 1600000 in
theorem join_any (a b : BitVec 32) (n : Int) (w : World) (h1 : -9223372036854775808 ≤ n) (h2 : n ≤ 9223372036854775807) :
    Calls Try.prog 12 #[.int .u32 (a.toNat : Int), .int .u32 (b.toNat : Int), .int .i64 n] w fun e w' => e = .returned (.tuple #[.int .u32 ((Crc.joinE a b n).1.toNat : Int), .int .i64 (Crc.joinE a b n).2]) ∧ Ab w w' := by
  rcases Crc.join_ways a b n with ⟨h, hr⟩ | ⟨k, rfl, hk, hr⟩
  · have HR := Lib.hid hr; clear hr
    rcases h with h | h
    · go_enter Try.func12, Try.ntmps12
      go_wp2
      go_ret2
      exact ⟨by rw [HR.out]; rfl, (by repeat (first | with_reducible exact Ab.refl _ | with_reducible assumption | with_reducible refine Ab.drew ?_ | with_reducible refine Ab.drewN ?_ _ | with_reducible refine Ab.alloc ?_ _ | with_reducible refine Ab.trans ?_ (by assumption) | with_reducible refine Ab.set ?_ (by first | (simp; done) | omega | (simp; omega)) _))⟩
    · have h' : ¬ n < 0 := by omega
      go_enter Try.func12, Try.ntmps12
      go_wp2
      go_ret2
      exact ⟨by rw [HR.out]; rfl, (by repeat (first | with_reducible exact Ab.refl _ | with_reducible assumption | with_reducible refine Ab.drew ?_ | with_reducible refine Ab.drewN ?_ _ | with_reducible refine Ab.alloc ?_ _ | with_reducible refine Ab.trans ?_ (by assumption) | with_reducible refine Ab.set ?_ (by first | (simp; done) | omega | (simp; omega)) _))⟩
  · have HR := Lib.hid hr; clear hr
    go_enter Try.func12, Try.ntmps12
    go_wp2
    go_loopw [0, 2, 8] (fun t i v wr => ∃ (a' : BitVec 32) (m d : Nat), t = .int .u32 (a'.toNat : Int) ∧ i = .int .i64 m ∧ m ≤ 1000000000 ∧ IsStep wr v d ∧ Hid (Crc.it (d * m) a' = Crc.it (8 * k) a) ∧ Ab w wr) (fun _ i _ _ => (intOf i).toNat)
    case atStart => exact ⟨a, k, 8, rfl, rfl, hk, .inl ⟨rfl, rfl⟩, Lib.hid rfl, Ab.refl _⟩
    case round =>
      obtain ⟨a', m, d, rfl, rfl, hm, hs, he, hb⟩ := hrel
      by_cases hlt : 0 < m
      · have ha := and_i64 m hm
        by_cases hodd : m % 2 = 1
        · rw [hodd] at ha
          rcases hs with ⟨rfl, rfl⟩ | ⟨g, rfl, hg⟩
          · go_wp2_with fail
            refine (stepZero_any a' _ rfl _).mono ?_
            rintro e w1 ⟨rfl, hb1⟩
            go_wp2_with fail
            refine (twice_lit _).mono ?_
            rintro e w2 ⟨G, rfl, hm2, hb2⟩
            go_wp2
            go_roundw
            case rel => exact ⟨_, m / 2, _, rfl, rfl, by omega, .inr ⟨G, rfl, hm2⟩, Lib.hid ((Crc.join_odd _ a' m hodd).trans he.out), (by repeat (first | with_reducible exact Ab.refl _ | with_reducible assumption | with_reducible refine Ab.drew ?_ | with_reducible refine Ab.drewN ?_ _ | with_reducible refine Ab.alloc ?_ _ | with_reducible refine Ab.trans ?_ (by assumption) | with_reducible refine Ab.set ?_ (by first | (simp; done) | omega | (simp; omega)) _))⟩
            case measure => simp [intOf]; omega
          · go_wp2_with fail
            refine (made_any a' _ rfl g d _ hg).mono ?_
            rintro e w1 ⟨rfl, hb1⟩
            go_wp2_with fail
            refine (twice_made g d _ (hg.ab (by repeat (first | with_reducible exact Ab.refl _ | with_reducible assumption | with_reducible refine Ab.drew ?_ | with_reducible refine Ab.drewN ?_ _ | with_reducible refine Ab.alloc ?_ _ | with_reducible refine Ab.trans ?_ (by assumption) | with_reducible refine Ab.set ?_ (by first | (simp; done) | omega | (simp; omega)) _)))).mono ?_
            rintro e w2 ⟨G, rfl, hm2, hb2⟩
            go_wp2
            go_roundw
            case rel => exact ⟨_, m / 2, _, rfl, rfl, by omega, .inr ⟨G, rfl, hm2⟩, Lib.hid ((Crc.join_odd _ a' m hodd).trans he.out), (by repeat (first | with_reducible exact Ab.refl _ | with_reducible assumption | with_reducible refine Ab.drew ?_ | with_reducible refine Ab.drewN ?_ _ | with_reducible refine Ab.alloc ?_ _ | with_reducible refine Ab.trans ?_ (by assumption) | with_reducible refine Ab.set ?_ (by first | (simp; done) | omega | (simp; omega)) _))⟩
            case measure => simp [intOf]; omega
        · have hodd : m % 2 = 0 := by omega
          rw [hodd] at ha
          rcases hs with ⟨rfl, rfl⟩ | ⟨g, rfl, hg⟩
          · go_wp2_with fail
            refine (twice_lit _).mono ?_
            rintro e w2 ⟨G, rfl, hm2, hb2⟩
            go_wp2
            go_roundw
            case rel => exact ⟨a', m / 2, _, rfl, rfl, by omega, .inr ⟨G, rfl, hm2⟩, Lib.hid ((Crc.join_even _ a' m hodd).trans he.out), (by repeat (first | with_reducible exact Ab.refl _ | with_reducible assumption | with_reducible refine Ab.drew ?_ | with_reducible refine Ab.drewN ?_ _ | with_reducible refine Ab.alloc ?_ _ | with_reducible refine Ab.trans ?_ (by assumption) | with_reducible refine Ab.set ?_ (by first | (simp; done) | omega | (simp; omega)) _))⟩
            case measure => simp [intOf]; omega
          · go_wp2_with fail
            refine (twice_made g d _ hg).mono ?_
            rintro e w2 ⟨G, rfl, hm2, hb2⟩
            go_wp2
            go_roundw
            case rel => exact ⟨a', m / 2, _, rfl, rfl, by omega, .inr ⟨G, rfl, hm2⟩, Lib.hid ((Crc.join_even _ a' m hodd).trans he.out), (by repeat (first | with_reducible exact Ab.refl _ | with_reducible assumption | with_reducible refine Ab.drew ?_ | with_reducible refine Ab.drewN ?_ _ | with_reducible refine Ab.alloc ?_ _ | with_reducible refine Ab.trans ?_ (by assumption) | with_reducible refine Ab.set ?_ (by first | (simp; done) | omega | (simp; omega)) _))⟩
            case measure => simp [intOf]; omega
      · obtain rfl : m = 0 := by omega
        go_wp2
        go_ret2
        refine ⟨?_, hb⟩
        rw [HR.out]
        have he2 : a' = Crc.it (8 * k) a := by have := he.out; rw [Nat.mul_zero] at this; exact this
        subst he2
        exact ret_pair (bx_xor _ _) rfl
end Go.Proofs.Ytddmcciegofneaa
