/- The reference of layer 3, its list of bytes and its numbers, walked. Own work. -/
import Derived.Test.YtehagdpcegpbjaaFrRefB
import Derived.Test.YtehagdpcegpbjaaFrAll
set_option linter.unusedVariables false
set_option linter.unusedSimpArgs false
namespace Go.Proofs.Ytehagdpcegpbjaa
open Go.RowKit

theorem word_nat (b0 b1 b2 b3 : UInt8) : ((Crc.word b0 b1 b2 b3).toNat : Int) = (b0.toNat : Int) + 256 * (b1.toNat : Int) + 65536 * (b2.toNat : Int) + 16777216 * (b3.toNat : Int) := by
  obtain ⟨e0, e1, e2, e3⟩ := Crc.word_inj (Crc.word_bytes (Crc.word b0 b1 b2 b3))
  obtain ⟨k0, k1, k2, k3⟩ := w4_form (Crc.word b0 b1 b2 b3)
  rw [e0] at k0
  rw [e1] at k1
  rw [e2] at k2
  rw [e3] at k3
  omega
theorem number_any (A : Option Addr) (b : List UInt8) (c : Nat) (w : World) (hb : RB w 0 A b) (h4 : 4 ≤ b.length) (ll : b.length ≤ 9223372036854775807) :
    Calls Try.prog 86 #[.slice A b.length c] w fun e w' => e = .returned (.int .i64 ((Frame.rd b 0).toNat : Int)) ∧ ∃ n, w' = w.drewN n := by
  obtain ⟨ad, rfl, _, hcell⟩ := hb (by omega)
  obtain ⟨b0, b1, b2, b3, hrd, h0, h1, h2, h3⟩ : ∃ b0 b1 b2 b3 : UInt8, Hid (Frame.rd b 0 = Crc.word b0 b1 b2 b3) ∧ b[0] = b0 ∧ b[1] = b1 ∧ b[2] = b2 ∧ b[3] = b3 := by
    refine ⟨_, _, _, _, ?_, rfl, rfl, rfl, rfl⟩
    unfold Hid Frame.rd
    simp only [List.getD_eq_getElem?_getD, Nat.zero_add]
    rw [List.getElem?_eq_getElem (by omega), List.getElem?_eq_getElem (by omega), List.getElem?_eq_getElem (by omega), List.getElem?_eq_getElem (by omega)]
    rfl
  have c0 : w.cell? ad = some (.int .u8 (b0.toNat : Int)) := h0 ▸ hcell 0 (by omega)
  have c1 : w.cell? ⟨ad.block, ad.off + 1, none⟩ = some (.int .u8 (b1.toNat : Int)) := h1 ▸ hcell 1 (by omega)
  have c2 : w.cell? ⟨ad.block, ad.off + 2, none⟩ = some (.int .u8 (b2.toNat : Int)) := h2 ▸ hcell 2 (by omega)
  have c3 : w.cell? ⟨ad.block, ad.off + 3, none⟩ = some (.int .u8 (b3.toNat : Int)) := h3 ▸ hcell 3 (by omega)
  clear hcell h0 h1 h2 h3
  generalize hn : b.length = n
  rw [hn] at h4 ll
  have i0 : (0 : Int) < (n : Int) := by omega
  have j0 : 0 < n := by omega
  have i1 : (1 : Int) < (n : Int) := by omega
  have i2 : (2 : Int) < (n : Int) := by omega
  have i3 : (3 : Int) < (n : Int) := by omega
  clear h4 hn
  have t0 := b0.toNat_lt
  have t1 := b1.toNat_lt
  have t2 := b2.toNat_lt
  have t3 := b3.toNat_lt
  have s1 : IntKind.i64.wrap (256 * (b1.toNat : Int)) = 256 * (b1.toNat : Int) := IntWalk.i64_in _ (by omega)
  have s2 : IntKind.i64.wrap (65536 * (b2.toNat : Int)) = 65536 * (b2.toNat : Int) := IntWalk.i64_in _ (by omega)
  have s3 : IntKind.i64.wrap (16777216 * (b3.toNat : Int)) = 16777216 * (b3.toNat : Int) := IntWalk.i64_in _ (by omega)
  have s4 : IntKind.i64.wrap ((b0.toNat : Int) + 256 * (b1.toNat : Int)) = (b0.toNat : Int) + 256 * (b1.toNat : Int) := IntWalk.i64_in _ (by omega)
  have s5 : IntKind.i64.wrap ((b0.toNat : Int) + 256 * (b1.toNat : Int) + 65536 * (b2.toNat : Int)) = (b0.toNat : Int) + 256 * (b1.toNat : Int) + 65536 * (b2.toNat : Int) := IntWalk.i64_in _ (by omega)
  have s6 : IntKind.i64.wrap ((b0.toNat : Int) + 256 * (b1.toNat : Int) + 65536 * (b2.toNat : Int) + 16777216 * (b3.toNat : Int)) = (b0.toNat : Int) + 256 * (b1.toNat : Int) + 65536 * (b2.toNat : Int) + 16777216 * (b3.toNat : Int) := IntWalk.i64_in _ (by omega)
  go_enter Try.func86, Try.ntmps86
  go_wp2
  go_quiet (fail)
  clear s1 s2 s3 s4 s5 s6
  go_wp2
  go_ret
  exact ⟨ret_int (by rw [hrd.out, word_nat]), _, rfl⟩

def StartsP (x y : List UInt8) (w : World) (e : Ending) (w' : World) : Prop := ∃ v : Bool, Hid (v = true ↔ y <+: x) ∧ e = .returned (.bool v) ∧ Ab w w'
theorem starts_any (A C : Option Addr) (ca cc : Nat) (x y : List UInt8) (w : World) (hx : RB w 0 A x) (hy : RB w 0 C y) (hca : x.length ≤ ca) (lx : x.length ≤ 1000000) (ly : y.length ≤ 1000000) :
    Calls Try.prog 88 #[.slice A x.length ca, .slice C y.length cc] w (StartsP x y w) := by
  by_cases hl : y.length ≤ x.length
  · have h0 : (0 : Int) ≤ (y.length : Int) := by omega
    have h1 : (y.length : Int) ≤ (ca : Int) := by omega
    have hlt : (x.take y.length).length = y.length := by simp; omega
    have HE : Hid ((x.take y.length == y) = true ↔ y <+: x) := Lib.hid (by
      rw [beq_iff_eq, List.prefix_iff_eq_take]; exact eq_comm)
    have S0 : ∀ w', Ab w w' → Calls Try.prog 36 #[.slice A y.length ca, .slice C y.length cc] w' (fun e w'' => e = .returned (.bool (x.take y.length == y)) ∧ ∃ n, w'' = w'.drewN n) := fun w' h => by
      have := sameBytes_eq A C ca cc (x.take y.length) y w' ((hx.ab h).take _) (hy.ab h) (by omega) (by omega)
      rw [hlt] at this
      exact this
    generalize (x.take y.length == y) = v at *
    clear hlt
    go_enter Try.func88, Try.ntmps88
    go_wp2_with fail
    refine (S0 _ (by repeat (first | with_reducible exact Ab.refl _ | with_reducible assumption | with_reducible refine Ab.drew ?_ | with_reducible refine Ab.drewN ?_ _ | with_reducible refine Ab.alloc ?_ _ | with_reducible refine Ab.trans ?_ (by assumption) | with_reducible refine Ab.set ?_ (by first | (simp; done) | omega | (simp; omega)) _))).mono ?_
    rintro e w1 ⟨rfl, n1, rfl⟩
    go_wp2
    go_ret
    exact ⟨v, HE, rfl, (by repeat (first | with_reducible exact Ab.refl _ | with_reducible assumption | with_reducible refine Ab.drew ?_ | with_reducible refine Ab.drewN ?_ _ | with_reducible refine Ab.alloc ?_ _ | with_reducible refine Ab.trans ?_ (by assumption) | with_reducible refine Ab.set ?_ (by first | (simp; done) | omega | (simp; omega)) _))⟩
  · have h1 : ¬ (y.length : Int) ≤ (x.length : Int) := by omega
    go_enter Try.func88, Try.ntmps88
    go_wp2
    go_ret
    exact ⟨false, Lib.hid ⟨fun h => (by cases h), fun h => absurd h.length_le hl⟩, rfl, (by repeat (first | with_reducible exact Ab.refl _ | with_reducible assumption | with_reducible refine Ab.drew ?_ | with_reducible refine Ab.drewN ?_ _ | with_reducible refine Ab.alloc ?_ _ | with_reducible refine Ab.trans ?_ (by assumption) | with_reducible refine Ab.set ?_ (by first | (simp; done) | omega | (simp; omega)) _))⟩

end Go.Proofs.Ytehagdpcegpbjaa
