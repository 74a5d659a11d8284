/- The reference of layer 3, its list of bytes and its numbers, walked. Own work. -/
import Derived.Test.YtegdamjblljobaaFrRefB
import Derived.Test.YtegdamjblljobaaFrAll
set_option linter.unusedVariables false
set_option linter.unusedSimpArgs false
namespace Go.Proofs.Ytegdamjblljobaa
open Go.RowKit

theorem word_nat (b0 b1 b2 b3 : UInt8) : ((Crc.word b0 b1 b2 b3).toNat : Int) = (b0.toNat : Int) + 256 * (b1.toNat : Int) + 65536 * (b2.toNat : Int) + 16777216 * (b3.toNat : Int) := by
  obtain ⟨e0, e1, e2, e3⟩ := Crc.word_inj (Crc.word_bytes (Crc.word b0 b1 b2 b3))
  obtain ⟨k0, k1, k2, k3⟩ := w4_form (Crc.word b0 b1 b2 b3)
  rw [e0] at k0
  rw [e1] at k1
  rw [e2] at k2
  rw [e3] at k3
  omega
theorem number_any (A : Option Addr) (b : List UInt8) (c : Nat) (w : World) (hb : RB w 0 A b) (h4 : 4 ≤ b.length) (ll : b.length ≤ 9223372036854775807) :
    Calls Try.prog 41 #[.slice A b.length c] w fun e w' => e = .returned (.int .i64 ((Frame.rd b 0).toNat : Int)) ∧ ∃ n, w' = w.drewN n := by
  obtain ⟨ad, rfl, _, hcell⟩ := hb (by omega)
  obtain ⟨b0, b1, b2, b3, hrd, h0, h1, h2, h3⟩ : ∃ b0 b1 b2 b3 : UInt8, Hid (Frame.rd b 0 = Crc.word b0 b1 b2 b3) ∧ b[0] = b0 ∧ b[1] = b1 ∧ b[2] = b2 ∧ b[3] = b3 := by
    refine ⟨_, _, _, _, ?_, rfl, rfl, rfl, rfl⟩
    unfold Hid Frame.rd
    simp only [List.getD_eq_getElem?_getD, Nat.zero_add]
    rw [List.getElem?_eq_getElem (by omega), List.getElem?_eq_getElem (by omega), List.getElem?_eq_getElem (by omega), List.getElem?_eq_getElem (by omega)]
    rfl
  have c0 : w.cell? ad = some (.int .u8 (b0.toNat : Int)) := h0 ▸ hcell 0 (by omega)
  have c1 : w.cell? ⟨ad.block, ad.off + 1, none⟩ = some (.int .u8 (b1.toNat : Int)) := h1 ▸ hcell 1 (by omega)
  have c2 : w.cell? ⟨ad.block, ad.off + 2, none⟩ = some (.int .u8 (b2.toNat : Int)) := h2 ▸ hcell 2 (by omega)
  have c3 : w.cell? ⟨ad.block, ad.off + 3, none⟩ = some (.int .u8 (b3.toNat : Int)) := h3 ▸ hcell 3 (by omega)
  clear hcell h0 h1 h2 h3
  generalize hn : b.length = n
  rw [hn] at h4 ll
  have i0 : (0 : Int) < (n : Int) := by omega
  have j0 : 0 < n := by omega
  have i1 : (1 : Int) < (n : Int) := by omega
  have i2 : (2 : Int) < (n : Int) := by omega
  have i3 : (3 : Int) < (n : Int) := by omega
  clear h4 hn
  have t0 := b0.toNat_lt
  have t1 := b1.toNat_lt
  have t2 := b2.toNat_lt
  have t3 := b3.toNat_lt
  have s1 : IntKind.i64.wrap (256 * (b1.toNat : Int)) = 256 * (b1.toNat : Int) := IntWalk.i64_in _ (by omega)
  have s2 : IntKind.i64.wrap (65536 * (b2.toNat : Int)) = 65536 * (b2.toNat : Int) := IntWalk.i64_in _ (by omega)
  have s3 : IntKind.i64.wrap (16777216 * (b3.toNat : Int)) = 16777216 * (b3.toNat : Int) := IntWalk.i64_in _ (by omega)
  have s4 : IntKind.i64.wrap ((b0.toNat : Int) + 256 * (b1.toNat : Int)) = (b0.toNat : Int) + 256 * (b1.toNat : Int) := IntWalk.i64_in _ (by omega)
  have s5 : IntKind.i64.wrap ((b0.toNat : Int) + 256 * (b1.toNat : Int) + 65536 * (b2.toNat : Int)) = (b0.toNat : Int) + 256 * (b1.toNat : Int) + 65536 * (b2.toNat : Int) := IntWalk.i64_in _ (by omega)
  have s6 : IntKind.i64.wrap ((b0.toNat : Int) + 256 * (b1.toNat : Int) + 65536 * (b2.toNat : Int) + 16777216 * (b3.toNat : Int)) = (b0.toNat : Int) + 256 * (b1.toNat : Int) + 65536 * (b2.toNat : Int) + 16777216 * (b3.toNat : Int) := IntWalk.i64_in _ (by omega)
  go_enter Try.func41, Try.ntmps41
  go_wp2
  go_quiet (fail)
  clear s1 s2 s3 s4 s5 s6
  go_wp2
  go_ret
  exact ⟨ret_int (by rw [hrd.out, word_nat]), _, rfl⟩

def StartsP (x y : List UInt8) (w : World) (e : Ending) (w' : World) : Prop := ∃ v : Bool, Hid (v = true ↔ y <+: x) ∧ e = .returned (.bool v) ∧ Ab w w'
theorem starts_any (A C : Option Addr) (ca cc : Nat) (x y : List UInt8) (w : World) (hx : RB w 0 A x) (hy : RB w 0 C y) (hca : x.length ≤ ca) (lx : x.length ≤ 1000000) (ly : y.length ≤ 1000000) :
    Calls Try.prog 42 #[.slice A x.length ca, .slice C y.length cc] w (StartsP x y w) := by
  by_cases hl : y.length ≤ x.length
  · have h0 : (0 : Int) ≤ (y.length : Int) := by omega
    have h1 : (y.length : Int) ≤ (ca : Int) := by omega
    have hlt : (x.take y.length).length = y.length := by simp; omega
    have HE : Hid ((x.take y.length == y) = true ↔ y <+: x) := Lib.hid (by
      rw [beq_iff_eq, List.prefix_iff_eq_take]; exact eq_comm)
    have S0 : ∀ w', Ab w w' → Calls Try.prog 20 #[.slice A y.length ca, .slice C y.length cc] w' (fun e w'' => e = .returned (.bool (x.take y.length == y)) ∧ ∃ n, w'' = w'.drewN n) := fun w' h => by
      have := sameBytes_eq A C ca cc (x.take y.length) y w' ((hx.ab h).take _) (hy.ab h) (by omega) (by omega)
      rw [hlt] at this
      exact this
    generalize (x.take y.length == y) = v at *
    clear hlt
    go_enter Try.func42, Try.ntmps42
    go_wp2_with fail
    refine (S0 _ (by repeat (first | with_reducible exact Ab.refl _ | with_reducible assumption | with_reducible refine Ab.drew ?_ | with_reducible refine Ab.drewN ?_ _ | with_reducible refine Ab.alloc ?_ _ | with_reducible refine Ab.trans ?_ (by assumption) | with_reducible refine Ab.set ?_ (by first | (simp; done) | omega | (simp; omega)) _))).mono ?_
    rintro e w1 ⟨rfl, n1, rfl⟩
    go_wp2
    go_ret
    exact ⟨v, HE, rfl, (by repeat (first | with_reducible exact Ab.refl _ | with_reducible assumption | with_reducible refine Ab.drew ?_ | with_reducible refine Ab.drewN ?_ _ | with_reducible refine Ab.alloc ?_ _ | with_reducible refine Ab.trans ?_ (by assumption) | with_reducible refine Ab.set ?_ (by first | (simp; done) | omega | (simp; omega)) _))⟩
  · have h1 : ¬ (y.length : Int) ≤ (x.length : Int) := by omega
    go_enter Try.func42, Try.ntmps42
    go_wp2
    go_ret
    exact ⟨false, Lib.hid ⟨fun h => (by cases h), fun h => absurd h.length_le hl⟩, rfl, (by repeat (first | with_reducible exact Ab.refl _ | with_reducible assumption | with_reducible refine Ab.drew ?_ | with_reducible refine Ab.drewN ?_ _ | with_reducible refine Ab.alloc ?_ _ | with_reducible refine Ab.trans ?_ (by assumption) | with_reducible refine Ab.set ?_ (by first | (simp; done) | omega | (simp; omega)) _))⟩

set_option maxHeartbeats 1600000 in
theorem refAll_any (A : Option Addr) (c : Nat) (xs : List RecM) (w : World) (h : Recs w 0 A xs) (hn : xs.length ≤ 100000) :
    Calls Try.prog 19 #[.slice A xs.length c] w fun e w' => ∃ B d L er, Hid (AllE (recs xs) L er) ∧ e = .returned (.tuple #[.slice B L.length d, .int .i64 er]) ∧
      OR 5 w.heap.size w' B d L ∧ Ab w w' := by
  go_enter Try.func19, Try.ntmps19
  go_wp2
  go_loopw [4, 5] (fun t i wr => ∃ k n : Nat, k ≤ xs.length ∧ i = .int .i64 k ∧ t = .int .i64 n ∧ Hid (n = min (Frame.all (recs (xs.take k))).length 20001) ∧ n ≤ 20001 ∧ Hid (∀ j (hj : j < xs.length), j < k → Frame.Valid xs[j].r) ∧ Ab w wr) (fun _ i _ => xs.length - (intOf i).toNat)
  case atStart => exact ⟨0, 0, Nat.zero_le _, rfl, rfl, Lib.hid rfl, by omega, Lib.hid (fun j _ hj => absurd hj (by omega)), (by repeat (first | with_reducible exact Ab.refl _ | with_reducible assumption | with_reducible refine Ab.drew ?_ | with_reducible refine Ab.drewN ?_ _ | with_reducible refine Ab.alloc ?_ _ | with_reducible refine Ab.trans ?_ (by assumption) | with_reducible refine Ab.set ?_ (by first | (simp; done) | omega | (simp; omega)) _))⟩
  case round =>
    obtain ⟨k, n, hk, rfl, rfl, hN, hn2, hV, hb⟩ := hrel
    by_cases hlt : k < xs.length
    · obtain ⟨a, rfl, _, c0, c1, hl⟩ := (h.ab hb).at_ hlt
      have ht := take_len xs k hlt
      generalize hx : xs[k] = x at *
      have HX := Lib.hid hx
      have HT := Lib.hid ht
      clear ht hx
      cases hv : vB x.r
      · have HV := Lib.hid hv; clear hv
        go_wp2_with fail
        refine (valid_any x.num x.A x.b x.c _).mono ?_
        rintro e w1 ⟨rfl, hb1⟩
        rw [show vB ⟨x.num, x.b⟩ = false from HV.out]
        go_wp2
        go_ret2
        exact ⟨none, 0, [], 8, Lib.hid (.inl ⟨⟨k, by rw [recs_length]; exact hlt, by rw [recs_get _ _ hlt, HX.out]; exact vB_false.1 HV.out⟩, rfl, rfl⟩), rfl, OR.none_, (by repeat (first | with_reducible exact Ab.refl _ | with_reducible assumption | with_reducible refine Ab.drew ?_ | with_reducible refine Ab.drewN ?_ _ | with_reducible refine Ab.alloc ?_ _ | with_reducible refine Ab.trans ?_ (by assumption) | with_reducible refine Ab.set ?_ (by first | (simp; done) | omega | (simp; omega)) _))⟩
      · have HV := Lib.hid hv; clear hv
        have hxl : x.b.length ≤ 1000 := (vB_true.1 HV.out).2.2
        go_wp2_with fail
        refine (valid_any x.num x.A x.b x.c _).mono ?_
        rintro e w1 ⟨rfl, hb1⟩
        rw [show vB ⟨x.num, x.b⟩ = true from HV.out]
        have d0 := hb1.at c0
        have d1 := hb1.at c1
        go_wp2
        go_roundw
        case rel =>
          refine ⟨k + 1, min (n + (12 + x.b.length)) 20001, by omega, by go_num, ?_, Lib.hid (by rw [HT.out, hN.out]; omega), by omega, Lib.hid (fun j hj hj' => ?_), (by repeat (first | with_reducible exact Ab.refl _ | with_reducible assumption | with_reducible refine Ab.drew ?_ | with_reducible refine Ab.drewN ?_ _ | with_reducible refine Ab.alloc ?_ _ | with_reducible refine Ab.trans ?_ (by assumption) | with_reducible refine Ab.set ?_ (by first | (simp; done) | omega | (simp; omega)) _))⟩
          · first | rfl | (congr 1; simp; omega) | (congr 1; omega)
          · by_cases hjk : j < k
            · exact hV.out j hj hjk
            · obtain rfl : j = k := by omega
              rw [HX.out]; exact vB_true.1 HV.out
        case measure => simp [intOf]; omega
    · obtain rfl : k = xs.length := by omega
      have hV' : ∀ i (h : i < (recs xs).length), Frame.Valid (recs xs)[i] := fun i hi => by
        rw [recs_length] at hi
        rw [recs_get _ _ hi]; exact hV.out i hi hi
      rw [List.take_length] at hN
      have HV := Lib.hid hV'
      clear hV' hV
      by_cases h20 : 20000 < n
      · go_wp2
        go_ret2
        exact ⟨none, 0, [], 4, Lib.hid (.inr (.inl ⟨HV.out, by have := hN.out; omega, rfl, rfl⟩)), rfl, OR.none_, (by repeat (first | with_reducible exact Ab.refl _ | with_reducible assumption | with_reducible refine Ab.drew ?_ | with_reducible refine Ab.drewN ?_ _ | with_reducible refine Ab.alloc ?_ _ | with_reducible refine Ab.trans ?_ (by assumption) | with_reducible refine Ab.set ?_ (by first | (simp; done) | omega | (simp; omega)) _))⟩
      · have hall : Hid ((Frame.all (recs xs)).length ≤ 20000) := Lib.hid (by have := hN.out; omega)
        go_wp2
        go_loopw [6, 7] (fun b i wx => ∃ (k : Nat) (B : Option Addr) (d : Nat) (L : List UInt8), k ≤ xs.length ∧ i = .int .i64 k ∧ b = .slice B L.length d ∧ Hid (L = Frame.all (recs (xs.take k))) ∧ OR 5 w.heap.size wx B d L ∧ Ab w wx) (fun _ i _ => xs.length - (intOf i).toNat)
        case atStart => exact ⟨0, none, 0, [], Nat.zero_le _, rfl, rfl, Lib.hid rfl, OR.none_, (by repeat (first | with_reducible exact Ab.refl _ | with_reducible assumption | with_reducible refine Ab.drew ?_ | with_reducible refine Ab.drewN ?_ _ | with_reducible refine Ab.alloc ?_ _ | with_reducible refine Ab.trans ?_ (by assumption) | with_reducible refine Ab.set ?_ (by first | (simp; done) | omega | (simp; omega)) _))⟩
        case round =>
          obtain ⟨k, B, d, L, hk2, rfl, rfl, hL, ho, hbx⟩ := hrel
          by_cases hlt2 : k < xs.length
          · have hl0 : Laid w 0 xs[k] := by
              obtain ⟨_, _, _, _, _, hl0⟩ := h.at_ hlt2
              exact hl0
            obtain ⟨a, rfl, _, c0, c1, hl⟩ := (h.ab hbx).at_ hlt2
            have hv := HV.out k (by rw [recs_length]; exact hlt2)
            rw [recs_get _ _ hlt2] at hv
            have he := take_enc xs k hlt2
            have hLl : L.length ≤ 100000 := by
              rw [hL.out]
              have h1 := (Frame.all_take_prefix (recs xs) k).length_le
              have h2 := hall.out
              rw [recs_take]; omega
            generalize hx : xs[k] = x at *
            have HX := Lib.hid hx
            have HE := Lib.hid he
            have HVx := Lib.hid hv
            have hxl : x.b.length ≤ 1000 := hv.2.2
            clear hx he hv
            have hsz := hbx.size
            go_wp2_with fail
            refine (bytes_any x.num x.A x.b x.c _ HVx.out (hl0.1.ab hbx) hl0.2.1).mono ?_
            rintro e w5 ⟨A5, c5, L5, e5, rfl, o5, b5⟩
            have l5 : L5.length ≤ 2000 := by rw [e5.out, Frame.enc_length]; simp; omega
            have b55 : Ab w w5 := hbx.trans b5
            go_wp2_with ((at_builtin
                          refine listApp rfl _ _ rfl rfl rfl (m := L5) rfl (ho.keep b5) b55.size o5.rb o5.le (by omega) ?_
                          intro A9 c9 w9 L9 e9 o9 _ f9
                          have b9 := f9 w b55 (Nat.le_refl _)
                          clear f9))
            go_roundw
            case rel => exact ⟨k + 1, A9, c9, L9, by omega, by go_num, rfl, Lib.hid (by rw [HE.out, e9.out, e5.out, hL.out]), o9, (by repeat (first | with_reducible exact Ab.refl _ | with_reducible assumption | with_reducible refine Ab.drew ?_ | with_reducible refine Ab.drewN ?_ _ | with_reducible refine Ab.alloc ?_ _ | with_reducible refine Ab.trans ?_ (by assumption) | with_reducible refine Ab.set ?_ (by first | (simp; done) | omega | (simp; omega)) _))⟩
            case measure => simp [intOf]; omega
          · obtain rfl : k = xs.length := by omega
            go_wp2
            go_ret2
            exact ⟨B, d, L, 0, Lib.hid (.inr (.inr ⟨HV.out, hall.out, by rw [hL.out, List.take_length], rfl⟩)), rfl, ho, (by repeat (first | with_reducible exact Ab.refl _ | with_reducible assumption | with_reducible refine Ab.drew ?_ | with_reducible refine Ab.drewN ?_ _ | with_reducible refine Ab.alloc ?_ _ | with_reducible refine Ab.trans ?_ (by assumption) | with_reducible refine Ab.set ?_ (by first | (simp; done) | omega | (simp; omega)) _))⟩
end Go.Proofs.Ytegdamjblljobaa
