/- Turning words, the words of a block, walked. Own work. -/
import Derived.Test.YtiijehmbpjakhaaDoorShBase
import Derived.Test.YtiijehmbpjakhaaDoorCrcInt
set_option linter.unusedVariables false
set_option linter.unusedSimpArgs false
namespace Go.Proofs.YtiijehmbpjakhaaDoor
open Go.RowKit

/-- The number of a turn, as RotateLeft32 makes it of -n. -/
theorem left_by (n : Nat) (h1 : 1 ≤ n) (h2 : n ≤ 31) : bits .and .u64 (IntKind.u64.wrap (-(n : Int))) 31 = ((32 - n : Nat) : Int) := by
  have : ∀ n : Fin 32, 1 ≤ n.val → bits .and .u64 (IntKind.u64.wrap (-(n.val : Int))) 31 = ((32 - n.val : Nat) : Int) := by decide +kernel
  exact this ⟨n, by omega⟩ h1
theorem shl_u32 (x : BitVec 32) (k : Nat) : IntKind.u32.wrap ((x.toNat : Int) * 2 ^ k) = ((x <<< k).toNat : Int) := by
  rw [BitVec.toNat_shiftLeft, Nat.shiftLeft_eq]
  have : ((x.toNat * 2 ^ k % 2 ^ 32 : Nat) : Int) = ((x.toNat : Int) * 2 ^ k) % 4294967296 := by
    rw [Int.natCast_emod, Int.natCast_mul, Int.natCast_pow]; rfl
  rw [this]
  generalize (x.toNat : Int) * 2 ^ k = y
  simp [IntKind.wrap, IntKind.bits, IntKind.signed]
theorem rotl_any (x : BitVec 32) (n : Nat) (h1 : 1 ≤ n) (h2 : n ≤ 31) (w : World) :
    Calls Tryd.prog 30 #[.int .u32 (x.toNat : Int), .int .i64 (-(n : Int))] w fun e w' => e = .returned (.int .u32 ((Sha.rotr x n).toNat : Int)) ∧ w = w' := by
  have hL := left_by n h1 h2
  go_enter Tryd.func30, Tryd.ntmps30
  go_wp2
  go_ret
  refine ⟨ret_int ?_, rfl⟩
  have e : 32 - (32 - n) = n := by omega
  have hs := shl_u32 x (32 - n)
  have hw : IntKind.u32.wrap ((x.toNat : Int) * 2 ^ (32 - n)) = (x.toNat : Int) * 2 ^ (32 - n) % 4294967296 := by
    generalize (x.toNat : Int) * 2 ^ (32 - n) = y
    simp [IntKind.wrap, IntKind.bits, IntKind.signed]
  show bits .or .u32 ((x.toNat : Int) * 2 ^ (32 - n) % 4294967296) ((x.toNat : Int) / 2 ^ (32 - (32 - n))) = _
  rw [← hw, hs, e, reg_shr, bx_or, BitVec.or_comm]
  rfl
def turns (x : BitVec 32) (ns : List Nat) : BitVec 32 := ns.foldl (fun s n => s ^^^ Sha.rotr x n) 0#32
theorem turns_take (x : BitVec 32) (ns : List Nat) (k : Nat) (h : k < ns.length) : turns x (ns.take (k + 1)) = turns x (ns.take k) ^^^ Sha.rotr x ns[k] := by
  unfold turns
  rw [List.take_succ_eq_append_getElem h, List.foldl_append]; rfl
theorem turned_any (x : BitVec 32) (g c : Nat) (ns : List Nat) (w : World) (hc : ∀ i (h : i < ns.length), w.cell? ⟨g, i, none⟩ = some (.int .i64 (ns[i] : Int))) (hn : ∀ n ∈ ns, 1 ≤ n ∧ n ≤ 31) (hl : ns.length ≤ 1000) :
    Calls Tryd.prog 26 #[.int .u32 (x.toNat : Int), .slice (some ⟨g, 0, none⟩) ns.length c] w fun e w' => e = .returned (.int .u32 ((turns x ns).toNat : Int)) ∧ w = w' := by
  go_enter Tryd.func26, Tryd.ntmps26
  go_wp2
  go_loop [5, 10] (fun s i => ∃ k : Nat, k ≤ ns.length ∧ i = .int .i64 k ∧ s = .int .u32 ((turns x (ns.take k)).toNat : Int)) (fun _ i => ns.length - (intOf i).toNat)
  case atStart => exact ⟨0, Nat.zero_le _, rfl, rfl⟩
  case round =>
    obtain ⟨k, hk, rfl, rfl⟩ := hrel
    by_cases hlt : k < ns.length
    · have hck := hc k hlt
      have hnk := hn ns[k] (List.getElem_mem hlt)
      have HT := Lib.hid (turns_take x ns k hlt)
      have HB := Lib.hid (fun (a b : BitVec 32) => bx_xor a b)
      clear hc hn
      go_wp2_with fail
      refine (rotl_any x ns[k] hnk.1 hnk.2 _).mono ?_
      rintro e w' ⟨rfl, rfl⟩
      go_wp2
      go_round
      case rel => exact ⟨k + 1, by omega, by go_num, by rw [HT.out, ← HB.out]⟩
      case measure => simp [intOf]; omega
    · go_wp2
      go_ret
      obtain rfl : k = ns.length := by omega
      exact ⟨ret_int (by rw [List.take_length]), rfl⟩
theorem or_nat (u v : Nat) (hu : u < 4294967296) (hv : v < 4294967296) : bits .or .u32 (u : Int) (v : Int) = ((u ||| v : Nat) : Int) := by
  rw [reg_lit u hu, reg_lit v hv, bx_or, BitVec.toNat_or]
  congr 1
  simp only [BitVec.toNat_ofNat]
  rw [Nat.mod_eq_of_lt hu, Nat.mod_eq_of_lt hv]
theorem or_int (u v r : Nat) (a b : Int) (hu : u < 4294967296) (hv : v < 4294967296) (ha : a = (u : Int)) (hb : b = (v : Int)) (hr : u ||| v = r) : bits .or .u32 a b = (r : Int) := by
  subst ha hb hr; exact or_nat u v hu hv
theorem or_add (a b i : Nat) (h : b < 2 ^ i) : a * 2 ^ i ||| b = a * 2 ^ i + b := by
  have := Nat.shiftLeft_add_eq_or_of_lt h a
  rw [Nat.shiftLeft_eq] at this
  exact this.symm
theorem word_form (b0 b1 b2 b3 : UInt8) : bits .or .u32 (bits .or .u32 (bits .or .u32 ((b0.toNat : Int) * 16777216) ((b1.toNat : Int) * 65536)) ((b2.toNat : Int) * 256)) (b3.toNat : Int)
    = ((BitVec.ofNat 32 (b0.toNat * 16777216 + b1.toNat * 65536 + b2.toNat * 256 + b3.toNat)).toNat : Int) := by
  have t0 := b0.toNat_lt
  have t1 := b1.toNat_lt
  have t2 := b2.toNat_lt
  have t3 := b3.toNat_lt
  generalize b0.toNat = x0 at *
  generalize b1.toNat = x1 at *
  generalize b2.toNat = x2 at *
  generalize b3.toNat = x3 at *
  have e1 : x0 * 16777216 ||| x1 * 65536 = x0 * 16777216 + x1 * 65536 := or_add x0 (x1 * 65536) 24 (by omega)
  have e2 : (x0 * 16777216 + x1 * 65536) ||| x2 * 256 = x0 * 16777216 + x1 * 65536 + x2 * 256 := by
    have := or_add (x0 * 256 + x1) (x2 * 256) 16 (by omega)
    have e : (x0 * 256 + x1) * 2 ^ 16 = x0 * 16777216 + x1 * 65536 := by omega
    rwa [e] at this
  have e3 : (x0 * 16777216 + x1 * 65536 + x2 * 256) ||| x3 = x0 * 16777216 + x1 * 65536 + x2 * 256 + x3 := by
    have := or_add (x0 * 65536 + x1 * 256 + x2) x3 8 (by omega)
    have e : (x0 * 65536 + x1 * 256 + x2) * 2 ^ 8 = x0 * 16777216 + x1 * 65536 + x2 * 256 := by omega
    rwa [e] at this
  have n1 := or_int (x0 * 16777216) (x1 * 65536) _ ((x0 : Int) * 16777216) ((x1 : Int) * 65536) (by omega) (by omega) (by omega) (by omega) e1
  have n2 := or_int (x0 * 16777216 + x1 * 65536) (x2 * 256) _ _ ((x2 : Int) * 256) (by omega) (by omega) rfl (by omega) e2
  have n3 := or_int (x0 * 16777216 + x1 * 65536 + x2 * 256) x3 _ _ (x3 : Int) (by omega) (by omega) rfl rfl e3
  rw [n1, n2, n3, BitVec.toNat_ofNat, Nat.mod_eq_of_lt (by omega)]
theorem word_any (A : Option Addr) (l : List UInt8) (c : Nat) (w : World) (hb : RB w 0 A l) (h4 : 4 ≤ l.length) (ll : l.length ≤ 9223372036854775807) :
    Calls Tryd.prog 29 #[.slice A l.length c] w fun e w' => e = .returned (.int .u32 ((Sha.word l 0).toNat : Int)) ∧ ∃ n, w' = w.drewN n := by
  obtain ⟨ad, rfl, _, hcell⟩ := hb (by omega)
  obtain ⟨b0, b1, b2, b3, hrd, h0, h1, h2, h3⟩ : ∃ b0 b1 b2 b3 : UInt8, Hid (Sha.word l 0 = BitVec.ofNat 32 (b0.toNat * 16777216 + b1.toNat * 65536 + b2.toNat * 256 + b3.toNat)) ∧ l[0] = b0 ∧ l[1] = b1 ∧ l[2] = b2 ∧ l[3] = b3 := by
    refine ⟨_, _, _, _, ?_, rfl, rfl, rfl, rfl⟩
    unfold Hid Sha.word Sha.u8
    simp only [List.getD_eq_getElem?_getD, Nat.zero_add, Nat.mul_zero]
    rw [List.getElem?_eq_getElem (by omega), List.getElem?_eq_getElem (by omega), List.getElem?_eq_getElem (by omega), List.getElem?_eq_getElem (by omega)]
    rfl
  have c0 : w.cell? ad = some (.int .u8 (b0.toNat : Int)) := h0 ▸ hcell 0 (by omega)
  have c1 : w.cell? ⟨ad.block, ad.off + 1, none⟩ = some (.int .u8 (b1.toNat : Int)) := h1 ▸ hcell 1 (by omega)
  have c2 : w.cell? ⟨ad.block, ad.off + 2, none⟩ = some (.int .u8 (b2.toNat : Int)) := h2 ▸ hcell 2 (by omega)
  have c3 : w.cell? ⟨ad.block, ad.off + 3, none⟩ = some (.int .u8 (b3.toNat : Int)) := h3 ▸ hcell 3 (by omega)
  clear hcell h0 h1 h2 h3
  generalize hn : l.length = n
  rw [hn] at h4 ll
  have i0 : (0 : Int) < (n : Int) := by omega
  have j0 : 0 < n := by omega
  have i1 : (1 : Int) < (n : Int) := by omega
  have i2 : (2 : Int) < (n : Int) := by omega
  have i3 : (3 : Int) < (n : Int) := by omega
  clear h4 hn
  have t0 := b0.toNat_lt
  have t1 := b1.toNat_lt
  have t2 := b2.toNat_lt
  have t3 := b3.toNat_lt
  go_enter Tryd.func29, Tryd.ntmps29
  go_wp2
  go_quiet (fail)
  go_wp2
  go_ret
  refine ⟨ret_int ?_, _, rfl⟩
  rw [hrd.out]
  exact word_form b0 b1 b2 b3
end Go.Proofs.YtiijehmbpjakhaaDoor
