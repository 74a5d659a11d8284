/- Go's operations on uint32, as those on registers. Own work. -/
import Derived.Laws.Entries
import Derived.Test.YtiijehmbpjakhaaDoorCrc
set_option linter.unusedVariables false
namespace Go.Proofs.YtiijehmbpjakhaaDoor

theorem ofInt_reg (a : BitVec 32) : BitVec.ofInt 32 ((a.toNat : Nat) : Int) = a := by
  rw [BitVec.ofInt_natCast]; simp
theorem wrap_reg (a : BitVec 32) : IntKind.u32.wrap ((a.toNat : Nat) : Int) = (a.toNat : Int) := by
  have := a.isLt
  simp [IntKind.wrap, IntKind.bits, IntKind.signed]; omega
theorem reg_mod (a : BitVec 32) : ((a.toNat : Nat) : Int) % 4294967296 = (a.toNat : Int) := by
  have := a.isLt; omega
theorem bx_xor (a b : BitVec 32) : bits .xor .u32 (a.toNat : Int) (b.toNat : Int) = ((a ^^^ b).toNat : Int) := by
  show IntKind.u32.wrap ((BitVec.ofInt 32 (a.toNat : Int) ^^^ BitVec.ofInt 32 (b.toNat : Int)).toNat : Int) = _
  rw [ofInt_reg, ofInt_reg, wrap_reg]
theorem bx_and (a b : BitVec 32) : bits .and .u32 (a.toNat : Int) (b.toNat : Int) = ((a &&& b).toNat : Int) := by
  show IntKind.u32.wrap ((BitVec.ofInt 32 (a.toNat : Int) &&& BitVec.ofInt 32 (b.toNat : Int)).toNat : Int) = _
  rw [ofInt_reg, ofInt_reg, wrap_reg]
theorem bx_or (a b : BitVec 32) : bits .or .u32 (a.toNat : Int) (b.toNat : Int) = ((a ||| b).toNat : Int) := by
  show IntKind.u32.wrap ((BitVec.ofInt 32 (a.toNat : Int) ||| BitVec.ofInt 32 (b.toNat : Int)).toNat : Int) = _
  rw [ofInt_reg, ofInt_reg, wrap_reg]
theorem reg_ofB (b : UInt8) : ((b.toNat : Nat) : Int) % 4294967296 = ((Crc.ofB b).toNat : Int) := by
  have := b.toNat_lt
  unfold Crc.ofB
  rw [BitVec.toNat_ofNat]; omega
theorem reg_shr (a : BitVec 32) (k : Nat) : ((a.toNat : Nat) : Int) / 2 ^ k = ((a >>> k).toNat : Int) := by
  rw [BitVec.toNat_ushiftRight, Nat.shiftRight_eq_div_pow]
  norm_cast
theorem reg_neg (a : BitVec 32) : IntKind.u32.wrap (-((a.toNat : Nat) : Int)) = ((-a).toNat : Int) := by
  have := a.isLt
  rw [BitVec.toNat_neg]
  simp [IntKind.wrap, IntKind.bits, IntKind.signed]
  omega
theorem reg_lit (n : Nat) (h : n < 4294967296) : (n : Int) = ((BitVec.ofNat 32 n).toNat : Int) := by
  rw [BitVec.toNat_ofNat]; omega
theorem poly_lit : (3988292384 : Int) = (Crc.poly.toNat : Int) := by decide
theorem one_lit : (1 : Int) = ((1#32).toNat : Int) := by decide
theorem and_one (x : BitVec 32) : x &&& 1#32 = if x.getLsbD 0 then 1#32 else 0#32 := by
  ext i hi
  by_cases h0 : i = 0
  · subst h0; simp; split <;> simp_all
  · simp; split <;> simp [h0] <;> omega
theorem reg_neg' (a : BitVec 32) : -((a.toNat : Nat) : Int) % 4294967296 = ((-a).toNat : Int) := by
  rw [← reg_neg]; simp [IntKind.wrap, IntKind.bits, IntKind.signed]
theorem reg_half (a : BitVec 32) : (a.toNat : Int) / (2 : Int) = ((a >>> 1).toNat : Int) := by
  have := reg_shr a 1
  simpa using this
/-- taken & -(r & 1) -/
theorem masked (m x : BitVec 32) : m &&& -(x &&& 1#32) = if x.getLsbD 0 then m else 0#32 := by
  rw [and_one]
  cases x.getLsbD 0 <;> simp
  show m &&& BitVec.allOnes 32 = m
  rw [BitVec.and_allOnes]
theorem step_form (x : BitVec 32) :
    bits .xor .u32 ((x.toNat : Int) / 2) (bits .and .u32 3988292384 (-bits .and .u32 (x.toNat : Int) 1 % 4294967296)) = ((Crc.S x).toNat : Int) := by
  rw [one_lit, poly_lit, bx_and, reg_neg', bx_and, reg_half, bx_xor, masked]
  rfl
theorem bit_form (b : UInt8) (j : Nat) : bits .and .u32 ((b.toNat : Int) % 4294967296 / 2 ^ j) 1 = ((Crc.bitOf b j).toNat : Int) := by
  rw [reg_ofB, reg_shr, one_lit, bx_and]
  unfold Crc.bitOf
  exact Eq.refl _
theorem not_form (x : BitVec 32) : bits .xor .u32 IntKind.u32.max (x.toNat : Int) = ((~~~ x).toNat : Int) := by
  show bits .xor .u32 (((BitVec.allOnes 32).toNat : Nat) : Int) (x.toNat : Int) = _
  rw [bx_xor, BitVec.allOnes_xor]
theorem ones_lit : (4294967295 : Int) = ((~~~ 0#32).toNat : Int) := by decide
theorem ret_pair {k k' : IntKind} {a b c d : Int} (h : a = b) (h' : c = d) : Ending.returned (.tuple #[.int k a, .int k' c]) = .returned (.tuple #[.int k b, .int k' d]) := by rw [h, h']
theorem int_reg (i : Int) (h0 : 0 ≤ i) (h1 : i ≤ 255) : i = ((BitVec.ofNat 32 i.toNat).toNat : Int) := by
  rw [BitVec.toNat_ofNat]; omega
theorem int_reg' (i : Int) (h0 : 0 ≤ i) (h1 : i ≤ 255) : i % 4294967296 = ((BitVec.ofNat 32 i.toNat).toNat : Int) := by
  rw [BitVec.toNat_ofNat]; omega
theorem part_form (d : Nat) (r : BitVec 32) (j : Nat) :
    bits .xor .u32 ((Crc.part d r j).toNat : Int) (bits .and .u32 ((Crc.it d (1#32 <<< j)).toNat : Int) (-bits .and .u32 ((r.toNat : Int) / 2 ^ j) 1 % 4294967296)) = ((Crc.part d r (j + 1)).toNat : Int) := by
  rw [reg_shr, one_lit, bx_and, reg_neg', bx_and, bx_xor, masked]
  have : (r >>> j).getLsbD 0 = r.getLsbD j := by simp
  rw [this]
  rfl
theorem shl_form (j : Nat) (h : j < 32) : (2 : Int) ^ j % 4294967296 = ((1#32 <<< j).toNat : Int) := by
  rw [BitVec.toNat_shiftLeft, Nat.shiftLeft_eq]
  show (2 : Int) ^ j % 4294967296 = ((1 * 2 ^ j % 4294967296 : Nat) : Int)
  rw [Nat.one_mul, Int.natCast_emod, Int.natCast_pow]
  rfl
theorem byte_form (W : BitVec 32) (i : Nat) : (W.toNat : Int) / 2 ^ (8 * i) % (256 : Int) = ((Crc.byteAt W i).toNat : Int) := by
  rw [reg_shr]
  unfold Crc.byteAt
  rw [UInt8.toNat_ofNat']
  omega
theorem byte0 (W : BitVec 32) : (W.toNat : Int) % (256 : Int) = ((Crc.byteAt W 0).toNat : Int) := by
  rw [← byte_form W 0]; simp
theorem byte1 (W : BitVec 32) : (W.toNat : Int) / (256 : Int) % (256 : Int) = ((Crc.byteAt W 1).toNat : Int) := byte_form W 1
theorem byte2 (W : BitVec 32) : (W.toNat : Int) / (65536 : Int) % (256 : Int) = ((Crc.byteAt W 2).toNat : Int) := byte_form W 2
theorem byte3 (W : BitVec 32) : (W.toNat : Int) / (16777216 : Int) % (256 : Int) = ((Crc.byteAt W 3).toNat : Int) := byte_form W 3
theorem ones_lit' : (4294967295 : Int) = ((4294967295#32).toNat : Int) := by decide
theorem tail_form (l : List UInt8) (want : BitVec 32) : bits .xor .u32 ((Crc.steps (4294967295#32) l).toNat : Int) ((Crc.ut 32 (~~~ want)).toNat : Int) = ((Crc.tailW l want).toNat : Int) := by
  rw [bx_xor]; unfold Crc.tailW; exact Eq.refl _
theorem top_bit (x : BitVec 32) : x >>> 31 = if x.getLsbD 31 then 1#32 else 0#32 := by
  ext i hi
  by_cases h0 : i = 0
  · subst h0; simp; split <;> simp_all
  · have : 32 ≤ 31 + i := by omega
    simp [BitVec.getLsbD_of_ge _ _ this]; split <;> simp [h0]
theorem masked_top (m x : BitVec 32) : m &&& -(x >>> 31) = if x.getLsbD 31 then m else 0#32 := by
  rw [top_bit]
  cases x.getLsbD 31 <;> simp
  show m &&& BitVec.allOnes 32 = m
  rw [BitVec.and_allOnes]
theorem reg_top (a : BitVec 32) : (a.toNat : Int) / (2147483648 : Int) = ((a >>> 31).toNat : Int) := by
  have := reg_shr a 31
  simpa using this
theorem reg_twice (a : BitVec 32) : (a.toNat : Int) * (2 : Int) % (4294967296 : Int) = ((a <<< 1).toNat : Int) := by
  rw [BitVec.toNat_shiftLeft, Nat.shiftLeft_eq]
  show (a.toNat : Int) * 2 % 4294967296 = ((a.toNat * 2 % 4294967296 : Nat) : Int)
  omega
theorem back_form (x : BitVec 32) :
    bits .or .u32 (bits .xor .u32 (x.toNat : Int) (bits .and .u32 3988292384 (-((x.toNat : Int) / 2147483648) % 4294967296)) * 2 % 4294967296) ((x.toNat : Int) / 2147483648) = ((Crc.U x).toNat : Int) := by
  rw [reg_top, poly_lit, reg_neg', bx_and, bx_xor, reg_twice, bx_or, masked_top, top_bit]
  unfold Crc.U
  split
  · rfl
  · rw [BitVec.xor_zero, BitVec.or_zero]
theorem test_form (r x : BitVec 32) : (bits .and .u32 (bits .xor .u32 (r.toNat : Int) (x.toNat : Int)) 1 == 1) = (r ^^^ x).getLsbD 0 := by
  rw [bx_xor]
  conv in (1 : Int) => rw [one_lit]
  rw [bx_and, and_one]
  cases (r ^^^ x).getLsbD 0 <;> rfl
theorem step_two (r x : BitVec 32) (hx : x.toNat ≤ 1) : Crc.S (r ^^^ x) = (r >>> 1) ^^^ (if (r ^^^ x).getLsbD 0 then Crc.poly else 0#32) := by
  unfold Crc.S
  congr 1
  rw [BitVec.ushiftRight_xor_distrib]
  have : x >>> 1 = 0#32 := by
    apply BitVec.eq_of_toNat_eq
    rw [BitVec.toNat_ushiftRight, Nat.shiftRight_eq_div_pow]
    show x.toNat / 2 = 0
    omega
  rw [this, BitVec.xor_zero]
theorem step_yes (r x : BitVec 32) (hx : x.toNat ≤ 1) (h : (r ^^^ x).getLsbD 0 = true) : bits .xor .u32 ((r.toNat : Int) / 2) 3988292384 = ((Crc.S (r ^^^ x)).toNat : Int) := by
  rw [step_two r x hx, if_pos h, reg_half, poly_lit, bx_xor]
theorem step_no (r x : BitVec 32) (hx : x.toNat ≤ 1) (h : (r ^^^ x).getLsbD 0 = false) : (r.toNat : Int) / (2 : Int) = ((Crc.S (r ^^^ x)).toNat : Int) := by
  rw [step_two r x hx, h, reg_half]; simp
end Go.Proofs.YtiijehmbpjakhaaDoor
