/- Words and sums of layer 3, walked. Own work. -/
import Derived.Test.YtehagdpcegpbjaaFrCrc
import Derived.Test.YtehagdpcegpbjaaFrame
import Derived.Test.YtehagdpcegpbjaaPostB
import Derived.Test.YtehagdpcegpbjaaFrMem
set_option linter.unusedVariables false
namespace Go.Proofs.Ytehagdpcegpbjaa
open Go.RowKit

theorem fsum_any (A B : Option Addr) (h d : List UInt8) (c c' : Nat) (w : World) (hh : RB w 0 A h) (hc : h.length ≤ c) (hd : RB w 0 B d) (hc' : d.length ≤ c') (lh : h.length ≤ 20000) (ld : d.length ≤ 20000) :
    Calls Try.prog 79 #[.slice A h.length c, .slice B d.length c'] w fun e w' => e = .returned (.int .u32 ((Crc.sum (h ++ d)).toNat : Int)) ∧ w = w' := by
  go_enter Try.func79, Try.ntmps79
  go_wp2_with fail
  refine (sum_any A h c _ hh hc (by omega)).mono ?_
  rintro e w' ⟨rfl, rfl⟩
  go_wp2_with fail
  refine (update_any (Crc.sumE h) _ rfl B d c' _ hd hc' (by omega)).mono ?_
  rintro e w' ⟨rfl, rfl⟩
  go_wp2
  go_ret
  exact ⟨ret_int (by rw [Crc.updE_le ld, Crc.sumE_le lh]; unfold Crc.sum; rw [Crc.upd_append]), rfl⟩

theorem shl_reg (b : UInt8) (k : Nat) : ((b.toNat : Nat) : Int) % 4294967296 * 2 ^ k % 4294967296 = ((Crc.ofB b <<< k).toNat : Int) := by
  rw [reg_ofB, BitVec.toNat_shiftLeft, Nat.shiftLeft_eq]
  show _ = (((Crc.ofB b).toNat * 2 ^ k % 4294967296 : Nat) : Int)
  rw [Int.natCast_emod, Int.natCast_mul, Int.natCast_pow]
  rfl
theorem word_or (a b c d : UInt8) : Crc.ofB a ||| (Crc.ofB b <<< 8) ||| (Crc.ofB c <<< 16) ||| (Crc.ofB d <<< 24) = Crc.word a b c d := by
  unfold Crc.word
  apply BitVec.eq_of_getLsbD_eq
  intro i hi
  have ha := Crc.ofB_hi a
  have hb := Crc.ofB_hi b
  have hc := Crc.ofB_hi c
  simp only [BitVec.getLsbD_or, BitVec.getLsbD_xor, BitVec.getLsbD_shiftLeft, hi]
  by_cases h1 : i < 8
  · simp [h1, show i < 16 by omega, show i < 24 by omega]
  · by_cases h2 : i < 16
    · simp [h1, h2, show i < 24 by omega, ha i (by omega)]
    · by_cases h3 : i < 24
      · simp [h1, h2, h3, ha i (by omega), hb (i - 8) (by omega)]
      · simp [h1, h2, h3, ha i (by omega), hb (i - 8) (by omega), hc (i - 16) (by omega)]
theorem word_form (b0 b1 b2 b3 : UInt8) : bits .or .u32 (bits .or .u32 (bits .or .u32 ((b0.toNat : Int) % 4294967296) ((b1.toNat : Int) % 4294967296 * 256 % 4294967296))
      ((b2.toNat : Int) % 4294967296 * 65536 % 4294967296)) ((b3.toNat : Int) % 4294967296 * 16777216 % 4294967296) = ((Crc.word b0 b1 b2 b3).toNat : Int) := by
  have e1 := shl_reg b1 8
  have e2 := shl_reg b2 16
  have e3 := shl_reg b3 24
  rw [show (2 : Int) ^ 8 = 256 from rfl] at e1
  rw [show (2 : Int) ^ 16 = 65536 from rfl] at e2
  rw [show (2 : Int) ^ 24 = 16777216 from rfl] at e3
  rw [e1, e2, e3, reg_ofB, bx_or, bx_or, bx_or, word_or]
theorem word_any (A : Option Addr) (b : List UInt8) (c : Nat) (w : World) (hb : RB w 0 A b) (h4 : 4 ≤ b.length) (ll : b.length ≤ 9223372036854775807) :
    Calls Try.prog 82 #[.slice A b.length c] w fun e w' => e = .returned (.int .u32 ((Frame.rd b 0).toNat : Int)) ∧ ∃ n, w' = w.drewN n := by
  obtain ⟨ad, rfl, _, hcell⟩ := hb (by omega)
  obtain ⟨b0, b1, b2, b3, hrd, h0, h1, h2, h3⟩ : ∃ b0 b1 b2 b3 : UInt8, Hid (Frame.rd b 0 = Crc.word b0 b1 b2 b3) ∧ b[0] = b0 ∧ b[1] = b1 ∧ b[2] = b2 ∧ b[3] = b3 := by
    refine ⟨_, _, _, _, ?_, rfl, rfl, rfl, rfl⟩
    unfold Hid Frame.rd
    simp only [List.getD_eq_getElem?_getD, Nat.zero_add]
    rw [List.getElem?_eq_getElem (by omega), List.getElem?_eq_getElem (by omega), List.getElem?_eq_getElem (by omega), List.getElem?_eq_getElem (by omega)]
    rfl
  have c0 : w.cell? ad = some (.int .u8 (b0.toNat : Int)) := h0 ▸ hcell 0 (by omega)
  have c1 : w.cell? ⟨ad.block, ad.off + 1, none⟩ = some (.int .u8 (b1.toNat : Int)) := h1 ▸ hcell 1 (by omega)
  have c2 : w.cell? ⟨ad.block, ad.off + 2, none⟩ = some (.int .u8 (b2.toNat : Int)) := h2 ▸ hcell 2 (by omega)
  have c3 : w.cell? ⟨ad.block, ad.off + 3, none⟩ = some (.int .u8 (b3.toNat : Int)) := h3 ▸ hcell 3 (by omega)
  clear hcell h0 h1 h2 h3
  generalize hn : b.length = n
  rw [hn] at h4 ll
  have i0 : (0 : Int) < (n : Int) := by omega
  have j0 : 0 < n := by omega
  have i1 : (1 : Int) < (n : Int) := by omega
  have i2 : (2 : Int) < (n : Int) := by omega
  have i3 : (3 : Int) < (n : Int) := by omega
  clear h4 hn
  go_enter Try.func82, Try.ntmps82
  go_wp2
  go_quiet (fail)
  go_wp2
  go_ret
  exact ⟨ret_int (by rw [hrd.out]; exact word_form b0 b1 b2 b3), _, rfl⟩

theorem rd_drop (b : List UInt8) (k : Nat) : Frame.rd (b.drop k) 0 = Frame.rd b k := by
  unfold Frame.rd
  simp only [List.getD_eq_getElem?_getD, List.getElem?_drop]
  congr 3
theorem word_at (A : Option Addr) (b : List UInt8) (c n k m : Nat) (w : World) (hb : RB w 0 A b) (hc : b.length ≤ c) (h4 : k + 4 ≤ b.length) (ll : b.length ≤ 9223372036854775807) (hn : b.length - k = n) (hm : (Frame.rd b k).toNat = m) :
    Calls Try.prog 82 #[.slice (cutA A c k) n (c - k)] w fun e w' => e = .returned (.int .u32 (m : Int)) ∧ ∃ n, w' = w.drewN n := by
  have := word_any (cutA A c k) (b.drop k) (c - k) w (hb.cut k c hc) (by simp; omega) (by simp; omega)
  rw [rd_drop, hm, List.length_drop, hn] at this
  exact this
theorem w4_form (x : BitVec 32) : ((Crc.byteAt x 0).toNat : Int) = (x.toNat : Int) % 256 ∧ ((Crc.byteAt x 1).toNat : Int) = (x.toNat : Int) / 256 % 256 ∧
    ((Crc.byteAt x 2).toNat : Int) = (x.toNat : Int) / 65536 % 256 ∧ ((Crc.byteAt x 3).toNat : Int) = (x.toNat : Int) / 16777216 := by
  have := x.isLt
  unfold Crc.byteAt
  simp only [UInt8.toNat_ofNat', BitVec.toNat_ushiftRight, Nat.shiftRight_eq_div_pow]
  omega
theorem putWord_any (A : Option Addr) (l : List UInt8) (c : Nat) (x : BitVec 32) (v : Int) (hv : v = (x.toNat : Int)) (lo : Nat) (w : World) (o : OR 5 lo w A c l) (hlo : lo ≤ w.heap.size) (ll : l.length ≤ 1000000) :
    Calls Try.prog 78 #[.slice A l.length c, .int .u32 v] w fun e w' => ∃ g c' L, Hid (L = l ++ Frame.w4 x) ∧ e = .returned (.slice (some ⟨g, 0, none⟩) L.length c') ∧ OR 5 lo w' (some ⟨g, 0, none⟩) c' L ∧
      w.grownBy w' (A.map (·.block)) ∧ (A.map (·.block) = some g ∨ w.heap.size ≤ g) := by
  subst hv
  obtain ⟨k0, k1, k2, k3⟩ := w4_form x
  go_enter Try.func78, Try.ntmps78
  go_wp2_with ((at_builtin
                refine listApp4 (m := Frame.w4 x) (fr := (0, 0)) rfl _ _ rfl rfl rfl (OR.alloc o _) (by simp; omega) (by unfold Frame.w4; simp only [List.map_cons, List.map_nil, cb, k0, k1, k2, k3]; (repeat (first | exact new_plain (by first | (simp; done) | omega | (simp; omega)) | with_reducible refine old_alloc ?_ | with_reducible refine old_drew ?_ | with_reducible refine old_set ?_ (by first | (simp; done) | omega | (simp; omega)) | with_reducible refine old_ab (by assumption) ?_))) (by simp) (by simp; omega) ?_
                intro g c' w1 L hL o1 g1 f1))
  go_ret
  exact ⟨g, c', L, hL, rfl, o1, grown_alloc g1, f1.imp id (fun h => by simp at h; omega)⟩

theorem map_blk {A : Option Addr} {g : Nat} (h : A.map (·.block) = some g) : ∃ a, A = some a ∧ a.block = g := by
  cases A with
  | none => cases h
  | some a => exact ⟨a, rfl, by simpa using h⟩
theorem blk_ne {A : Option Addr} {g n m : Nat} (hA : ∀ a, A = some a → a.block < n) (h : A.map (·.block) = some g ∨ m ≤ g) (hm : n < m) : g ≠ n := by
  rcases h with h | h
  · obtain ⟨a, ha, rfl⟩ := map_blk h
    have := hA a ha; omega
  · omega
/-- What put does to its first argument, a row of the call's own. -/
def PutTo (lo : Nat) (W : World) (l : List UInt8) (r : Frame.Rec) (e : Ending) (w' : World) : Prop :=
  ∃ A' c' L, Hid (L = l ++ Frame.enc r) ∧ e = .returned (.slice A' L.length c') ∧ OR 5 lo w' A' c' L ∧ Ab W w'

end Go.Proofs.Ytehagdpcegpbjaa
