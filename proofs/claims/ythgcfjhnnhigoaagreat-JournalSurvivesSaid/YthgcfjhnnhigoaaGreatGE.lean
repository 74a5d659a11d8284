/- The texts FrCrc, FrCodeA, FrPut, FrSize, FrGet, FrScan, FrAll, one behind the other. Own work. -/
import Derived.Test.YthgcfjhnnhigoaaGreatProg
import Derived.Test.YthgcfjhnnhigoaaGreatGB
import Derived.Test.YthgcfjhnnhigoaaGreatGA
import Derived.WalkKit
import Derived.Laws.StructEq
import Derived.Deep.DeepCutAuto
import Derived.ChangeKeysEq
import Derived.Lib.LazyBuf
import Derived.IntWalk
set_option linter.unusedVariables false
set_option linter.unusedSimpArgs false
/- Layer 2, as layer 3 calls it. Own work. -/
namespace Go.Proofs.YthgcfjhnnhigoaaGreat
open Go.RowKit

set_option maxHeartbeats 400000 in
theorem steps_any (r : BitVec 32) (v : Int) (hv : v = (r.toNat : Int)) (A : Option Addr) (l : List UInt8) (c : Nat) (w : World) (hl : RB w 0 A l) (hc : l.length ≤ c) (ll : l.length ≤ 9223372036854775807) :
    Calls Tryz.prog 146 #[.int .u32 v, .slice A l.length c] w fun e w' => e = .returned (.int .u32 ((Crc.steps r l).toNat : Int)) ∧ w = w' := by
  subst hv
  go_enter Tryz.func146, Tryz.ntmps146
  go_wp2
  go_loop [0, 9] (fun t i => ∃ k : Nat, k ≤ l.length ∧ i = .int .i64 k ∧ t = .int .u32 ((Crc.steps r (l.take k)).toNat : Int)) (fun _ i => l.length - (intOf i).toNat)
  case atStart => exact ⟨0, Nat.zero_le _, rfl, rfl⟩
  case round =>
    obtain ⟨k, hk, rfl, rfl⟩ := hrel
    by_cases hlt : k < l.length
    · obtain ⟨ad, hA⟩ : ∃ ad, A = some ad := (hl (by omega)).elim fun a h => ⟨a, h.1⟩
      have hc1 := hl.cell hlt hA
      subst hA
      go_wp2
      go_loop [0, 17] (fun t i => ∃ j : Nat, j ≤ 8 ∧ i = .int .i64 j ∧ t = .int .u32 ((Crc.it j (Crc.steps r (l.take k) ^^^ Crc.ofB l[k])).toNat : Int)) (fun _ i => 8 - (intOf i).toNat)
      case atStart => exact ⟨0, Nat.zero_le _, rfl, by rw [reg_ofB, bx_xor]; rfl⟩
      case round =>
        obtain ⟨j, hj, rfl, rfl⟩ := hrel
        by_cases hj8 : j < 8
        · go_wp2
          go_round
          case rel =>
            exact ⟨j + 1, by omega, by go_num, by rw [step_form, Crc.it_succ']⟩
          case measure => simp [intOf]; omega
        · go_wp2
          go_round
          case rel =>
            obtain rfl : j = 8 := by omega
            exact ⟨k + 1, by omega, by go_num, by rw [Crc.steps_take r l k hlt]⟩
          case measure => simp [intOf]; omega
    · go_wp2
      go_ret
      obtain rfl : k = l.length := by omega
      exact ⟨ret_int (by rw [List.take_length]), rfl⟩

theorem update_any (x : BitVec 32) (v : Int) (hv : v = (x.toNat : Int)) (A : Option Addr) (l : List UInt8) (c : Nat) (w : World) (hl : RB w 0 A l) (hc : l.length ≤ c) (ll : l.length ≤ 9223372036854775807) :
    Calls Tryz.prog 139 #[.int .u32 v, .slice A l.length c] w fun e w' => e = .returned (.tuple #[.int .u32 ((Crc.updE x l).toNat : Int), .int .i64 (Crc.errE l)]) ∧ w = w' := by
  subst hv
  by_cases h20 : l.length ≤ 20000
  · go_enter Tryz.func139, Tryz.ntmps139
    go_wp2_with fail
    refine (steps_any (~~~ x) _ (not_form x) A l c _ hl hc ll).mono ?_
    rintro e w' ⟨rfl, rfl⟩
    go_wp2
    go_ret2
    exact ⟨by rw [Crc.updE_le h20, Crc.errE_le h20]; exact ret_pair (not_form (Crc.steps (~~~ x) l)) rfl, rfl⟩
  · go_enter Tryz.func139, Tryz.ntmps139
    go_wp2
    go_ret2
    exact ⟨by rw [Crc.updE_gt h20, Crc.errE_gt h20]; rfl, rfl⟩

theorem sum_any (A : Option Addr) (l : List UInt8) (c : Nat) (w : World) (hl : RB w 0 A l) (hc : l.length ≤ c) (ll : l.length ≤ 9223372036854775807) :
    Calls Tryz.prog 138 #[.slice A l.length c] w fun e w' => e = .returned (.tuple #[.int .u32 ((Crc.sumE l).toNat : Int), .int .i64 (Crc.errE l)]) ∧ w = w' := by
  go_enter Tryz.func138, Tryz.ntmps138
  go_wp2_with fail
  refine (update_any 0#32 _ rfl A l c _ hl hc ll).mono ?_
  rintro e w' ⟨rfl, rfl⟩
  go_wp2
  go_ret2
  exact ⟨rfl, rfl⟩


theorem refStep_any (r x : BitVec 32) (v : Int) (hv : v = (x.toNat : Int)) (hx : x.toNat ≤ 1) (w : World) :
    Calls Tryz.prog 147 #[.int .u32 (r.toNat : Int), .int .u32 v] w fun e w' => e = .returned (.int .u32 ((Crc.S (r ^^^ x)).toNat : Int)) ∧ w = w' := by
  subst hv
  have ht := test_form r x
  cases hb : (r ^^^ x).getLsbD 0
  · rw [hb] at ht
    have HN := Lib.hid (step_no r x hx hb)
    clear hb
    go_enter Tryz.func147, Tryz.ntmps147
    go_wp2
    go_ret
    exact ⟨ret_int HN.out, rfl⟩
  · rw [hb] at ht
    have HN := Lib.hid (step_yes r x hx hb)
    clear hb
    go_enter Tryz.func147, Tryz.ntmps147
    go_wp2
    go_ret
    exact ⟨ret_int HN.out, rfl⟩

set_option maxHeartbeats 400000 in
theorem refByte_any (r : BitVec 32) (v : Int) (hv : v = (r.toNat : Int)) (b : UInt8) (w : World) :
    Calls Tryz.prog 140 #[.int .u32 v, .int .u8 (b.toNat : Int)] w fun e w' => e = .returned (.int .u32 ((Crc.stepB r b).toNat : Int)) ∧ w = w' := by
  subst hv
  go_enter Tryz.func140, Tryz.ntmps140
  go_wp2
  go_loop [0, 5] (fun t i => ∃ j : Nat, j ≤ 8 ∧ i = .int .i64 j ∧ t = .int .u32 ((Crc.refIt r b j).toNat : Int)) (fun _ i => 8 - (intOf i).toNat)
  case atStart => exact ⟨0, Nat.zero_le _, rfl, by rw [Crc.refIt_zero]⟩
  case round =>
    obtain ⟨j, hj, rfl, rfl⟩ := hrel
    by_cases hlt : j < 8
    · go_wp2_with fail
      refine (refStep_any (Crc.refIt r b j) (Crc.bitOf b j) _ (bit_form b j) (Crc.bitOf_le b j) _).mono ?_
      rintro e w' ⟨rfl, rfl⟩
      go_wp2
      go_round
      case rel => exact ⟨j + 1, by omega, by go_num, by rw [Crc.refIt_succ r b j hlt]⟩
      case measure => simp [intOf]; omega
    · go_wp2
      go_ret
      obtain rfl : j = 8 := by omega
      exact ⟨ret_int (by rw [Crc.refIt_eight]), rfl⟩

set_option maxHeartbeats 400000 in
theorem refBytes_any (r : BitVec 32) (v : Int) (hv : v = (r.toNat : Int)) (A : Option Addr) (l : List UInt8) (c : Nat) (w : World) (hl : RB w 0 A l) (hc : l.length ≤ c) (ll : l.length ≤ 9223372036854775807) :
    Calls Tryz.prog 133 #[.int .u32 v, .slice A l.length c] w fun e w' => e = .returned (.int .u32 ((Crc.steps r l).toNat : Int)) ∧ w = w' := by
  subst hv
  go_enter Tryz.func133, Tryz.ntmps133
  go_wp2
  go_loop [0, 5] (fun t i => ∃ k : Nat, k ≤ l.length ∧ i = .int .i64 k ∧ t = .int .u32 ((Crc.steps r (l.take k)).toNat : Int)) (fun _ i => l.length - (intOf i).toNat)
  case atStart => exact ⟨0, Nat.zero_le _, rfl, rfl⟩
  case round =>
    obtain ⟨k, hk, rfl, rfl⟩ := hrel
    by_cases hlt : k < l.length
    · obtain ⟨ad, hA⟩ : ∃ ad, A = some ad := (hl (by omega)).elim fun a h => ⟨a, h.1⟩
      have hc1 := hl.cell hlt hA
      subst hA
      go_wp2_with fail
      refine (refByte_any (Crc.steps r (l.take k)) _ rfl l[k] _).mono ?_
      rintro e w' ⟨rfl, rfl⟩
      go_wp2
      go_round
      case rel => exact ⟨k + 1, by omega, by go_num, by rw [Crc.steps_take' r l k hlt]⟩
      case measure => simp [intOf]; omega
    · go_wp2
      go_ret
      obtain rfl : k = l.length := by omega
      exact ⟨ret_int (by rw [List.take_length]), rfl⟩

theorem refOf_any (A : Option Addr) (l : List UInt8) (c : Nat) (w : World) (hl : RB w 0 A l) (hc : l.length ≤ c) (ll : l.length ≤ 9223372036854775807) :
    Calls Tryz.prog 119 #[.slice A l.length c] w fun e w' => e = .returned (.int .u32 ((Crc.sum l).toNat : Int)) ∧ w = w' := by
  go_enter Tryz.func119, Tryz.ntmps119
  go_wp2_with fail
  refine (refBytes_any (~~~ 0#32) _ ones_lit A l c _ hl hc ll).mono ?_
  rintro e w' ⟨rfl, rfl⟩
  go_wp2
  go_ret
  exact ⟨ret_int (not_form (Crc.steps (~~~ 0#32) l)), rfl⟩
end Go.Proofs.YthgcfjhnnhigoaaGreat

/- Words and sums of layer 3, walked. Own work. -/
namespace Go.Proofs.YthgcfjhnnhigoaaGreat
open Go.RowKit

theorem fsum_any (A B : Option Addr) (h d : List UInt8) (c c' : Nat) (w : World) (hh : RB w 0 A h) (hc : h.length ≤ c) (hd : RB w 0 B d) (hc' : d.length ≤ c') (lh : h.length ≤ 20000) (ld : d.length ≤ 20000) :
    Calls Tryz.prog 131 #[.slice A h.length c, .slice B d.length c'] w fun e w' => e = .returned (.int .u32 ((Crc.sum (h ++ d)).toNat : Int)) ∧ w = w' := by
  go_enter Tryz.func131, Tryz.ntmps131
  go_wp2_with fail
  refine (sum_any A h c _ hh hc (by omega)).mono ?_
  rintro e w' ⟨rfl, rfl⟩
  go_wp2_with fail
  refine (update_any (Crc.sumE h) _ rfl B d c' _ hd hc' (by omega)).mono ?_
  rintro e w' ⟨rfl, rfl⟩
  go_wp2
  go_ret
  exact ⟨ret_int (by rw [Crc.updE_le ld, Crc.sumE_le lh]; unfold Crc.sum; rw [Crc.upd_append]), rfl⟩

theorem shl_reg (b : UInt8) (k : Nat) : ((b.toNat : Nat) : Int) % 4294967296 * 2 ^ k % 4294967296 = ((Crc.ofB b <<< k).toNat : Int) := by
  rw [reg_ofB, BitVec.toNat_shiftLeft, Nat.shiftLeft_eq]
  show _ = (((Crc.ofB b).toNat * 2 ^ k % 4294967296 : Nat) : Int)
  rw [Int.natCast_emod, Int.natCast_mul, Int.natCast_pow]
  rfl
theorem word_or (a b c d : UInt8) : Crc.ofB a ||| (Crc.ofB b <<< 8) ||| (Crc.ofB c <<< 16) ||| (Crc.ofB d <<< 24) = Crc.word a b c d := by
  unfold Crc.word
  apply BitVec.eq_of_getLsbD_eq
  intro i hi
  have ha := Crc.ofB_hi a
  have hb := Crc.ofB_hi b
  have hc := Crc.ofB_hi c
  simp only [BitVec.getLsbD_or, BitVec.getLsbD_xor, BitVec.getLsbD_shiftLeft, hi]
  by_cases h1 : i < 8
  · simp [h1, show i < 16 by omega, show i < 24 by omega]
  · by_cases h2 : i < 16
    · simp [h1, h2, show i < 24 by omega, ha i (by omega)]
    · by_cases h3 : i < 24
      · simp [h1, h2, h3, ha i (by omega), hb (i - 8) (by omega)]
      · simp [h1, h2, h3, ha i (by omega), hb (i - 8) (by omega), hc (i - 16) (by omega)]
theorem word_form (b0 b1 b2 b3 : UInt8) : bits .or .u32 (bits .or .u32 (bits .or .u32 ((b0.toNat : Int) % 4294967296) ((b1.toNat : Int) % 4294967296 * 256 % 4294967296))
      ((b2.toNat : Int) % 4294967296 * 65536 % 4294967296)) ((b3.toNat : Int) % 4294967296 * 16777216 % 4294967296) = ((Crc.word b0 b1 b2 b3).toNat : Int) := by
  have e1 := shl_reg b1 8
  have e2 := shl_reg b2 16
  have e3 := shl_reg b3 24
  rw [show (2 : Int) ^ 8 = 256 from rfl] at e1
  rw [show (2 : Int) ^ 16 = 65536 from rfl] at e2
  rw [show (2 : Int) ^ 24 = 16777216 from rfl] at e3
  rw [e1, e2, e3, reg_ofB, bx_or, bx_or, bx_or, word_or]
theorem word_any (A : Option Addr) (b : List UInt8) (c : Nat) (w : World) (hb : RB w 0 A b) (h4 : 4 ≤ b.length) (ll : b.length ≤ 9223372036854775807) :
    Calls Tryz.prog 144 #[.slice A b.length c] w fun e w' => e = .returned (.int .u32 ((Frame.rd b 0).toNat : Int)) ∧ ∃ n, w' = w.drewN n := by
  obtain ⟨ad, rfl, _, hcell⟩ := hb (by omega)
  obtain ⟨b0, b1, b2, b3, hrd, h0, h1, h2, h3⟩ : ∃ b0 b1 b2 b3 : UInt8, Hid (Frame.rd b 0 = Crc.word b0 b1 b2 b3) ∧ b[0] = b0 ∧ b[1] = b1 ∧ b[2] = b2 ∧ b[3] = b3 := by
    refine ⟨_, _, _, _, ?_, rfl, rfl, rfl, rfl⟩
    unfold Hid Frame.rd
    simp only [List.getD_eq_getElem?_getD, Nat.zero_add]
    rw [List.getElem?_eq_getElem (by omega), List.getElem?_eq_getElem (by omega), List.getElem?_eq_getElem (by omega), List.getElem?_eq_getElem (by omega)]
    rfl
  have c0 : w.cell? ad = some (.int .u8 (b0.toNat : Int)) := h0 ▸ hcell 0 (by omega)
  have c1 : w.cell? ⟨ad.block, ad.off + 1, none⟩ = some (.int .u8 (b1.toNat : Int)) := h1 ▸ hcell 1 (by omega)
  have c2 : w.cell? ⟨ad.block, ad.off + 2, none⟩ = some (.int .u8 (b2.toNat : Int)) := h2 ▸ hcell 2 (by omega)
  have c3 : w.cell? ⟨ad.block, ad.off + 3, none⟩ = some (.int .u8 (b3.toNat : Int)) := h3 ▸ hcell 3 (by omega)
  clear hcell h0 h1 h2 h3
  generalize hn : b.length = n
  rw [hn] at h4 ll
  have i0 : (0 : Int) < (n : Int) := by omega
  have j0 : 0 < n := by omega
  have i1 : (1 : Int) < (n : Int) := by omega
  have i2 : (2 : Int) < (n : Int) := by omega
  have i3 : (3 : Int) < (n : Int) := by omega
  clear h4 hn
  go_enter Tryz.func144, Tryz.ntmps144
  go_wp2
  go_quiet (fail)
  go_wp2
  go_ret
  exact ⟨ret_int (by rw [hrd.out]; exact word_form b0 b1 b2 b3), _, rfl⟩

theorem rd_drop (b : List UInt8) (k : Nat) : Frame.rd (b.drop k) 0 = Frame.rd b k := by
  unfold Frame.rd
  simp only [List.getD_eq_getElem?_getD, List.getElem?_drop]
  congr 3
theorem word_at (A : Option Addr) (b : List UInt8) (c n k m : Nat) (w : World) (hb : RB w 0 A b) (hc : b.length ≤ c) (h4 : k + 4 ≤ b.length) (ll : b.length ≤ 9223372036854775807) (hn : b.length - k = n) (hm : (Frame.rd b k).toNat = m) :
    Calls Tryz.prog 144 #[.slice (cutA A c k) n (c - k)] w fun e w' => e = .returned (.int .u32 (m : Int)) ∧ ∃ n, w' = w.drewN n := by
  have := word_any (cutA A c k) (b.drop k) (c - k) w (hb.cut k c hc) (by simp; omega) (by simp; omega)
  rw [rd_drop, hm, List.length_drop, hn] at this
  exact this
theorem w4_form (x : BitVec 32) : ((Crc.byteAt x 0).toNat : Int) = (x.toNat : Int) % 256 ∧ ((Crc.byteAt x 1).toNat : Int) = (x.toNat : Int) / 256 % 256 ∧
    ((Crc.byteAt x 2).toNat : Int) = (x.toNat : Int) / 65536 % 256 ∧ ((Crc.byteAt x 3).toNat : Int) = (x.toNat : Int) / 16777216 := by
  have := x.isLt
  unfold Crc.byteAt
  simp only [UInt8.toNat_ofNat', BitVec.toNat_ushiftRight, Nat.shiftRight_eq_div_pow]
  omega
theorem putWord_any (A : Option Addr) (l : List UInt8) (c : Nat) (x : BitVec 32) (v : Int) (hv : v = (x.toNat : Int)) (lo : Nat) (w : World) (o : OR 5 lo w A c l) (hlo : lo ≤ w.heap.size) (ll : l.length ≤ 1000000) :
    Calls Tryz.prog 130 #[.slice A l.length c, .int .u32 v] w fun e w' => ∃ g c' L, Hid (L = l ++ Frame.w4 x) ∧ e = .returned (.slice (some ⟨g, 0, none⟩) L.length c') ∧ OR 5 lo w' (some ⟨g, 0, none⟩) c' L ∧
      w.grownBy w' (A.map (·.block)) ∧ (A.map (·.block) = some g ∨ w.heap.size ≤ g) := by
  subst hv
  obtain ⟨k0, k1, k2, k3⟩ := w4_form x
  go_enter Tryz.func130, Tryz.ntmps130
  go_wp2_with ((at_builtin
                refine listApp4 (m := Frame.w4 x) (fr := (0, 0)) rfl _ _ rfl rfl rfl (OR.alloc o _) (by simp; omega) (by unfold Frame.w4; simp only [List.map_cons, List.map_nil, cb, k0, k1, k2, k3]; (repeat (first | exact new_plain wnA | with_reducible refine old_alloc ?_ | with_reducible refine old_drew ?_ | with_reducible refine old_set ?_ wnA | with_reducible refine old_ab (by assumption) ?_))) (by simp) (by simp; omega) ?_
                intro g c' w1 L hL o1 g1 f1))
  go_ret
  exact ⟨g, c', L, hL, rfl, o1, grown_alloc g1, f1.imp id (fun h => by simp at h; omega)⟩

theorem map_blk {A : Option Addr} {g : Nat} (h : A.map (·.block) = some g) : ∃ a, A = some a ∧ a.block = g := by
  cases A with
  | none => cases h
  | some a => exact ⟨a, rfl, by simpa using h⟩
theorem blk_ne {A : Option Addr} {g n m : Nat} (hA : ∀ a, A = some a → a.block < n) (h : A.map (·.block) = some g ∨ m ≤ g) (hm : n < m) : g ≠ n := by
  rcases h with h | h
  · obtain ⟨a, ha, rfl⟩ := map_blk h
    have := hA a ha; omega
  · omega
/-- What put does to its first argument, a row of the call's own. -/
def PutTo (lo : Nat) (W : World) (l : List UInt8) (r : Frame.Rec) (e : Ending) (w' : World) : Prop :=
  ∃ A' c' L, Hid (L = l ++ Frame.enc r) ∧ e = .returned (.slice A' L.length c') ∧ OR 5 lo w' A' c' L ∧ Ab W w'

end Go.Proofs.YthgcfjhnnhigoaaGreat

/- put, walked. Own work. -/
namespace Go.Proofs.YthgcfjhnnhigoaaGreat
open Go.RowKit

set_option maxHeartbeats 400000 in
theorem put_any (A : Option Addr) (l : List UInt8) (c : Nat) (num : Int) (B : Option Addr) (d : List UInt8) (cd : Nat) (hv : Frame.Valid ⟨num, d⟩) (lo : Nat) (W w : World) (o : OR 5 lo w A c l) (hlo : lo ≤ w.heap.size)
    (hW : Ab W w) (hWlo : W.heap.size ≤ lo) (hd : RB W 0 B d) (hcd : d.length ≤ cd) (ll : l.length ≤ 100000) :
    Calls Tryz.prog 112 #[.slice A l.length c, .agg #[.int .i64 num, .slice B d.length cd]] w (PutTo lo W l ⟨num, d⟩) := by
  obtain ⟨v1, v2, v3⟩ := hv
  simp only at v1 v2 v3
  have n1 : Hid ((d.length : Int) = ((BitVec.ofNat 32 d.length).toNat : Int)) := by unfold Hid; rw [BitVec.toNat_ofNat]; omega
  have n2 : Hid (num = ((BitVec.ofNat 32 num.toNat).toNat : Int)) := by unfold Hid; rw [BitVec.toNat_ofNat]; omega
  have hA := o.rng
  go_enter Tryz.func112, Tryz.ntmps112
  go_wp2_with fail
  have o0 : OR 5 lo (w.alloc (.cells #[.int .i64 num, .slice B d.length cd] 108)) A c l := OR.alloc o _
  have h0 : lo ≤ (w.alloc (.cells #[.int .i64 num, .slice B d.length cd] 108)).heap.size := by simp; omega
  refine (putWord_any A l c (BitVec.ofNat 32 d.length) _ n1.out lo _ o0 h0 (by omega)).mono ?_
  rintro e w1 ⟨g1, c1, L1, e1, rfl, o1, gr1, k1⟩
  have hg1 := blk_ne (n := w.heap.size) (fun a h => (hA a h).2) k1 (by simp)
  have b1 : Ab W w1 := grown_ab (hW.alloc _) gr1 (fun g hg => by obtain ⟨a, ha, rfl⟩ := map_blk hg; have := (hA a ha).1; omega)
  have q1 := grown_cell (b := w.heap.size) (o := 0) (v := .int .i64 num) gr1 (by simp [go_sem]) (fun a h => by have := (hA a h).2; omega)
  have q2 := grown_cell (b := w.heap.size) (o := 1) (v := .slice B d.length cd) gr1 (by simp [go_sem]) (fun a h => by have := (hA a h).2; omega)
  have z1 := cell_lt q1
  have l1 : Hid (L1.length = l.length + 4) := by unfold Hid; rw [e1.out]; simp
  have l1' := Nat.le_of_eq l1.out
  go_wp2_with fail
  refine (putWord_any _ L1 c1 (BitVec.ofNat 32 num.toNat) _ n2.out lo _ o1 (by have := (o1.rng _ rfl); omega) (by omega)).mono ?_
  rintro e w2 ⟨g2, c2, L2, e2, rfl, o2, gr2, k2⟩
  have hg2 : g2 ≠ w.heap.size := by
    rcases k2 with k2 | k2
    · have : g1 = g2 := by simpa using k2
      omega
    · omega
  have b2 : Ab W w2 := grown_ab b1 gr2 (fun g hg => by have : g1 = g := by simpa using hg
                                                       have := (o1.rng _ rfl).1; simp at this; omega)
  have r1 := grown_cell (b := w.heap.size) (o := 0) (v := .int .i64 num) gr2 q1 (fun a h => by obtain rfl := Option.some.inj h; exact hg1)
  have r2 := grown_cell (b := w.heap.size) (o := 1) (v := .slice B d.length cd) gr2 q2 (fun a h => by obtain rfl := Option.some.inj h; exact hg1)
  have l2 : Hid (L2.length = l.length + 8) := by unfold Hid; rw [e2.out, List.length_append, l1.out]; simp
  have hh : L2.drop l.length = Frame.head ⟨num, d⟩ := by rw [e2.out, e1.out, List.append_assoc, List.drop_left' rfl]; rfl
  have hh2 : L2 = l ++ Frame.head ⟨num, d⟩ := by rw [e2.out, e1.out, List.append_assoc]; rfl
  have HH := Lib.hid hh2
  have hrb : RB w2 0 (cutA (some ⟨g2, 0, none⟩) c2 l.length) (Frame.head ⟨num, d⟩) := by rw [← hh]; exact (o2.rb.cut l.length c2 o2.le).zero
  have hle := o2.le
  have l2' := Nat.le_of_eq l2.out
  have l2'' := Nat.le_of_eq l2.out.symm
  have n8 : L2.length - l.length = 8 := by omega
  have hsl := fun w => run_cut l.length .i64 (some ⟨g2, 0, none⟩) L2.length c2 w (by omega)
  simp only [n8] at hsl
  have z2 := cell_lt r1
  have bd2 := hd.ab b2
  have hlo2 : lo ≤ w2.heap.size := by have := o2.rng _ rfl; omega
  have hGR : ∀ g, (some (⟨g2, 0, none⟩ : Addr)).map (·.block) = some g → W.heap.size ≤ g := fun g hg => by
    have h1 : g2 = g := by simpa using hg
    have h2 : lo ≤ g2 := (o2.rng _ rfl).1
    omega
  have hc8 : 8 ≤ c2 - l.length := by omega
  clear q1 q2 hh hh2 e1 e2 n8 r1 gr1 gr2 k1 k2 o1 b1 hg1 z1 l1 l1' o0 h0 o hA n1 n2

  go_upto_region 4 with fail
  go_cut [0] (fun s0 wx => ∃ g c' L, Hid (L = l ++ Frame.head ⟨num, d⟩ ++ Frame.w4 (Crc.sum (Frame.head ⟨num, d⟩ ++ d))) ∧ s0 = .slice (some ⟨g, 0, none⟩) L.length c' ∧
    OR 5 lo wx (some ⟨g, 0, none⟩) c' L ∧ wx.cell? ⟨w.heap.size, 1, none⟩ = some (.slice B d.length cd) ∧ Ab W wx ∧ lo ≤ wx.heap.size ∧ L.length ≤ 200000)
  case first =>
    go_region_held3 (fun w' => w'.cell? ⟨w.heap.size, 1, none⟩ = some (.slice B d.length cd))
      ((exact ckA))
      ((first
        | (go_at_call 131
           refine (fsum_any _ B (Frame.head ⟨num, d⟩) d _ cd _ (RB.ab hrb abA) hc8 (RB.ab bd2 abA) hcd (by simp) (by omega)).mono ?_
           rintro e w5 ⟨rfl, rfl⟩)
        | (go_at_call 130
           refine (putWord_any _ L2 c2 (Crc.sum (Frame.head ⟨num, d⟩ ++ d)) _ rfl lo _ (show OR 5 lo _ (some ⟨g2, 0, none⟩) c2 L2 from orA) (by simp; omega) (by omega)).mono ?_
           rintro e w5 ⟨g5, c5, L5, e5, rfl, o5, gr5, k5⟩
           have r5 := grown_cell (b := w.heap.size) (o := 1) (v := .slice B d.length cd) gr5 ckA (fun a h => by obtain rfl := Option.some.inj h; exact hg2))))
    all_goals (go_wp2_with fail; go_meet)
    all_goals exact ⟨g5, c5, L5, Lib.hid (by rw [e5.out, HH.out]), rfl, o5, r5, grown_ab (w0 := _) abA gr5 hGR, by have := o5.rng _ rfl; omega, by rw [e5.out, List.length_append]; simp; omega⟩
  obtain ⟨g, c', L, eL, rfl, oL, rL, bL, hL, kL⟩ := hcut
  have bdL := hd.ab bL
  go_wp2_with ((at_builtin
                refine listApp rfl _ _ rfl rfl rfl (m := d) rfl oL hL bdL hcd (by omega) ?_
                intro A9 c9 w9 L9 e9 o9 g9 f9))
  go_ret
  exact ⟨A9, c9, L9, Lib.hid (by rw [e9.out, eL.out]; unfold Frame.enc; simp), rfl, o9, f9 W bL hWlo⟩
end Go.Proofs.YthgcfjhnnhigoaaGreat

/- Size, Encode, walked. Own work. -/
namespace Go.Proofs.YthgcfjhnnhigoaaGreat
open Go.RowKit

def SizeE (r : Frame.Rec) (n er : Int) : Prop := (Frame.Valid r ∧ n = 12 + (r.data.length : Int) ∧ er = 0) ∨ (¬ Frame.Valid r ∧ n = 0 ∧ er = 8)
theorem SizeE.unique {r : Frame.Rec} {n m e f : Int} (h : SizeE r n e) (k : SizeE r m f) : n = m ∧ e = f := by
  rcases h with ⟨h, h1, h2⟩ | ⟨h, h1, h2⟩ <;> rcases k with ⟨k, k1, k2⟩ | ⟨k, k1, k2⟩ <;> first | exact absurd h k | exact absurd k h | (subst h1 h2 k1 k2; exact ⟨rfl, rfl⟩)

theorem fsize_any (num : Int) (B : Option Addr) (d : List UInt8) (cd : Nat) (w : World) :
    Calls Tryz.prog 111 #[.agg #[.int .i64 num, .slice B d.length cd]] w fun e w' => ∃ n er : Int, Hid (SizeE ⟨num, d⟩ n er) ∧ e = .returned (.tuple #[.int .i64 n, .int .i64 er]) ∧ Ab w w' := by
  by_cases h1 : num < 0
  · go_enter Tryz.func111, Tryz.ntmps111
    go_wp2
    go_ret2
    exact ⟨0, 8, Lib.hid (.inr ⟨fun h => by have := h.1; simp only at this; omega, rfl, rfl⟩), rfl, abA⟩
  · by_cases h2 : 1000000000 < num
    · go_enter Tryz.func111, Tryz.ntmps111
      go_wp2
      go_ret2
      exact ⟨0, 8, Lib.hid (.inr ⟨fun h => by have := h.2.1; simp only at this; omega, rfl, rfl⟩), rfl, abA⟩
    · by_cases h3 : 1000 < d.length
      · go_enter Tryz.func111, Tryz.ntmps111
        go_wp2
        go_ret2
        exact ⟨0, 8, Lib.hid (.inr ⟨fun h => by have := h.2.2; simp only at this; omega, rfl, rfl⟩), rfl, abA⟩
      · go_enter Tryz.func111, Tryz.ntmps111
        go_wp2
        go_ret2
        exact ⟨_, 0, Lib.hid (.inl ⟨⟨by simp only; omega, by simp only; omega, by simp only; omega⟩, rfl, rfl⟩), rfl, abA⟩

def EncE (r : Frame.Rec) (L : List UInt8) (er : Int) : Prop := (Frame.Valid r ∧ L = Frame.enc r ∧ er = 0) ∨ (¬ Frame.Valid r ∧ L = [] ∧ er = 8)
theorem EncE.unique {r : Frame.Rec} {L M : List UInt8} {e f : Int} (h : EncE r L e) (k : EncE r M f) : L = M ∧ e = f := by
  rcases h with ⟨h, h1, h2⟩ | ⟨h, h1, h2⟩ <;> rcases k with ⟨k, k1, k2⟩ | ⟨k, k1, k2⟩ <;> first | exact absurd h k | exact absurd k h | (subst h1 h2 k1 k2; exact ⟨rfl, rfl⟩)

set_option maxHeartbeats 800000 in
theorem encode_any (num : Int) (B : Option Addr) (d : List UInt8) (cd : Nat) (w : World) (hd : RB w 0 B d) (hcd : d.length ≤ cd) :
    Calls Tryz.prog 77 #[.agg #[.int .i64 num, .slice B d.length cd]] w fun e w' => ∃ A c L er, Hid (EncE ⟨num, d⟩ L er) ∧ e = .returned (.tuple #[.slice A L.length c, .int .i64 er]) ∧
      OR 5 w.heap.size w' A c L ∧ Ab w w' := by
  go_enter Tryz.func77, Tryz.ntmps77
  go_wp2_with fail
  refine (fsize_any num B d cd _).mono ?_
  rintro e w1 ⟨n, er, hS, rfl, hb1⟩
  have q0 := hb1.at (p := ⟨w.heap.size, 0, none⟩) (v := .int .i64 num) (by simp [go_sem])
  have q1 := hb1.at (p := ⟨w.heap.size, 1, none⟩) (v := .slice B d.length cd) (by simp [go_sem])
  have z1 := cell_lt q0
  rcases hS.out with ⟨hv, rfl, rfl⟩ | ⟨hv, rfl, rfl⟩
  · have hl : d.length ≤ 1000 := hv.2.2
    have HV := Lib.hid hv
    obtain ⟨Z, hZ, HZ⟩ := make_room (12 + d.length) (by omega) (12 + (d.length : Int)) (by omega)
    clear hS hv
    have b1 : Ab w w1 := abA
    clear hb1
    go_wp2_with fail
    go_region_held3 (fun w' => w'.cell? ⟨w.heap.size, 0, none⟩ = some (.int .i64 num) ∧ w'.cell? ⟨w.heap.size, 1, none⟩ = some (.slice B d.length cd))
      (exact ⟨ckA, ckA⟩)
      ((go_at_call 112
        refine (put_any (some ⟨w1.heap.size, 0, none⟩) [] (12 + d.length) num B d cd HV.out w1.heap.size w1 _ (HZ.out _ _ _ (Nat.le_refl _) (by (repeat (first | exact new_plain wnA | with_reducible refine old_alloc ?_ | with_reducible refine old_drew ?_ | with_reducible refine old_set ?_ wnA | with_reducible refine old_ab (by assumption) ?_)))) (by simp) abA (Nat.le_refl _) (hd.ab b1) hcd (by simp)).mono ?_
        rintro e w5 ⟨A5, c5, L5, e5, rfl, o5, b5⟩))
    all_goals go_wp2
    all_goals go_ret2
    all_goals exact ⟨A5, c5, L5, 0, Lib.hid (.inl ⟨HV.out, e5.out, rfl⟩), rfl, OR.mono (lo := w1.heap.size) orA (by omega), abA⟩
  · go_wp2
    go_ret2
    exact ⟨none, 0, [], 8, Lib.hid (.inr ⟨hv, rfl, rfl⟩), rfl, OR.none_, abA⟩
end Go.Proofs.YthgcfjhnnhigoaaGreat

/- get, walked. Own work. -/
namespace Go.Proofs.YthgcfjhnnhigoaaGreat
open Go.RowKit

theorem clone_any (A : Option Addr) (l : List UInt8) (c : Nat) (w : World) (h : RB w 0 A l) (hc : l.length ≤ c) (ll : l.length ≤ 1000000) :
    Calls Tryz.prog 145 #[.slice A l.length c] w fun e w' => ∃ A' c' L, Hid (L = l) ∧ e = .returned (.slice A' L.length c') ∧ OR 5 w.heap.size w' A' c' L ∧ Ab w w' := by
  cases A with
  | none =>
    have hl : l = [] := List.eq_nil_of_length_eq_zero (by rcases Nat.eq_zero_or_pos l.length with h0 | h0; exact h0; obtain ⟨a, ha, _⟩ := h h0; cases ha)
    subst hl
    have hq := fun w => run_eql_slice_nil (P := Tryz.prog) w 22 5 none 0 c Tryz.underlying22
    simp at hq
    go_enter Tryz.func145, Tryz.ntmps145
    go_wp2
    go_ret
    exact ⟨none, 0, [], Lib.hid rfl, rfl, OR.none_, Ab.refl _⟩
  | some ad =>
    have hq := fun w => run_eql_slice_nil (P := Tryz.prog) w 22 5 (some ad) l.length c Tryz.underlying22
    simp at hq
    go_enter Tryz.func145, Tryz.ntmps145
    go_wp2_with ((at_builtin
                  refine listLit rfl _ _ rfl rfl rfl (m := l) rfl (by (repeat (first | exact new_plain wnA | with_reducible refine old_alloc ?_ | with_reducible refine old_drew ?_ | with_reducible refine old_set ?_ wnA | with_reducible refine old_ab (by assumption) ?_))) (RB.ab h abA) hc (by omega) ?_
                  intro A1 c1 w1 L1 e1 a1 o1
                  have p1 := o1 w.heap.size (by omega) (by simp)
                  have b1 : Ab w w1 := abA))
    go_ret
    exact ⟨A1, c1, L1, e1, rfl, p1, b1⟩

def GotRec (w : World) (b : List UInt8) (e : Ending) (w' : World) : Prop := ∃ (x : RecM) (ok : Bool), e = .returned (.tuple #[.agg #[.int .i64 x.num, .slice x.A x.b.length x.c], .bool ok]) ∧
  Hid (ok = true → Frame.Pre x.r b) ∧ Hid (ok = false → ∀ r, ¬ Frame.Pre r b) ∧ Laid w' w.heap.size x ∧ Ab w w' ∧ x.b.length ≤ 1000
theorem GotRec.no {w w' : World} {b : List UInt8} {e : Ending} (he : e = .returned (.tuple #[.agg #[.int .i64 0, .slice none 0 0], .bool false])) (h : ∀ r, ¬ Frame.Pre r b) (hb : Ab w w') : GotRec w b e w' :=
  ⟨⟨0, none, 0, []⟩, false, he, Lib.hid (fun h => by cases h), Lib.hid (fun _ => h), ⟨RB.nil, Nat.le_refl _, by simp⟩, hb, by simp⟩

attribute [local irreducible] cutA
set_option maxHeartbeats 400000 in
set_option maxRecDepth 100000 in
theorem get_any (A : Option Addr) (b : List UInt8) (c : Nat) (w : World) (hb : RB w 0 A b) (hc : b.length ≤ c) (lb : b.length ≤ 20000) :
    Calls Tryz.prog 137 #[.slice A b.length c] w (GotRec w b) := by
  by_cases h12 : b.length < 12
  · go_enter Tryz.func137, Tryz.ntmps137
    go_wp2
    refine bodyPost_ret (v := .tuple #[.agg #[.int .i64 0, .slice none 0 0], .bool false]) (by simp [results, Tryz.results137, go_sem]) rfl ?_
    exact GotRec.no rfl (Frame.no_short h12) abA
  · have hc12 : 12 ≤ b.length := by omega
    have hs0 : ∀ w, (Instr.slice 22 (.slice A (b.length) c) (some (.int .i64 0)) none none).run Tryz.prog w = .ok (.slice (cutA A c 0) (b.length - 0) (c - 0)) w := fun w => run_cut 0 .i64 A (b.length) c w (by omega)
    have hs4 : ∀ w, (Instr.slice 22 (.slice A (b.length) c) (some (.int .i64 4)) none none).run Tryz.prog w = .ok (.slice (cutA A c 4) (b.length - 4) (c - 4)) w := fun w => run_cut 4 .i64 A (b.length) c w (by omega)
    have hs8 : ∀ w, (Instr.slice 22 (.slice A (b.length) c) (some (.int .i64 8)) none none).run Tryz.prog w = .ok (.slice (cutA A c 8) (b.length - 8) (c - 8)) w := fun w => run_cut 8 .i64 A (b.length) c w (by omega)
    simp only [Nat.sub_zero] at hs0
    generalize hn0 : (Frame.rd b 0).toNat = n0
    generalize hn4 : (Frame.rd b 4).toNat = n4
    generalize hn8 : (Frame.rd b 8).toNat = n8
    have l0 : n0 ≤ 4294967295 := by have := (Frame.rd b 0).isLt; omega
    have l4 : n4 ≤ 4294967295 := by have := (Frame.rd b 4).isLt; omega
    have N0 := Lib.hid hn0
    have N4 := Lib.hid hn4
    have N8 := Lib.hid hn8
    clear hn0 hn4 hn8
    have W0 : ∀ w', Ab w w' → Calls Tryz.prog 144 #[.slice (cutA A c 0) b.length c] w' (fun e w'' => e = .returned (.int .u32 (n0 : Int)) ∧ ∃ n, w'' = w'.drewN n) := fun w' h => word_at A b c b.length 0 n0 w' (hb.ab h) hc (by omega) (by omega) (by omega) N0.out
    have W4 : ∀ w', Ab w w' → Calls Tryz.prog 144 #[.slice (cutA A c 4) (b.length - 4) (c - 4)] w' (fun e w'' => e = .returned (.int .u32 (n4 : Int)) ∧ ∃ n, w'' = w'.drewN n) := fun w' h => word_at A b c (b.length - 4) 4 n4 w' (hb.ab h) hc (by omega) (by omega) (by omega) N4.out
    have W8 : ∀ w', Ab w w' → Calls Tryz.prog 144 #[.slice (cutA A c 8) (b.length - 8) (c - 8)] w' (fun e w'' => e = .returned (.int .u32 (n8 : Int)) ∧ ∃ n, w'' = w'.drewN n) := fun w' h => word_at A b c (b.length - 8) 8 n8 w' (hb.ab h) hc (by omega) (by omega) (by omega) N8.out
    go_enter Tryz.func137, Tryz.ntmps137
    go_wp2
    go_quiet ((go_at_call 144
               first
               | with_reducible exact Calls.quiet_of (W0 _ abA)
               | with_reducible exact Calls.quiet_of (W4 _ abA)))
    have hq : Ab (w.alloc (.cells #[.int .i64 0, .slice none 0 0] 108)) ((w.alloc (.cells #[.int .i64 0, .slice none 0 0] 108)).drewN nq) := abA
    generalize ((w.alloc (.cells #[.int .i64 0, .slice none 0 0] 108)).drewN nq) = wq at *
    have zq0 := hq.at (p := ⟨w.heap.size, 0, none⟩) (v := .int .i64 0) (by simp [go_sem]); have zq1 := hq.at (p := ⟨w.heap.size, 1, none⟩) (v := .slice none 0 0) (by simp [go_sem])
    have zr0 : wq.frozen? ⟨w.heap.size, 0, none⟩ = false := (hq.frozen (p := ⟨w.heap.size, 0, none⟩) (by simp)).trans (by simp [go_sem]); have zr1 : wq.frozen? ⟨w.heap.size, 1, none⟩ = false := (hq.frozen (p := ⟨w.heap.size, 1, none⟩) (by simp)).trans (by simp [go_sem])
    have bq : Ab w wq := abA
    clear hq
    by_cases h1 : 1000 < n0
    · go_wp2
      refine bodyPost_ret (v := .tuple #[.agg #[.int .i64 0, .slice none 0 0], .bool false]) (by simp [results, Tryz.results137, go_sem, zq0, zq1, zr0, zr1]) rfl ?_
      exact GotRec.no rfl (Frame.no_len (by rw [N0.out]; exact h1)) abA
    · by_cases h2 : 1000000000 < n4
      · go_wp2
        refine bodyPost_ret (v := .tuple #[.agg #[.int .i64 0, .slice none 0 0], .bool false]) (by simp [results, Tryz.results137, go_sem, zq0, zq1, zr0, zr1]) rfl ?_
        exact GotRec.no rfl (Frame.no_num (by rw [N4.out]; exact h2)) abA
      · by_cases h3 : (b.length : Int) - 12 < (n0 : Int)
        · go_wp2
          refine bodyPost_ret (v := .tuple #[.agg #[.int .i64 0, .slice none 0 0], .bool false]) (by simp [results, Tryz.results137, go_sem, zq0, zq1, zr0, zr1]) rfl ?_
          exact GotRec.no rfl (Frame.no_room (by rw [N0.out]; omega)) abA
        · have h3' : n0 + 12 ≤ b.length := by omega
          have hd12 : ∀ w, (Instr.slice 22 (.slice A b.length c) (some (.int .i64 12)) (some (.int .i64 (12 + (n0 : Int)))) none).run Tryz.prog w = .ok (.slice (cutA A c 12) n0 (c - 12)) w := fun w => by
            have := run_cuts 12 (12 + n0) .i64 .i64 A b.length c w (by omega) (by omega)
            rw [show 12 + n0 - 12 = n0 by omega] at this
            rw [← this]; norm_cast
          have hD0 : RB w 0 (cutA A c 12) ((b.drop 12).take n0) := (hb.cut 12 c hc).take n0
          have hDl : ((b.drop 12).take n0).length = n0 := by simp; omega
          have hH0 : RB w 0 A (b.take 8) := hb.take 8
          have hHl : (b.take 8).length = 8 := by simp; omega
          have HPN := Lib.hid (fun h => Frame.no_sum (b := b) h)
          have HPO := Lib.hid (fun h => Frame.pre_of (b := b) (by rw [N0.out]; omega) (by rw [N4.out]; omega) (by rw [N0.out]; omega) h)
          rw [N0.out] at HPN HPO
          rw [N4.out] at HPO
          generalize (b.drop 12).take n0 = D at *
          generalize b.take 8 = H at *
          have hc8 : (8 : Int) ≤ (c : Int) := by omega
          generalize hms : (Crc.sum (H ++ D)).toNat = ms
          have S0 : ∀ w', Ab w w' → Calls Tryz.prog 131 #[.slice A 8 c, .slice (cutA A c 12) n0 (c - 12)] w' (fun e w'' => e = .returned (.int .u32 (ms : Int)) ∧ w'' = w') := fun w' h => by
            have := fsum_any A (cutA A c 12) H D c (c - 12) w' (hH0.ab h) (by omega) (hD0.ab h) (by omega) (by omega) (by omega)
            rw [hHl, hDl, hms] at this
            exact this.mono fun _ _ k => ⟨k.1, k.2.symm⟩
          have HS : Hid (n8 = ms ↔ Frame.rd b 8 = Crc.sum (H ++ D)) := Lib.hid (by rw [← N8.out, ← hms]; exact BitVec.toNat_inj)
          have MS := Lib.hid hms
          clear hms hH0 hHl
          go_wp2
          go_quiet ((first
                     | (go_at_call 144
                        with_reducible exact Calls.quiet_of (W8 _ abA))
                     | (go_at_call 131
                        with_reducible exact Calls.quiet_of_same (S0 _ abA))))
          have bq2 : Ab wq (wq.drewN nq) := abA
          generalize wq.drewN nq = wr at *
          have zz0 := cell_lt zq0
          replace zq0 := bq2.at zq0
          replace zq1 := bq2.at zq1
          have zz := cell_lt zq0
          replace bq : Ab w wr := bq.trans bq2
          replace zr0 := bq2.fr (p := ⟨w.heap.size, 0, none⟩) zz0 zr0
          replace zr1 := bq2.fr (p := ⟨w.heap.size, 1, none⟩) zz0 zr1
          clear zz0 bq2
          by_cases hsm : n8 = ms
          · have hpre := HPO.out (HS.out.1 hsm)
            have HP := Lib.hid hpre
            have hn1 : n0 ≤ 1000 := by omega
            clear hpre HPO HPN HS MS W0 W4 W8 S0 hs0 hs4 hs8 hd12 N0 N4 N8
            have C0 : ∀ w', Ab w w' → Calls Tryz.prog 145 #[.slice (cutA A c 12) n0 (c - 12)] w' (fun e w'' => ∃ A' c' L, Hid (L = D) ∧ e = .returned (.slice A' L.length c') ∧ OR 5 w'.heap.size w'' A' c' L ∧ Ab w' w'') := fun w' h => by
              have := clone_any (cutA A c 12) D (c - 12) w' (hD0.ab h) (by omega) (by omega)
              rw [hDl] at this
              exact this
            subst hsm
            go_wp2_with fail
            refine (C0 _ abA).mono ?_
            rintro e w5 ⟨A5, c5, L5, e5, rfl, o5, b5⟩
            replace zq0 := b5.at zq0
            replace zq1 := b5.at zq1
            replace zr0 := b5.fr (p := ⟨w.heap.size, 0, none⟩) zz zr0
            replace zr1 := b5.fr (p := ⟨w.heap.size, 1, none⟩) zz zr1
            have l5 : L5.length ≤ 1000 := by rw [e5.out, hDl]; exact hn1
            go_wp2
            refine bodyPost_ret (v := .tuple #[.agg #[.int .i64 n4, .slice A5 L5.length c5], .bool true]) (by simp [results, Tryz.results137, go_sem, zq0, zq1, zr0, zr1]) rfl ?_
            refine ⟨⟨n4, A5, c5, L5⟩, true, rfl, Lib.hid (fun _ => ?_), Lib.hid (fun h => by cases h), ⟨RB.mono (lo := wr.heap.size) (OR.rb (e := 5) (c := c5) orA) (by omega), o5.le, by simp only; omega⟩, abA, l5⟩
            show Frame.Pre ⟨_, L5⟩ b
            rw [e5.out]
            exact HP.out
          · go_wp2
            refine bodyPost_ret (v := .tuple #[.agg #[.int .i64 0, .slice none 0 0], .bool false]) (by simp [results, Tryz.results137, go_sem, zq0, zq1, zr0, zr1]) rfl ?_
            exact GotRec.no rfl (HPN.out (fun h => hsm (HS.out.2 h))) abA
end Go.Proofs.YthgcfjhnnhigoaaGreat

/- Scan, walked. Own work. -/
namespace Go.Proofs.YthgcfjhnnhigoaaGreat
open Go.RowKit

/-- What a scan of b returns. -/
def ScanE (b : List UInt8) (l : List Frame.Rec) (u er : Int) : Prop := (20000 < b.length ∧ l = [] ∧ u = 0 ∧ er = 4) ∨ (b.length ≤ 20000 ∧ er = 0 ∧ ∃ n : Nat, u = n ∧ Frame.IsScan b l n)
theorem ScanE.unique {b : List UInt8} {l m : List Frame.Rec} {u v e f : Int} (h : ScanE b l u e) (k : ScanE b m v f) : l = m ∧ u = v ∧ e = f := by
  rcases h with ⟨h, rfl, rfl, rfl⟩ | ⟨h, rfl, n, rfl, hs⟩ <;> rcases k with ⟨k, rfl, rfl, rfl⟩ | ⟨k, rfl, m, rfl, ks⟩
  · exact ⟨rfl, rfl, rfl⟩
  · omega
  · omega
  · obtain ⟨rfl, rfl⟩ := Frame.scan_unique hs ks
    exact ⟨rfl, rfl, rfl⟩
/-- How far a scan has come. -/
def Along (b : List UInt8) (l : List Frame.Rec) (u : Nat) : Prop := Frame.Foll l ∧ u = (Frame.all l).length ∧ Frame.all l <+: b
theorem Along.nil (b : List UInt8) : Along b [] 0 := ⟨Frame.foll_nil, rfl, List.nil_prefix⟩
theorem Along.le {b : List UInt8} {l : List Frame.Rec} {u : Nat} (h : Along b l u) : u ≤ b.length := by rw [h.2.1]; exact h.2.2.length_le
theorem Along.snoc {b : List UInt8} {l : List Frame.Rec} {u : Nat} {r : Frame.Rec} (h : Along b l u) (hp : Frame.Pre r (b.drop u)) (hn : Frame.Next l r) : Along b (l ++ [r]) (u + (12 + r.data.length)) := by
  refine ⟨Frame.foll_snoc h.1 hp.1 hn, ?_, ?_⟩
  · rw [Frame.all_append, Frame.all_one, List.length_append, Frame.enc_length, ← h.2.1]
  · obtain ⟨t, rfl⟩ := h.2.2
    obtain ⟨s, hs⟩ := hp.2
    rw [h.2.1, List.drop_left' rfl] at hs
    exact ⟨s, by rw [Frame.all_append, Frame.all_one, List.append_assoc, hs]⟩
theorem Along.stop {b : List UInt8} {l : List Frame.Rec} {u : Nat} (h : Along b l u) (hs : ∀ r, Frame.Pre r (b.drop u) → ¬ Frame.Next l r) : Frame.IsScan b l u := ⟨h.1, h.2.1, h.2.2, hs⟩

theorem next_nil (r : Frame.Rec) : Frame.Next [] r := fun h => absurd h (by simp)
theorem next_iff (xs : List RecM) (k : Nat) (h : xs.length = k + 1) (r : Frame.Rec) : Frame.Next (recs xs) r ↔ r.num = (xs[k]'(by omega)).num + 1 := by
  have e : (recs xs)[(recs xs).length - 1]'(by rw [recs_length]; omega) = (xs[k]'(by omega)).r := by
    have : (recs xs).length - 1 = k := by rw [recs_length]; omega
    simp only [this]
    exact recs_get xs k (by omega)
  constructor
  · intro hn
    have := hn (by rw [recs_length]; omega)
    rw [e] at this; exact this
  · intro hr _
    rw [e]; exact hr

set_option maxHeartbeats 1600000 in
theorem scan_any (A : Option Addr) (b : List UInt8) (c : Nat) (w : World) (hb : RB w 0 A b) (hc : b.length ≤ c) (lb : b.length ≤ 9223372036854775807) :
    Calls Tryz.prog 128 #[.slice A b.length c] w fun e w' => ∃ B d xs u er, Hid (ScanE b (recs xs) u er) ∧ e = .returned (.tuple #[.slice B xs.length d, .int .i64 u, .int .i64 er]) ∧
      OwnRecs w.heap.size w' B d xs ∧ Ab w w' := by
  by_cases h20 : 20000 < b.length
  · go_enter Tryz.func128, Tryz.ntmps128
    go_wp2
    go_ret3
    exact ⟨none, 0, [], 0, 4, Lib.hid (.inl ⟨h20, rfl, rfl, rfl⟩), rfl, OwnRecs.nil, abA⟩
  · have hle : b.length ≤ 20000 := by omega
    go_enter Tryz.func128, Tryz.ntmps128
    go_wp2
    go_loopw [5, 6] (fun f t wr => ∃ (B : Option Addr) (d : Nat) (xs : List RecM) (u : Nat), f = .slice B xs.length d ∧ t = .int .i64 u ∧ Hid (Along b (recs xs) u) ∧ OwnRecs w.heap.size wr B d xs ∧ Ab w wr ∧ 12 * xs.length ≤ u) (fun _ t _ => b.length - (intOf t).toNat)
    case atStart => exact ⟨none, 0, [], 0, rfl, rfl, Lib.hid (Along.nil b), OwnRecs.nil, Ab.refl _, Nat.le_refl _⟩
    case round =>
      obtain ⟨B, d, xs, u, rfl, rfl, hA, ho, hb', h12⟩ := hrel
      have hu := hA.out.le
      have hs := fun w => run_cut u .i64 A b.length c w hu
      have G0 : ∀ w', Ab w w' → Calls Tryz.prog 137 #[.slice (cutA A c u) (b.length - u) (c - u)] w' (GotRec w' (b.drop u)) := fun w' h => by
        have := get_any (cutA A c u) (b.drop u) (c - u) w' ((hb.ab h).cut u c hc) (by simp; omega) (by simp; omega)
        rw [List.length_drop] at this
        exact this
      go_wp2_with fail
      refine (G0 _ abA).mono ?_
      rintro e w1 ⟨x, ok, rfl, hP, hN, hL, hb1, hx1⟩
      have HW := ho.ab hb1
      cases ok with
      | false =>
        go_wp2_with fail
        go_quiet (fail)
        go_wp2
        go_ret3
        exact ⟨B, d, xs, u, 0, Lib.hid (.inr ⟨hle, rfl, u, rfl, hA.out.stop (fun r hr => absurd hr (hN.out (by trivial) r))⟩), rfl, HW.ab abA, abA⟩
      | true =>
        have HP := Lib.hid (hP.out (by trivial))
        clear hP hN hs G0
        have hroom : u + (12 + x.b.length) ≤ b.length := by
          have h1 : 12 + x.b.length ≤ (b.drop u).length := (Frame.pre_facts HP.out).1
          rw [List.length_drop] at h1; omega
        have hrg := ho.1.rng
        have hxA : ∀ p q, B = some p → x.A = some q → 0 < x.b.length → q.block ≠ p.block := fun p q hp hq hl => by
          obtain ⟨ad, h1, h2, _⟩ := hL.1 hl
          rw [hq] at h1
          obtain rfl := Option.some.inj h1
          have := (hrg p hp).2
          omega
        have hsz := hb'.size
        have hsz1 := hb1.size
        have hL0 : Laid w1 w.heap.size x := hL.mono hsz
        have hrow : ∀ g, B.map (·.block) = some g → w.heap.size ≤ g := fun g hg => by
          obtain ⟨a, ha, rfl⟩ := map_blk hg
          exact (hrg a ha).1
        have hfar : ∀ a, B = some a → a.block ≠ w1.heap.size := fun a ha => by have := (hrg a ha).2; omega
        go_wp2_with fail
        have hb2 : Ab w1 (w1.alloc (.cells #[.int .i64 x.num, .slice x.A x.b.length x.c] 108)) := abA
        have xq0 : (w1.alloc (.cells #[.int .i64 x.num, .slice x.A x.b.length x.c] 108)).cell? ⟨w1.heap.size, 0, none⟩ = some (.int .i64 x.num) := by simp [go_sem]
        have xq1 : (w1.alloc (.cells #[.int .i64 x.num, .slice x.A x.b.length x.c] 108)).cell? ⟨w1.heap.size, 1, none⟩ = some (.slice x.A x.b.length x.c) := by simp [go_sem]
        generalize (w1.alloc (.cells #[.int .i64 x.num, .slice x.A x.b.length x.c] 108)) = w2 at *
        by_cases hx0 : xs = []
        · have hnext := Lib.hid (show Frame.Next (recs xs) x.r by subst hx0; exact next_nil _)
          have hl0 : xs.length = 0 := by subst hx0; rfl
          go_quiet (fail)
          have hb3 : Ab w2 (w2.drewN nq) := abA
          generalize (w2.drewN nq) = w3 at *
          replace xq0 := hb3.at xq0
          replace xq1 := hb3.at xq1
          have hHW := HW.ab (hb2.trans hb3)
          have hLW := hL0.ab (hb2.trans hb3)
          have hbW : Ab w w3 := abA
          have hsz3 := (hb2.trans hb3).size
          go_wp2_with ((at_builtin
                        refine listAppR (x := x) (fr := (0, 0)) rfl _ _ rfl rfl rfl (hHW.ab abA) wnA (by (repeat (first | exact new_plain wnA | with_reducible refine old_alloc ?_ | with_reducible refine old_drew ?_ | with_reducible refine old_set ?_ wnA | with_reducible refine old_ab (by assumption) ?_))) (hLW.ab abA) hxA (by omega) ?_
                        intro g' c' w4 ys hys hown hgr hgk
                        have xr1 := grown_cell (b := w1.heap.size) (o := 1) (v := .slice x.A x.b.length x.c) hgr ckA hfar
                        have hbZ : Ab w w4 := grown_ab (hbW.alloc _) hgr hrow))
          go_roundw
          case rel => exact ⟨some ⟨g', 0, none⟩, c', ys, u + (12 + x.b.length), rfl, by go_num, Lib.hid (by rw [hys.out, recs_append]; exact hA.out.snoc HP.out hnext.out), hown, hbZ, by rw [hys.out, List.length_append]; simp; omega⟩
          case measure => simp only [intOf]; omega
        · obtain ⟨k, hk⟩ : ∃ k, xs.length = k + 1 := ⟨xs.length - 1, by have := List.length_pos_iff.2 hx0; omega⟩
          have hk3 : k < xs.length := by omega
          have hni := Lib.hid (next_iff xs k hk x.r)
          have hvk := (hA.out.1 k (by rw [recs_length]; omega)).1
          rw [recs_get xs k (by omega)] at hvk
          obtain ⟨a, hBa, _, c0, _, _⟩ := (HW.ab hb2).recs.at_ hk3
          have hy1 := hvk.1
          have hy2 := hvk.2.1
          change 0 ≤ xs[k].num at hy1
          change xs[k].num ≤ 1000000000 at hy2
          clear hvk
          generalize xs[k].num = y at *
          have hsum : IntKind.i64.wrap (y + 1) = y + 1 := IntWalk.i64_in _ (by omega)
          have hidx : IntKind.i64.wrap ((xs.length : Int) - 1) = (k : Int) := by rw [IntWalk.i64_in _ (by omega)]; omega
          have hp0 : (0 : Int) < (xs.length : Int) := by omega
          have hp1 : 0 < xs.length := by omega
          have hk1 : (k : Int) < (xs.length : Int) := by omega
          have hk2 : (0 : Int) ≤ (k : Int) := by omega
          have hk' := Nat.le_of_eq hk
          have hkn := Lib.hid hk
          clear hk
          by_cases hnx : x.num = y + 1
          · have hnext := Lib.hid (hni.out.2 hnx)
            subst hBa
            go_quiet (fail)
            clear hsum hidx hnx
            have hb3 : Ab w2 (w2.drewN nq) := abA
            generalize (w2.drewN nq) = w3 at *
            replace xq0 := hb3.at xq0
            replace xq1 := hb3.at xq1
            have hHW := HW.ab (hb2.trans hb3)
            have hLW := hL0.ab (hb2.trans hb3)
            have hbW : Ab w w3 := abA
            have hsz3 := (hb2.trans hb3).size
            go_wp2_with ((at_builtin
                          refine listAppR (x := x) (fr := (0, 0)) rfl _ _ rfl rfl rfl (hHW.ab abA) wnA (by (repeat (first | exact new_plain wnA | with_reducible refine old_alloc ?_ | with_reducible refine old_drew ?_ | with_reducible refine old_set ?_ wnA | with_reducible refine old_ab (by assumption) ?_))) (hLW.ab abA) hxA (by omega) ?_
                          intro g' c' w4 ys hys hown hgr hgk
                          have xr1 := grown_cell (b := w1.heap.size) (o := 1) (v := .slice x.A x.b.length x.c) hgr ckA hfar
                          have hbZ : Ab w w4 := grown_ab (hbW.alloc _) hgr hrow))
            go_roundw
            case rel => exact ⟨some ⟨g', 0, none⟩, c', ys, u + (12 + x.b.length), rfl, by go_num, Lib.hid (by rw [hys.out, recs_append]; exact hA.out.snoc HP.out hnext.out), hown, hbZ, by rw [hys.out, List.length_append]; simp; omega⟩
            case measure => simp only [intOf]; omega
          · have hnn : Hid (¬ Frame.Next (recs xs) x.r) := Lib.hid (fun h => hnx (hni.out.1 h))
            subst hBa
            go_quiet (fail)
            clear hsum hidx
            go_wp2
            go_ret3
            exact ⟨_, d, xs, u, 0, Lib.hid (.inr ⟨hle, rfl, u, rfl, hA.out.stop (fun r hr => by rw [← Frame.pre_unique HP.out hr]; exact hnn.out)⟩), rfl, HW.ab abA, abA⟩
end Go.Proofs.YthgcfjhnnhigoaaGreat

/- All, walked. Own work. -/
namespace Go.Proofs.YthgcfjhnnhigoaaGreat
open Go.RowKit

def AllE (l : List Frame.Rec) (L : List UInt8) (er : Int) : Prop :=
  ((∃ i, ∃ h : i < l.length, ¬ Frame.Valid l[i]) ∧ L = [] ∧ er = 8) ∨
  ((∀ i (h : i < l.length), Frame.Valid l[i]) ∧ 20000 < (Frame.all l).length ∧ L = [] ∧ er = 4) ∨
  ((∀ i (h : i < l.length), Frame.Valid l[i]) ∧ (Frame.all l).length ≤ 20000 ∧ L = Frame.all l ∧ er = 0)
theorem AllE.unique {l : List Frame.Rec} {L M : List UInt8} {e f : Int} (h : AllE l L e) (k : AllE l M f) : L = M ∧ e = f := by
  rcases h with ⟨⟨i, hi, h⟩, h1, h2⟩ | ⟨h, h', h1, h2⟩ | ⟨h, h', h1, h2⟩ <;> rcases k with ⟨⟨j, hj, k⟩, k1, k2⟩ | ⟨k, k', k1, k2⟩ | ⟨k, k', k1, k2⟩ <;>
    first | exact absurd (k i hi) h | exact absurd (h j hj) k | omega | (subst h1 h2 k1 k2; exact ⟨rfl, rfl⟩)
end Go.Proofs.YthgcfjhnnhigoaaGreat
