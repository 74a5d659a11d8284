/- The texts ShFunA, ShFunB, one behind the other. Own work. -/
import Derived.Test.YthfffbpcmlgoiaaGreatDoorCKA
import Derived.Test.YthfffbpcmlgoiaaGreatDoorCKB
import Derived.Deep.RegionHeld3
import Derived.Deep.DeepCutAuto
set_option linter.unusedVariables false
set_option linter.unusedSimpArgs false
/- Turning words, the words of a block, walked. Own work. -/
namespace Go.Proofs.YthfffbpcmlgoiaaGreatDoor
open Go.RowKit

/-- The number of a turn, as RotateLeft32 makes it of -n. -/
theorem left_by (n : Nat) (h1 : 1 ≤ n) (h2 : n ≤ 31) : bits .and .u64 (IntKind.u64.wrap (-(n : Int))) 31 = ((32 - n : Nat) : Int) := by
  have : ∀ n : Fin 32, 1 ≤ n.val → bits .and .u64 (IntKind.u64.wrap (-(n.val : Int))) 31 = ((32 - n.val : Nat) : Int) := by decide +kernel
  exact this ⟨n, by omega⟩ h1
theorem shl_u32 (x : BitVec 32) (k : Nat) : IntKind.u32.wrap ((x.toNat : Int) * 2 ^ k) = ((x <<< k).toNat : Int) := by
  rw [BitVec.toNat_shiftLeft, Nat.shiftLeft_eq]
  have : ((x.toNat * 2 ^ k % 2 ^ 32 : Nat) : Int) = ((x.toNat : Int) * 2 ^ k) % 4294967296 := by
    rw [Int.natCast_emod, Int.natCast_mul, Int.natCast_pow]; rfl
  rw [this]
  generalize (x.toNat : Int) * 2 ^ k = y
  simp [IntKind.wrap, IntKind.bits, IntKind.signed]
theorem rotl_any (x : BitVec 32) (n : Nat) (h1 : 1 ≤ n) (h2 : n ≤ 31) (w : World) :
    Calls Tryz.prog 148 #[.int .u32 (x.toNat : Int), .int .i64 (-(n : Int))] w fun e w' => e = .returned (.int .u32 ((Sha.rotr x n).toNat : Int)) ∧ w = w' := by
  have hL := left_by n h1 h2
  go_enter Tryz.func148, Tryz.ntmps148
  go_wp2
  go_ret
  refine ⟨ret_int ?_, rfl⟩
  have e : 32 - (32 - n) = n := by omega
  have hs := shl_u32 x (32 - n)
  have hw : IntKind.u32.wrap ((x.toNat : Int) * 2 ^ (32 - n)) = (x.toNat : Int) * 2 ^ (32 - n) % 4294967296 := by
    generalize (x.toNat : Int) * 2 ^ (32 - n) = y
    simp [IntKind.wrap, IntKind.bits, IntKind.signed]
  show bits .or .u32 ((x.toNat : Int) * 2 ^ (32 - n) % 4294967296) ((x.toNat : Int) / 2 ^ (32 - (32 - n))) = _
  rw [← hw, hs, e, reg_shr, bx_or, BitVec.or_comm]
  rfl
def turns (x : BitVec 32) (ns : List Nat) : BitVec 32 := ns.foldl (fun s n => s ^^^ Sha.rotr x n) 0#32
theorem turns_take (x : BitVec 32) (ns : List Nat) (k : Nat) (h : k < ns.length) : turns x (ns.take (k + 1)) = turns x (ns.take k) ^^^ Sha.rotr x ns[k] := by
  unfold turns
  rw [List.take_succ_eq_append_getElem h, List.foldl_append]; rfl
theorem turned_any (x : BitVec 32) (g c : Nat) (ns : List Nat) (w : World) (hc : ∀ i (h : i < ns.length), w.cell? ⟨g, i, none⟩ = some (.int .i64 (ns[i] : Int))) (hn : ∀ n ∈ ns, 1 ≤ n ∧ n ≤ 31) (hl : ns.length ≤ 1000) :
    Calls Tryz.prog 138 #[.int .u32 (x.toNat : Int), .slice (some ⟨g, 0, none⟩) ns.length c] w fun e w' => e = .returned (.int .u32 ((turns x ns).toNat : Int)) ∧ w = w' := by
  go_enter Tryz.func138, Tryz.ntmps138
  go_wp2
  go_loop [5, 10] (fun s i => ∃ k : Nat, k ≤ ns.length ∧ i = .int .i64 k ∧ s = .int .u32 ((turns x (ns.take k)).toNat : Int)) (fun _ i => ns.length - (intOf i).toNat)
  case atStart => exact ⟨0, Nat.zero_le _, rfl, rfl⟩
  case round =>
    obtain ⟨k, hk, rfl, rfl⟩ := hrel
    by_cases hlt : k < ns.length
    · have hck := hc k hlt
      have hnk := hn ns[k] (List.getElem_mem hlt)
      have HT := Lib.hid (turns_take x ns k hlt)
      have HB := Lib.hid (fun (a b : BitVec 32) => bx_xor a b)
      clear hc hn
      go_wp2_with fail
      refine (rotl_any x ns[k] hnk.1 hnk.2 _).mono ?_
      rintro e w' ⟨rfl, rfl⟩
      go_wp2
      go_round
      case rel => exact ⟨k + 1, by omega, by go_num, by rw [HT.out, ← HB.out]⟩
      case measure => simp [intOf]; omega
    · go_wp2
      go_ret
      obtain rfl : k = ns.length := by omega
      exact ⟨ret_int (by rw [List.take_length]), rfl⟩
theorem or_nat (u v : Nat) (hu : u < 4294967296) (hv : v < 4294967296) : bits .or .u32 (u : Int) (v : Int) = ((u ||| v : Nat) : Int) := by
  rw [reg_lit u hu, reg_lit v hv, bx_or, BitVec.toNat_or]
  congr 1
  simp only [BitVec.toNat_ofNat]
  rw [Nat.mod_eq_of_lt hu, Nat.mod_eq_of_lt hv]
theorem or_int (u v r : Nat) (a b : Int) (hu : u < 4294967296) (hv : v < 4294967296) (ha : a = (u : Int)) (hb : b = (v : Int)) (hr : u ||| v = r) : bits .or .u32 a b = (r : Int) := by
  subst ha hb hr; exact or_nat u v hu hv
theorem or_add (a b i : Nat) (h : b < 2 ^ i) : a * 2 ^ i ||| b = a * 2 ^ i + b := by
  have := Nat.shiftLeft_add_eq_or_of_lt h a
  rw [Nat.shiftLeft_eq] at this
  exact this.symm
theorem word_form (b0 b1 b2 b3 : UInt8) : bits .or .u32 (bits .or .u32 (bits .or .u32 ((b0.toNat : Int) * 16777216) ((b1.toNat : Int) * 65536)) ((b2.toNat : Int) * 256)) (b3.toNat : Int)
    = ((BitVec.ofNat 32 (b0.toNat * 16777216 + b1.toNat * 65536 + b2.toNat * 256 + b3.toNat)).toNat : Int) := by
  have t0 := b0.toNat_lt
  have t1 := b1.toNat_lt
  have t2 := b2.toNat_lt
  have t3 := b3.toNat_lt
  generalize b0.toNat = x0 at *
  generalize b1.toNat = x1 at *
  generalize b2.toNat = x2 at *
  generalize b3.toNat = x3 at *
  have e1 : x0 * 16777216 ||| x1 * 65536 = x0 * 16777216 + x1 * 65536 := or_add x0 (x1 * 65536) 24 (by omega)
  have e2 : (x0 * 16777216 + x1 * 65536) ||| x2 * 256 = x0 * 16777216 + x1 * 65536 + x2 * 256 := by
    have := or_add (x0 * 256 + x1) (x2 * 256) 16 (by omega)
    have e : (x0 * 256 + x1) * 2 ^ 16 = x0 * 16777216 + x1 * 65536 := by omega
    rwa [e] at this
  have e3 : (x0 * 16777216 + x1 * 65536 + x2 * 256) ||| x3 = x0 * 16777216 + x1 * 65536 + x2 * 256 + x3 := by
    have := or_add (x0 * 65536 + x1 * 256 + x2) x3 8 (by omega)
    have e : (x0 * 65536 + x1 * 256 + x2) * 2 ^ 8 = x0 * 16777216 + x1 * 65536 + x2 * 256 := by omega
    rwa [e] at this
  have n1 := or_int (x0 * 16777216) (x1 * 65536) _ ((x0 : Int) * 16777216) ((x1 : Int) * 65536) (by omega) (by omega) (by omega) (by omega) e1
  have n2 := or_int (x0 * 16777216 + x1 * 65536) (x2 * 256) _ _ ((x2 : Int) * 256) (by omega) (by omega) rfl (by omega) e2
  have n3 := or_int (x0 * 16777216 + x1 * 65536 + x2 * 256) x3 _ _ (x3 : Int) (by omega) (by omega) rfl rfl e3
  rw [n1, n2, n3, BitVec.toNat_ofNat, Nat.mod_eq_of_lt (by omega)]
theorem word_any (A : Option Addr) (l : List UInt8) (c : Nat) (w : World) (hb : RB w 0 A l) (h4 : 4 ≤ l.length) (ll : l.length ≤ 9223372036854775807) :
    Calls Tryz.prog 147 #[.slice A l.length c] w fun e w' => e = .returned (.int .u32 ((Sha.word l 0).toNat : Int)) ∧ ∃ n, w' = w.drewN n := by
  obtain ⟨ad, rfl, _, hcell⟩ := hb (by omega)
  obtain ⟨b0, b1, b2, b3, hrd, h0, h1, h2, h3⟩ : ∃ b0 b1 b2 b3 : UInt8, Hid (Sha.word l 0 = BitVec.ofNat 32 (b0.toNat * 16777216 + b1.toNat * 65536 + b2.toNat * 256 + b3.toNat)) ∧ l[0] = b0 ∧ l[1] = b1 ∧ l[2] = b2 ∧ l[3] = b3 := by
    refine ⟨_, _, _, _, ?_, rfl, rfl, rfl, rfl⟩
    unfold Hid Sha.word Sha.u8
    simp only [List.getD_eq_getElem?_getD, Nat.zero_add, Nat.mul_zero]
    rw [List.getElem?_eq_getElem (by omega), List.getElem?_eq_getElem (by omega), List.getElem?_eq_getElem (by omega), List.getElem?_eq_getElem (by omega)]
    rfl
  have c0 : w.cell? ad = some (.int .u8 (b0.toNat : Int)) := h0 ▸ hcell 0 (by omega)
  have c1 : w.cell? ⟨ad.block, ad.off + 1, none⟩ = some (.int .u8 (b1.toNat : Int)) := h1 ▸ hcell 1 (by omega)
  have c2 : w.cell? ⟨ad.block, ad.off + 2, none⟩ = some (.int .u8 (b2.toNat : Int)) := h2 ▸ hcell 2 (by omega)
  have c3 : w.cell? ⟨ad.block, ad.off + 3, none⟩ = some (.int .u8 (b3.toNat : Int)) := h3 ▸ hcell 3 (by omega)
  clear hcell h0 h1 h2 h3
  generalize hn : l.length = n
  rw [hn] at h4 ll
  have i0 : (0 : Int) < (n : Int) := by omega
  have j0 : 0 < n := by omega
  have i1 : (1 : Int) < (n : Int) := by omega
  have i2 : (2 : Int) < (n : Int) := by omega
  have i3 : (3 : Int) < (n : Int) := by omega
  clear h4 hn
  have t0 := b0.toNat_lt
  have t1 := b1.toNat_lt
  have t2 := b2.toNat_lt
  have t3 := b3.toNat_lt
  go_enter Tryz.func147, Tryz.ntmps147
  go_wp2
  go_quiet (fail)
  go_wp2
  go_ret
  refine ⟨ret_int ?_, _, rfl⟩
  rw [hrd.out]
  exact word_form b0 b1 b2 b3
end Go.Proofs.YthfffbpcmlgoiaaGreatDoor

/- The words of a block, walked. Own work. -/
namespace Go.Proofs.YthfffbpcmlgoiaaGreatDoor
open Go.RowKit

def spv (l : List UInt8) (t : Nat) : List Value := (Sha.ws l t).map wv ++ List.replicate (64 - t) (.int .u32 0)
theorem spv_length (l : List UInt8) (t : Nat) (h : t ≤ 64) : (spv l t).length = 64 := by
  unfold spv; simp [Sha.ws_length]; omega
theorem spv_at (l : List UInt8) (t j : Nat) (h : j < t) : (spv l t)[j]? = some (.int .u32 ((Sha.at_ (Sha.ws l t) j).toNat : Int)) := by
  have hj : j < (Sha.ws l t).length := by rw [Sha.ws_length]; exact h
  unfold spv
  rw [List.getElem?_append_left (by simpa using hj), List.getElem?_map]
  unfold Sha.at_
  rw [List.getD_eq_getElem?_getD, List.getElem?_eq_getElem hj]
  rfl
theorem spv_one (l : List UInt8) (t : Nat) : (spv l t).all (·.oneCell') = true := by
  unfold spv
  simp only [List.all_append, List.all_map, List.all_replicate, Bool.and_eq_true]
  refine ⟨List.all_eq_true.2 fun x _ => rfl, ?_⟩
  split <;> rfl
theorem spv_z (l : List UInt8) (t : Nat) (h : t < 64) : (spv l t)[t]? = some (.int .u32 0) := by
  unfold spv
  rw [List.getElem?_append_right (by simp [Sha.ws_length]), List.getElem?_replicate]
  simp [Sha.ws_length]; omega
theorem spv_set (l : List UInt8) (t : Nat) (h : t < 64) (x : BitVec 32) (hx : x = if t < 16 then Sha.word l t else Sha.mix (Sha.ws l t) t) : (spv l t).set t (.int .u32 (x.toNat : Int)) = spv l (t + 1) := by
  subst hx
  unfold spv
  rw [List.set_append_right _ _ (by simp [Sha.ws_length])]
  have e : 64 - t = (64 - (t + 1)) + 1 := by omega
  rw [e, List.replicate_succ]
  simp [Sha.ws_length, Sha.ws, wv]
theorem word_drop (l : List UInt8) (t : Nat) : Sha.word (l.drop (4 * t)) 0 = Sha.word l t := by
  unfold Sha.word Sha.u8
  simp only [List.getD_eq_getElem?_getD, List.getElem?_drop]
  rfl
/-- The variables of spread behind t words. -/
structure Spr (w : World) (l : List UInt8) (t : Nat) (w' : World) : Prop where
  ab : Ab w w'
  v : VB w' (w.heap.size + 1) (spv l t)
  z : VB w' w.heap.size (List.replicate 64 (.int .u32 0))
theorem shr_u32 (x : BitVec 32) (k : Nat) (d : Int) (hd : d = 2 ^ k) : (x.toNat : Int) / d = ((x >>> k).toNat : Int) := by
  subst hd; exact reg_shr x k
theorem Spr.keep {w w1 w2 : World} {l : List UInt8} {t : Nat} (h : Spr w l t w1) (k : Ab w1 w2) : Spr w l t w2 := ⟨h.ab.trans k, h.v.ab k, h.z.ab k⟩
theorem turned2_any (x : BitVec 32) (g : Nat) (a b : Nat) (va vb : Int) (ha : va = (a : Int)) (hb : vb = (b : Int)) (w : World) (T : TypeId) (fr : Nat × Nat) (hg : w.heap[g]? = some (.cells #[.int .i64 va, .int .i64 vb] T fr)) (h1 : 1 ≤ a ∧ a ≤ 31) (h2 : 1 ≤ b ∧ b ≤ 31) :
    Calls Tryz.prog 138 #[.int .u32 (x.toNat : Int), .slice (some ⟨g, 0, none⟩) 2 2] w fun e w' => e = .returned (.int .u32 ((turns x [a, b]).toNat : Int)) ∧ w = w' := by
  subst ha hb
  refine turned_any x g 2 [a, b] w (fun i hi => ?_) (by simp; omega) (by simp)
  have : i = 0 ∨ i = 1 := by simp at hi; omega
  rcases this with rfl | rfl <;> simp [World.cell?, hg]
theorem turned3_any (x : BitVec 32) (g : Nat) (a b c : Nat) (va vb vc : Int) (ha : va = (a : Int)) (hb : vb = (b : Int)) (hc : vc = (c : Int)) (w : World) (T : TypeId) (fr : Nat × Nat) (hg : w.heap[g]? = some (.cells #[.int .i64 va, .int .i64 vb, .int .i64 vc] T fr)) (h1 : 1 ≤ a ∧ a ≤ 31) (h2 : 1 ≤ b ∧ b ≤ 31) (h3 : 1 ≤ c ∧ c ≤ 31) :
    Calls Tryz.prog 138 #[.int .u32 (x.toNat : Int), .slice (some ⟨g, 0, none⟩) 3 3] w fun e w' => e = .returned (.int .u32 ((turns x [a, b, c]).toNat : Int)) ∧ w = w' := by
  subst ha hb hc
  refine turned_any x g 3 [a, b, c] w (fun i hi => ?_) (by simp; omega) (by simp)
  have : i = 0 ∨ i = 1 ∨ i = 2 := by simp at hi; omega
  rcases this with rfl | rfl | rfl <;> simp [World.cell?, hg]
theorem s0_form (x : BitVec 32) : bits .xor .u32 ((turns x [7, 18]).toNat : Int) ((x.toNat : Int) / 8) = ((Sha.s0 x).toNat : Int) := by
  rw [shr_u32 x 3 8 rfl, bx_xor]
  show ((0#32 ^^^ Sha.rotr x 7 ^^^ Sha.rotr x 18 ^^^ x >>> 3).toNat : Int) = _
  rw [BitVec.zero_xor]
  rfl
theorem s1_form (x : BitVec 32) : bits .xor .u32 ((turns x [17, 19]).toNat : Int) ((x.toNat : Int) / 1024) = ((Sha.s1 x).toNat : Int) := by
  rw [shr_u32 x 10 1024 rfl, bx_xor]
  show ((0#32 ^^^ Sha.rotr x 17 ^^^ Sha.rotr x 19 ^^^ x >>> 10).toNat : Int) = _
  rw [BitVec.zero_xor]
  rfl
theorem add_reg (a b : BitVec 32) : ((a.toNat : Int) + (b.toNat : Int)) % 4294967296 = ((a + b).toNat : Int) := by
  rw [BitVec.toNat_add]; omega
set_option maxRecDepth 100000 in
set_option maxHeartbeats 1000000 in
theorem spread_any (A : Option Addr) (l : List UInt8) (c : Nat) (w : World) (hb : RB w 0 A l) (hc : l.length ≤ c) (h4 : l.length = 64) :
    Calls Tryz.prog 137 #[.slice A l.length c] w fun e w' => e = .returned (.agg ((Sha.ws l 64).map wv).toArray) ∧ Ab w w' := by
  have H4 := Lib.hid h4
  obtain ⟨k1, k2⟩ : l.length ≤ 64 ∧ 64 ≤ l.length := by omega
  clear h4
  go_enter Tryz.func137, Tryz.ntmps137
  go_wp2
  go_loopw [7] (fun i w' => ∃ t : Nat, t ≤ 64 ∧ i = .int .i64 t ∧ Spr w l t w') (fun i _ => 64 - (intOf i).toNat)
  case atStart =>
    refine ⟨0, by omega, rfl, abA, ?_, ?_⟩
    · exact VB.box (xs := (List.replicate 64 (Value.int .u32 0)).toArray) (T := 179) (by (repeat (first | exact new_plain wnA | with_reducible refine old_alloc ?_ | with_reducible refine old_drew ?_ | with_reducible refine old_set ?_ wnA | with_reducible refine old_ab (by assumption) ?_)))
    · exact VB.box (xs := (List.replicate 64 (Value.int .u32 0)).toArray) (T := 179) (by (repeat (first | exact new_plain wnA | with_reducible refine old_alloc ?_ | with_reducible refine old_drew ?_ | with_reducible refine old_set ?_ wnA | with_reducible refine old_ab (by assumption) ?_)))
  case round =>
    obtain ⟨t, ht, rfl, hS⟩ := hrel
    rename World => w1
    by_cases hlt : t < 64
    · have hab := hS.ab
      have zt := hS.v.at t (spv_z l t hlt)
      have zg := hS.v.g t
      have hT1 : (t : Int) < 64 := by omega
      by_cases h16 : t < 16
      · have HC : ∀ w, (Instr.slice 24 (.slice A l.length c) (some (.int .i64 (4 * (t : Int)))) none none).run Tryz.prog w = .ok (.slice (cutA A c (4 * t)) (l.length - 4 * t) (c - 4 * t)) w := fun w => by
          have := run_cut (4 * t) .i64 A l.length c w (by omega)
          have e : ((4 * t : Nat) : Int) = 4 * (t : Int) := by omega
          rwa [e] at this
        have HW : Calls Tryz.prog 147 #[.slice (cutA A c (4 * t)) (l.length - 4 * t) (c - 4 * t)] w1 fun e w' => e = .returned (.int .u32 ((Sha.word l t).toNat : Int)) ∧ ∃ n, w' = w1.drewN n := by
          have := word_any (cutA A c (4 * t)) (l.drop (4 * t)) (c - 4 * t) w1 ((hb.ab hab).cut _ _ hc) (by simp; omega) (by simp; omega)
          rwa [List.length_drop, word_drop] at this
        have hT2 : (t : Int) < 16 := by omega
        go_wp2_with fail
        refine HW.mono ?_
        rintro e w2 ⟨rfl, n2, rfl⟩
        go_wp2
        go_roundw
        case rel => exact ⟨t + 1, by omega, by go_num, abA, by rw [← spv_set l t hlt _ (if_pos h16).symm]; exact (hS.v.ab (Ab.refl _ |>.drewN n2)).set t (by rw [spv_length l t ht]; exact hlt) _, (hS.z.ab (Ab.refl _ |>.drewN n2)).other (by simp) _⟩
        case measure => simp [intOf]; omega
      · have hT2 : ¬ (t : Int) < 16 := by omega
        have m1 : 16 ≤ (t : Int) := by omega
        have c15 := hS.v.at (t - 15) (spv_at l t (t - 15) (by omega))
        have c2 := hS.v.at (t - 2) (spv_at l t (t - 2) (by omega))
        have c16 := hS.v.at (t - 16) (spv_at l t (t - 16) (by omega))
        have c7 := hS.v.at (t - 7) (spv_at l t (t - 7) (by omega))
        have HX := Lib.hid (show Sha.at_ (Sha.ws l t) (t - 16) + Sha.at_ (Sha.ws l t) (t - 7) + Sha.s0 (Sha.at_ (Sha.ws l t) (t - 15)) + Sha.s1 (Sha.at_ (Sha.ws l t) (t - 2)) = if t < 16 then Sha.word l t else Sha.mix (Sha.ws l t) t from (if_neg h16).symm)
        generalize Sha.at_ (Sha.ws l t) (t - 15) = x15 at *
        generalize Sha.at_ (Sha.ws l t) (t - 2) = x2 at *
        generalize Sha.at_ (Sha.ws l t) (t - 16) = x16 at *
        generalize Sha.at_ (Sha.ws l t) (t - 7) = x7 at *
        have j15 : IntKind.i64.wrap ((t : Int) - 15) = (t : Int) - 15 := IntWalk.i64_in _ (by omega)
        have j2 : IntKind.i64.wrap ((t : Int) - 2) = (t : Int) - 2 := IntWalk.i64_in _ (by omega)
        have j16 : IntKind.i64.wrap ((t : Int) - 16) = (t : Int) - 16 := IntWalk.i64_in _ (by omega)
        have j7 : IntKind.i64.wrap ((t : Int) - 7) = (t : Int) - 7 := IntWalk.i64_in _ (by omega)
        have n15 : ((t : Int) - 15).toNat = t - 15 := by omega
        have n2 : ((t : Int) - 2).toNat = t - 2 := by omega
        have n16 : ((t : Int) - 16).toNat = t - 16 := by omega
        have n7 : ((t : Int) - 7).toNat = t - 7 := by omega
        have l15 : (t : Int) - 15 < 64 := by omega
        have l2 : (t : Int) - 2 < 64 := by omega
        have l16 : (t : Int) - 16 < 64 := by omega
        have l7 : (t : Int) - 7 < 64 := by omega
        have g15 : 0 ≤ (t : Int) - 15 := by omega
        have g2 : 0 ≤ (t : Int) - 2 := by omega
        have g16 : 0 ≤ (t : Int) - 16 := by omega
        have g7 : 0 ≤ (t : Int) - 7 := by omega
        have p15 : 15 ≤ (t : Int) := by omega
        have p2 : 2 ≤ (t : Int) := by omega
        have p7 : 7 ≤ (t : Int) := by omega
        go_upto_region 7 with fail
        go_cut [5] (fun s wx => s = .int .u32 ((Sha.s0 x15).toNat : Int) ∧ Ab w1 wx)
        case first =>
          go_region_held3 (fun w' => w'.cell? ⟨w.heap.size + 1, t - 15, none⟩ = some (.int .u32 (x15.toNat : Int)))
            ((exact ckA))
            ((go_at_call 138
              refine (turned2_any x15 _ 7 18 7 18 rfl rfl _ _ (0, 0) (by (repeat (first | exact new_plain wnA | with_reducible refine old_alloc ?_ | with_reducible refine old_drew ?_ | with_reducible refine old_set ?_ wnA | with_reducible refine old_ab (by assumption) ?_))) (by omega) (by omega)).mono ?_
              rintro e w5 ⟨rfl, rfl⟩))
          all_goals (go_wp2_with fail; go_meet)
          all_goals exact ⟨by rw [s0_form], abA⟩
        obtain ⟨rfl, hb1⟩ := hcut
        rename World => w2
        replace c2 := hb1.at c2
        go_upto_region 8 with fail
        go_cut [6] (fun s wx => s = .int .u32 ((Sha.s1 x2).toNat : Int) ∧ Ab w2 wx)
        case first =>
          go_region_held3 (fun w' => w'.cell? ⟨w.heap.size + 1, t - 2, none⟩ = some (.int .u32 (x2.toNat : Int)))
            ((exact ckA))
            ((go_at_call 138
              refine (turned2_any x2 _ 17 19 17 19 rfl rfl _ _ (0, 0) (by (repeat (first | exact new_plain wnA | with_reducible refine old_alloc ?_ | with_reducible refine old_drew ?_ | with_reducible refine old_set ?_ wnA | with_reducible refine old_ab (by assumption) ?_))) (by omega) (by omega)).mono ?_
              rintro e w5 ⟨rfl, rfl⟩))
          all_goals (go_wp2_with fail; go_meet)
          all_goals exact ⟨by rw [s1_form], abA⟩
        obtain ⟨rfl, hb2⟩ := hcut
        rename World => w3
        have hS3 := hS.keep (hb1.trans hb2)
        replace zt := hS3.v.at t (spv_z l t hlt)
        replace zg := hS3.v.g t
        replace c16 := hb2.at (hb1.at c16)
        replace c7 := hb2.at (hb1.at c7)
        clear c15 c2 hb1 hb2
        go_upto_region 9 with fail
        refine wp_region_held_drew (by kernel_rfl) (S := fun w' => w'.cell? ⟨w.heap.size + 1, t - 16, none⟩ = some (.int .u32 (x16.toNat : Int)) ∧ w'.cell? ⟨w.heap.size + 1, t - 7, none⟩ = some (.int .u32 (x7.toNat : Int))) ?_ (fun hHeld => ?_)
        · exact ⟨cell_drew c16, cell_drew c7⟩
        (refine rtA 0 ?_ ?_
         (try simp only [Act.put, stA, st0, st1]))
        (refine rtA 1 ?_ ?_
         (try simp only [Act.put, stA, st0, st1]))
        (refine rtA 2 ?_ ?_
         (try simp only [Act.put, stA, st0, st1]))
        (refine rtA 3 ?_ ?_
         (try simp only [Act.put, stA, st0, st1]))
        (refine rtA 4 ?_ ?_
         (try simp only [Act.put, stA, st0, st1]))
        (refine rtA 5 ?_ ?_
         (try simp only [Act.put, stA, st0, st1]))
        (refine rtA 6 ?_ ?_
         (try simp only [Act.put, stA, st0, st1]))
        (refine rtA 7 ?_ ?_
         (try simp only [Act.put, stA, st0, st1]))
        (refine rtA 8 ?_ ?_
         (try simp only [Act.put, stA, st0, st1]))
        (refine rtA 9 ?_ ?_
         (try simp only [Act.put, stA, st0, st1]))
        (refine rtA 10 ?_ ?_
         (try simp only [Act.put, stA, st0, st1]))
        (refine rtA 11 ?_ ?_
         (try simp only [Act.put, stA, st0, st1]))
        (refine rtA 12 ?_ ?_
         (try simp only [Act.put, stA, st0, st1]))
        (refine rtA 13 ?_ ?_
         (try simp only [Act.put, stA, st0, st1]))
        (refine rtA 14 ?_ ?_
         (try simp only [Act.put, stA, st0, st1]))
        refine r1A 15 (fun K hK => ?_)
        (go_simp
         (refine hK.out _ _ ?_ (fun hHeld => ?_)
          · (try dsimp only); exact ⟨cell_set (cell_drew c16) wnA, cell_set (cell_drew c7) wnA⟩
          clear hK K
          (try simp only [Act.put, stA, st0, st1])))
        refine wpAnyH_done (by kernel_rfl) ?_ _
        go_wp2
        rw [add_reg, add_reg, add_reg]
        go_roundw
        case rel => exact ⟨t + 1, by omega, by go_num, (hS3.ab.set (by simp) _).drew, by rw [← spv_set l t hlt _ HX.out]; exact (hS3.v.set t (by rw [spv_length l t ht]; exact hlt) _).ab ((Ab.refl _).drew), (hS3.z.other (by simp) _).ab ((Ab.refl _).drew)⟩
        case measure => simp [intOf]; omega
    · have ht64 : t = 64 := by omega
      have e64 := spv_length l t (by omega)
      have hT1 : ¬ (t : Int) < 64 := by omega
      have HE := Lib.hid ht64
      clear ht64
      go_wp2_with (first
        | (refine list_ldV _ info64 Tryz.underlying179 rfl rfl _ rfl rfl hS.v e64 ?_)
        | (refine list_stV _ info64 rfl _ _ rfl rfl rfl hS.z (by rw [e64]; rfl) e64 (spv_one l t) ?_
           intro w9 h9))
      refine bodyPost_ret (res_V1 _ info64 Tryz.underlying179 rfl Tryz.results137 _ rfl h9.v e64) rfl ?_
      refine ⟨?_, h9.ab _ hS.ab (Nat.le_refl _)⟩
      rw [HE.out]
      unfold spv
      simp
end Go.Proofs.YthfffbpcmlgoiaaGreatDoor
