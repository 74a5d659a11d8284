/- SHA-256: words, blocks, paddings, digests as lists of bytes. Own work. -/
set_option linter.unusedVariables false
namespace Go.Proofs.Ytjgijpfknhfnjaa
namespace Sha
def K : List (BitVec 32) := [0x428a2f98#32, 0x71374491#32, 0xb5c0fbcf#32, 0xe9b5dba5#32, 0x3956c25b#32, 0x59f111f1#32, 0x923f82a4#32, 0xab1c5ed5#32, 0xd807aa98#32, 0x12835b01#32, 0x243185be#32, 0x550c7dc3#32, 0x72be5d74#32, 0x80deb1fe#32, 0x9bdc06a7#32, 0xc19bf174#32, 0xe49b69c1#32, 0xefbe4786#32, 0x0fc19dc6#32, 0x240ca1cc#32, 0x2de92c6f#32, 0x4a7484aa#32, 0x5cb0a9dc#32, 0x76f988da#32, 0x983e5152#32, 0xa831c66d#32, 0xb00327c8#32, 0xbf597fc7#32, 0xc6e00bf3#32, 0xd5a79147#32, 0x06ca6351#32, 0x14292967#32, 0x27b70a85#32, 0x2e1b2138#32, 0x4d2c6dfc#32, 0x53380d13#32, 0x650a7354#32, 0x766a0abb#32, 0x81c2c92e#32, 0x92722c85#32, 0xa2bfe8a1#32, 0xa81a664b#32, 0xc24b8b70#32, 0xc76c51a3#32, 0xd192e819#32, 0xd6990624#32, 0xf40e3585#32, 0x106aa070#32, 0x19a4c116#32, 0x1e376c08#32, 0x2748774c#32, 0x34b0bcb5#32, 0x391c0cb3#32, 0x4ed8aa4a#32, 0x5b9cca4f#32, 0x682e6ff3#32, 0x748f82ee#32, 0x78a5636f#32, 0x84c87814#32, 0x8cc70208#32, 0x90befffa#32, 0xa4506ceb#32, 0xbef9a3f7#32, 0xc67178f2#32]
structure W8 where
  (a b c d e f g z : BitVec 32)
def first : W8 := ⟨0x6a09e667#32, 0xbb67ae85#32, 0x3c6ef372#32, 0xa54ff53a#32, 0x510e527f#32, 0x9b05688c#32, 0x1f83d9ab#32, 0x5be0cd19#32⟩
def rotr (x : BitVec 32) (n : Nat) : BitVec 32 := (x >>> n) ||| (x <<< (32 - n))
def u8 (l : List UInt8) (i : Nat) : Nat := (l.getD i 0).toNat
/-- the t-th word of a block -/
def word (l : List UInt8) (t : Nat) : BitVec 32 := BitVec.ofNat 32 (u8 l (4 * t) * 16777216 + u8 l (4 * t + 1) * 65536 + u8 l (4 * t + 2) * 256 + u8 l (4 * t + 3))
def s0 (x : BitVec 32) : BitVec 32 := rotr x 7 ^^^ rotr x 18 ^^^ (x >>> 3)
def s1 (x : BitVec 32) : BitVec 32 := rotr x 17 ^^^ rotr x 19 ^^^ (x >>> 10)
def at_ (w : List (BitVec 32)) (t : Nat) : BitVec 32 := w.getD t 0#32
/-- the word behind t words -/
def mix (w : List (BitVec 32)) (t : Nat) : BitVec 32 := at_ w (t - 16) + at_ w (t - 7) + s0 (at_ w (t - 15)) + s1 (at_ w (t - 2))
def ws (l : List UInt8) : Nat → List (BitVec 32)
  | 0 => []
  | t + 1 => ws l t ++ [if t < 16 then word l t else mix (ws l t) t]
def b0 (a : BitVec 32) : BitVec 32 := rotr a 2 ^^^ rotr a 13 ^^^ rotr a 22
def b1 (e : BitVec 32) : BitVec 32 := rotr e 6 ^^^ rotr e 11 ^^^ rotr e 25
def ch (e f g : BitVec 32) : BitVec 32 := (e &&& f) ^^^ (~~~e &&& g)
def maj (a b c : BitVec 32) : BitVec 32 := (a &&& b) ^^^ (a &&& c) ^^^ (b &&& c)
def p_ (s : W8) (k w : BitVec 32) : BitVec 32 := s.z + b1 s.e + ch s.e s.f s.g + k + w
def q_ (s : W8) : BitVec 32 := b0 s.a + maj s.a s.b s.c
def round (s : W8) (k w : BitVec 32) : W8 := ⟨p_ s k w + q_ s, s.a, s.b, s.c, s.d + p_ s k w, s.e, s.f, s.g⟩
def rounds (w : List (BitVec 32)) (s : W8) : Nat → W8
  | 0 => s
  | t + 1 => round (rounds w s t) (at_ K t) (at_ w t)
def add (h s : W8) : W8 := ⟨h.a + s.a, h.b + s.b, h.c + s.c, h.d + s.d, h.e + s.e, h.f + s.f, h.g + s.g, h.z + s.z⟩
def taken (h : W8) (l : List UInt8) : W8 := add h (rounds (ws l 64) h 64)
/-- the k-th block -/
def blk (l : List UInt8) (k : Nat) : List UInt8 := (l.drop (64 * k)).take 64
def afterN (h : W8) (l : List UInt8) : Nat → W8
  | 0 => h
  | k + 1 => taken (afterN h l k) (blk l k)
def after (h : W8) (l : List UInt8) : W8 := afterN h l (l.length / 64)
/-- the bytes that fill no block -/
def tail (l : List UInt8) : List UInt8 := l.drop (64 * (l.length / 64))
def bytes4 (x : BitVec 32) : List UInt8 := [UInt8.ofNat (x.toNat / 16777216), UInt8.ofNat (x.toNat / 65536), UInt8.ofNat (x.toNat / 256), UInt8.ofNat x.toNat]
def W8.list (h : W8) : List (BitVec 32) := [h.a, h.b, h.c, h.d, h.e, h.f, h.g, h.z]
def dig (h : W8) : List UInt8 := bytes4 h.a ++ bytes4 h.b ++ bytes4 h.c ++ bytes4 h.d ++ bytes4 h.e ++ bytes4 h.f ++ bytes4 h.g ++ bytes4 h.z
def zeros (n : Nat) : Nat := (119 - n % 64) % 64
/-- the last k of the eight bytes of a number, the highest first -/
def low (n : Nat) : Nat → List UInt8
  | 0 => []
  | k + 1 => UInt8.ofNat (n / 2 ^ (8 * k)) :: low n k
def pad (n : Nat) : List UInt8 := 128 :: (List.replicate (zeros n) 0 ++ low (8 * n) 8)
def of (l : List UInt8) : List UInt8 := dig (after first (l ++ pad l.length))

theorem ws_length (l : List UInt8) (t : Nat) : (ws l t).length = t := by
  induction t with
  | zero => rfl
  | succ t ih => simp [ws, ih]
theorem at_append (w v : List (BitVec 32)) (i : Nat) (h : i < w.length) : at_ (w ++ v) i = at_ w i := by
  unfold at_
  rw [List.getD_eq_getElem?_getD, List.getD_eq_getElem?_getD, List.getElem?_append_left h]
theorem at_ws (l : List UInt8) (n t : Nat) (h : t < n) : at_ (ws l n) t = at_ (ws l (t + 1)) t := by
  induction n with
  | zero => omega
  | succ n ih =>
    by_cases e : t = n
    · rw [e]
    · have : t < n := by omega
      rw [← ih this]
      show at_ (ws l n ++ _) t = _
      rw [at_append _ _ _ (by rw [ws_length]; exact this)]
theorem at_ws_last (l : List UInt8) (t : Nat) : at_ (ws l (t + 1)) t = if t < 16 then word l t else mix (ws l t) t := by
  show at_ (ws l t ++ _) t = _
  unfold at_
  rw [List.getD_eq_getElem?_getD, List.getElem?_append_right (by rw [ws_length]; omega), ws_length]
  simp
theorem blk_append (l m : List UInt8) (k : Nat) (h : 64 * (k + 1) ≤ l.length) : blk (l ++ m) k = blk l k := by
  unfold blk
  rw [List.drop_append_of_le_length (by omega), List.take_append_of_le_length (by rw [List.length_drop]; omega)]
theorem blk_drop (l : List UInt8) (i j : Nat) : blk (l.drop (64 * i)) j = blk l (i + j) := by
  unfold blk
  rw [List.drop_drop]
  congr 2; omega
theorem blk_length (l : List UInt8) (k : Nat) (h : 64 * (k + 1) ≤ l.length) : (blk l k).length = 64 := by
  unfold blk; simp; omega
theorem afterN_append (h : W8) (l m : List UInt8) (k : Nat) (hk : 64 * k ≤ l.length) : afterN h (l ++ m) k = afterN h l k := by
  induction k with
  | zero => rfl
  | succ k ih => unfold afterN; rw [ih (by omega), blk_append _ _ _ hk]
theorem afterN_add (h : W8) (l : List UInt8) (i j : Nat) : afterN h l (i + j) = afterN (afterN h l i) (l.drop (64 * i)) j := by
  induction j with
  | zero => rfl
  | succ j ih =>
    show taken (afterN h l (i + j)) (blk l (i + j)) = taken (afterN (afterN h l i) (l.drop (64 * i)) j) (blk (l.drop (64 * i)) j)
    rw [ih, blk_drop]
theorem tail_length (l : List UInt8) : (tail l).length = l.length % 64 := by
  unfold tail; simp; omega
theorem after_append (h : W8) (l m : List UInt8) : after h (l ++ m) = after (after h l) (tail l ++ m) := by
  unfold after
  have e : (l ++ m).length / 64 = l.length / 64 + (tail l ++ m).length / 64 := by
    rw [List.length_append, List.length_append, tail_length]; omega
  rw [e, afterN_add, afterN_append _ _ _ _ (by omega), List.drop_append_of_le_length (by omega)]
  rfl
theorem tail_append (l m : List UInt8) : tail (l ++ m) = tail (tail l ++ m) := by
  unfold tail
  have e : (l ++ m).length / 64 = l.length / 64 + (l.drop (64 * (l.length / 64)) ++ m).length / 64 := by
    rw [List.length_append, List.length_append, List.length_drop]; omega
  rw [e, Nat.mul_add, ← List.drop_drop, List.drop_append_of_le_length (by omega : 64 * (l.length / 64) ≤ l.length)]
theorem after_short (h : W8) (l : List UInt8) (hl : l.length < 64) : after h l = h := by
  unfold after; rw [Nat.div_eq_of_lt hl]; rfl
theorem tail_short (l : List UInt8) (hl : l.length < 64) : tail l = l := by
  unfold tail; rw [Nat.div_eq_of_lt hl]; rfl
theorem after_block (h : W8) (l : List UInt8) (hl : l.length = 64) : after h l = taken h l := by
  unfold after
  rw [hl]
  show taken h (blk l 0) = _
  unfold blk
  rw [Nat.mul_zero, List.drop_zero, List.take_of_length_le (by omega)]
theorem tail_block (l : List UInt8) (hl : l.length % 64 = 0) : tail l = [] := by
  apply List.eq_nil_of_length_eq_zero
  rw [tail_length, hl]
/-- one step of filling a block -/
theorem step_fill (h : W8) (c p : List UInt8) (hp : c.length % 64 + p.length < 64) : after h (c ++ p) = after h c ∧ tail (c ++ p) = tail c ++ p := by
  have : (tail c ++ p).length < 64 := by rw [List.length_append, tail_length]; exact hp
  exact ⟨by rw [after_append, after_short _ _ this], by rw [tail_append, tail_short _ this]⟩
theorem step_full (h : W8) (c p : List UInt8) (hp : c.length % 64 + p.length = 64) : after h (c ++ p) = taken (after h c) (tail c ++ p) ∧ tail (c ++ p) = [] := by
  have : (tail c ++ p).length = 64 := by rw [List.length_append, tail_length]; exact hp
  exact ⟨by rw [after_append, after_block _ _ this], by rw [tail_append, tail_block _ (by rw [this])]⟩
theorem low_length (n k : Nat) : (low n k).length = k := by
  induction k with
  | zero => rfl
  | succ k ih => simp [low, ih]
theorem pad_length (n : Nat) : (pad n).length = zeros n + 9 := by
  unfold pad; simp [low_length]
theorem zeros_le (n : Nat) : zeros n ≤ 63 := by unfold zeros; omega
theorem pad_whole (n : Nat) : (n + (pad n).length) % 64 = 0 := by
  rw [pad_length]; unfold zeros; omega
theorem dig_length (h : W8) : (dig h).length = 32 := rfl
end Sha
end Go.Proofs.Ytjgijpfknhfnjaa
