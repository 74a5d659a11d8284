/- Plain mathematics of layer 7: values, their bytes, reading, order. No program is named. Own work. -/
import Init
set_option linter.unusedVariables false
namespace Go.Proofs.Ytjgijpfknhfnjaa
namespace Codec

/-- A value: kind, number, bytes, elements. Functions go down by a depth. -/
inductive V where
  | mk (kind : Nat) (num : Int) (b : List UInt8) (l : List V)
def V.kind : V → Nat | .mk k _ _ _ => k
def V.num : V → Int | .mk _ n _ _ => n
def V.b : V → List UInt8 | .mk _ _ b _ => b
def V.l : V → List V | .mk _ _ _ l => l
def V.zero : V := .mk 0 0 [] []
theorem V.eta (v : V) : v = .mk v.kind v.num v.b v.l := by cases v; rfl
/-- Of the kinds that there are, not deeper than d. -/
def kinds : Nat → V → Bool
  | 0, _ => false
  | d + 1, v => match v.kind with
    | 1 => v.b.length = 0 && v.l.length = 0
    | 2 => v.num == 0 && v.l.length = 0
    | 3 => v.num == 0 && v.b.length = 0 && v.l.all (kinds d)
    | _ => false
/-- The code of a whole number. -/
def code (n : Nat) : List UInt8 := if n < 128 then [UInt8.ofNat n] else UInt8.ofNat (n % 128 + 128) :: code (n / 128)
termination_by n
decreasing_by omega
def fold (n : Int) : Nat := if 0 ≤ n then (2 * n).toNat else (-2 * n - 1).toNat
def unfold_ (x : Nat) : Int := if x % 2 = 0 then (x / 2 : Nat) else -((x / 2 : Nat) : Int) - 1
theorem unfold_fold (n : Int) : unfold_ (fold n) = n := by
  unfold unfold_ fold
  split <;> split <;> omega
theorem fold_unfold (x : Nat) : fold (unfold_ x) = x := by
  unfold unfold_ fold
  split <;> split <;> omega
/-- The bytes of a value that is not deeper than d. -/
def enc : Nat → V → List UInt8
  | 0, _ => []
  | d + 1, v => UInt8.ofNat v.kind :: match v.kind with
    | 1 => code (fold v.num)
    | 2 => code v.b.length ++ v.b
    | _ => code v.l.length ++ (v.l.map (enc d)).flatten
theorem code_small {n : Nat} (h : n < 128) : code n = [UInt8.ofNat n] := by rw [code, if_pos h]
theorem code_big {n : Nat} (h : ¬ n < 128) : code n = UInt8.ofNat (n % 128 + 128) :: code (n / 128) := by rw [code, if_neg h]
theorem code_pos (n : Nat) : 0 < (code n).length := by
  rw [code]; split <;> simp
/-- The number with whose code bytes begin, and how many bytes it has; it has no more bytes than are needed, and at most so many. -/
def take : Nat → List UInt8 → Option (Nat × Nat)
  | 0, _ => none
  | _ + 1, [] => none
  | k + 1, x :: t => if x.toNat < 128 then some (x.toNat, 1) else match take k t with
    | none => none
    | some (n, m) => if n = 0 then none else some (x.toNat - 128 + 128 * n, m + 1)
theorem take_code : ∀ (k n : Nat) (t : List UInt8), n < 128 ^ (k + 1) → take (k + 1) (code n ++ t) = some (n, (code n).length) := by
  intro k
  induction k with
  | zero =>
    intro n t h
    have hn : n < 128 := by simpa using h
    have e : (UInt8.ofNat n).toNat = n := by simp; omega
    rw [code_small hn]
    simp [take, e, hn]
  | succ k ih =>
    intro n t h
    by_cases hn : n < 128
    · rw [code_small hn]
      have e : (UInt8.ofNat n).toNat = n := by simp; omega
      simp [take, e, hn]
    · rw [code_big hn]
      have e : (UInt8.ofNat (n % 128 + 128)).toNat = n % 128 + 128 := by simp; omega
      have hd : n / 128 < 128 ^ (k + 1) := by
        rw [Nat.div_lt_iff_lt_mul (by decide)]
        rw [Nat.pow_succ] at h
        exact h
      rw [List.cons_append, take, e, ih _ t hd, if_neg (by omega)]
      simp only
      rw [if_neg (by omega)]
      simp only [List.length_cons]
      congr 2
      omega
theorem take_back : ∀ (k : Nat) (t : List UInt8) (n m : Nat), take k t = some (n, m) → n < 128 ^ k ∧ m = (code n).length ∧ t = code n ++ t.drop m := by
  intro k
  induction k with
  | zero => intro t n m h; simp [take] at h
  | succ k ih =>
    intro t n m h
    cases t with
    | nil => simp [take] at h
    | cons x t =>
      rw [take] at h
      have hx := x.toNat_lt
      split at h
      · rename_i h1
        cases h
        have e : UInt8.ofNat x.toNat = x := by simp
        rw [code_small h1, e]
        refine ⟨?_, rfl, rfl⟩
        have : 128 ^ 1 ≤ 128 ^ (k + 1) := Nat.pow_le_pow_right (by decide) (by omega)
        omega
      · rename_i h1
        split at h
        · cases h
        · rename_i n' m' h2
          split at h
          · cases h
          · rename_i h3
            cases h
            obtain ⟨a1, a2, a3⟩ := ih t n' m' h2
            have hb : ¬ (x.toNat - 128 + 128 * n') < 128 := by omega
            have hd : (x.toNat - 128 + 128 * n') / 128 = n' := by omega
            have hm : (x.toNat - 128 + 128 * n') % 128 + 128 = x.toNat := by omega
            have e : UInt8.ofNat x.toNat = x := by simp
            rw [code_big hb, hd, hm, e]
            refine ⟨?_, by rw [List.length_cons, a2], ?_⟩
            · rw [Nat.pow_succ]; omega
            · rw [List.drop_succ_cons, List.cons_append, ← a3]
/-- The whole number of 64 bits with whose code bytes begin. -/
def coded (t : List UInt8) : Option (Nat × Nat) := match take 10 t with
  | none => none
  | some (n, m) => if n < 18446744073709551616 then some (n, m) else none
theorem coded_code {n : Nat} (h : n < 18446744073709551616) (t : List UInt8) : coded (code n ++ t) = some (n, (code n).length) := by
  unfold coded
  rw [take_code 9 n t (Nat.lt_of_lt_of_le h (by decide))]
  exact if_pos h
theorem coded_back {t : List UInt8} {n m : Nat} (h : coded t = some (n, m)) : n < 18446744073709551616 ∧ m = (code n).length ∧ t = code n ++ t.drop m := by
  unfold coded at h
  split at h
  · cases h
  · rename_i n' m' h1
    split at h
    · rename_i h2
      cases h
      exact ⟨h2, (take_back 10 t _ _ h1).2⟩
    · cases h
mutual
/-- The value with which bytes begin, not deeper than d, and how many bytes it has. -/
def read : Nat → List UInt8 → Option (V × Nat)
  | 0, _ => none
  | _, [] => none
  | d + 1, x :: t => match coded t with
    | none => none
    | some (n, m) => match x.toNat with
      | 1 => some (.mk 1 (unfold_ n) [] [], m + 1)
      | 2 => if t.length - m < n then none else some (.mk 2 0 ((t.drop m).take n) [], m + 1 + n)
      | 3 => match reads d n (t.drop m) with
        | none => none
        | some (l, u) => some (.mk 3 0 [] l, m + 1 + u)
      | _ => none
termination_by d => (d, 0)
/-- So many values one behind the other. -/
def reads : Nat → Nat → List UInt8 → Option (List V × Nat)
  | _, 0, _ => some ([], 0)
  | d, n + 1, t => match read d t with
    | none => none
    | some (v, u) => match reads d n (t.drop u) with
      | none => none
      | some (l, q) => some (v :: l, u + q)
termination_by d n => (d, n + 1)
end
/-- Numbers of 64 bits, and lengths that there are. -/
def wf : Nat → V → Prop
  | 0, _ => False
  | d + 1, v => -9223372036854775808 ≤ v.num ∧ v.num ≤ 9223372036854775807 ∧ v.b.length < 9223372036854775808 ∧ v.l.length < 9223372036854775808 ∧ ∀ x ∈ v.l, wf d x
theorem kinds_cases {d : Nat} {v : V} (h : kinds (d + 1) v = true) :
    (∃ n, v = .mk 1 n [] []) ∨ (∃ b, v = .mk 2 0 b []) ∨ (∃ l, v = .mk 3 0 [] l ∧ ∀ x ∈ l, kinds d x = true) := by
  obtain ⟨k, n, b, l⟩ := v
  unfold kinds at h
  simp only [V.kind, V.num, V.b, V.l] at h
  split at h
  · simp at h
    obtain ⟨rfl, rfl⟩ := h
    exact .inl ⟨n, rfl⟩
  · simp at h
    obtain ⟨rfl, rfl⟩ := h
    exact .inr (.inl ⟨b, rfl⟩)
  · simp at h
    obtain ⟨⟨rfl, rfl⟩, h⟩ := h
    exact .inr (.inr ⟨l, rfl, h⟩)
  · cases h
theorem fold_lt {n : Int} (h1 : -9223372036854775808 ≤ n) (h2 : n ≤ 9223372036854775807) : fold n < 18446744073709551616 := by
  unfold fold; split <;> omega
theorem reads_enc {d : Nat} (hr : ∀ (v : V) (t : List UInt8), kinds d v = true → wf d v → read d (enc d v ++ t) = some (v, (enc d v).length)) :
    ∀ (l : List V) (t : List UInt8), (∀ x ∈ l, kinds d x = true) → (∀ x ∈ l, wf d x) → reads d l.length ((l.map (enc d)).flatten ++ t) = some (l, ((l.map (enc d)).flatten).length) := by
  intro l
  induction l with
  | nil => intro t _ _; rw [List.length_nil, reads]; rfl
  | cons v l ih =>
    intro t h1 h2
    rw [List.length_cons, reads]
    simp only [List.map_cons, List.flatten_cons, List.append_assoc]
    rw [hr v _ (h1 v (by simp)) (h2 v (by simp))]
    simp only [List.drop_left]
    rw [ih t (fun x hx => h1 x (by simp [hx])) (fun x hx => h2 x (by simp [hx]))]
    simp
theorem read_enc : ∀ (d : Nat) (v : V) (t : List UInt8), kinds d v = true → wf d v → read d (enc d v ++ t) = some (v, (enc d v).length) := by
  intro d
  induction d with
  | zero => intro v t h; simp [kinds] at h
  | succ d ih =>
    intro v t hk hw
    obtain ⟨w1, w2, w3, w4, w5⟩ := hw
    rcases kinds_cases hk with ⟨n, rfl⟩ | ⟨b, rfl⟩ | ⟨l, rfl, hl⟩
    · simp only [V.num] at w1 w2
      have e : enc (d + 1) (.mk 1 n [] []) = 1 :: code (fold n) := rfl
      rw [e, List.cons_append, read, coded_code (fold_lt w1 w2)]
      simp [unfold_fold]
    · simp only [V.b] at w3
      have e : enc (d + 1) (.mk 2 0 b []) = 2 :: (code b.length ++ b) := rfl
      rw [e, List.cons_append, List.append_assoc, read, coded_code (by omega)]
      simp
      omega
    · simp only [V.l] at w4 w5
      have e : enc (d + 1) (.mk 3 0 [] l) = 3 :: (code l.length ++ (l.map (enc d)).flatten) := rfl
      rw [e, List.cons_append, List.append_assoc, read, coded_code (by omega)]
      have := reads_enc ih l t hl w5
      simp [this]
      omega
theorem enc_pos {d : Nat} {v : V} (h : kinds d v = true) : 0 < (enc d v).length := by
  cases d with
  | zero => simp [kinds] at h
  | succ d => simp [enc]
theorem flat_ge {d : Nat} (l : List V) (h : ∀ x ∈ l, kinds d x = true) : l.length ≤ ((l.map (enc d)).flatten).length := by
  induction l with
  | nil => simp
  | cons v l ih =>
    have h1 := enc_pos (h v (by simp))
    have h2 := ih fun x hx => h x (by simp [hx])
    rw [List.map_cons, List.flatten_cons, List.length_append, List.length_cons]
    omega
theorem unfold_rng {x : Nat} (h : x < 18446744073709551616) : -9223372036854775808 ≤ unfold_ x ∧ unfold_ x ≤ 9223372036854775807 := by
  unfold unfold_; split <;> omega
theorem reads_back {d : Nat} (hr : ∀ (t : List UInt8) (v : V) (u : Nat), t.length < 9223372036854775808 → read d t = some (v, u) → kinds d v = true ∧ wf d v ∧ u = (enc d v).length ∧ t = enc d v ++ t.drop u) :
    ∀ (n : Nat) (t : List UInt8) (l : List V) (u : Nat), t.length < 9223372036854775808 → reads d n t = some (l, u) → l.length = n ∧ (∀ x ∈ l, kinds d x = true) ∧ (∀ x ∈ l, wf d x) ∧ u = ((l.map (enc d)).flatten).length ∧ t = (l.map (enc d)).flatten ++ t.drop u := by
  intro n
  induction n with
  | zero => intro t l u _ h; rw [reads] at h; cases h; simp
  | succ n ih =>
    intro t l u ht h
    rw [reads] at h
    split at h
    · cases h
    · rename_i v u1 h1
      split at h
      · cases h
      · rename_i l1 q h2
        cases h
        obtain ⟨a1, a2, a3, a4⟩ := hr t v u1 ht h1
        obtain ⟨b1, b2, b3, b4, b5⟩ := ih (t.drop u1) l1 q (by rw [List.length_drop]; omega) h2
        refine ⟨by rw [List.length_cons, b1], fun x hx => ?_, fun x hx => ?_, ?_, ?_⟩
        · rcases List.mem_cons.1 hx with rfl | hx
          · exact a1
          · exact b2 x hx
        · rcases List.mem_cons.1 hx with rfl | hx
          · exact a2
          · exact b3 x hx
        · rw [List.map_cons, List.flatten_cons, List.length_append, a3, b4]
        · rw [List.map_cons, List.flatten_cons, List.append_assoc, ← List.drop_drop, ← b5, ← a4]
theorem read_back : ∀ (d : Nat) (t : List UInt8) (v : V) (u : Nat), t.length < 9223372036854775808 → read d t = some (v, u) → kinds d v = true ∧ wf d v ∧ u = (enc d v).length ∧ t = enc d v ++ t.drop u := by
  intro d
  induction d with
  | zero => intro t v u _ h; rw [read] at h; cases h
  | succ d ih =>
    intro t v u ht h
    cases t with
    | nil => rw [read] at h; cases h; intro e; cases e
    | cons x t =>
      rw [List.length_cons] at ht
      rw [read] at h
      split at h
      · cases h
      · rename_i n m h1
        obtain ⟨a1, a2, a3⟩ := coded_back h1
        have hx : ∀ k, x.toNat = k → x = UInt8.ofNat k := fun k e => by rw [← e]; simp
        split at h
        · rename_i hk
          cases h
          obtain ⟨r1, r2⟩ := unfold_rng a1
          have e : enc (d + 1) (.mk 1 (unfold_ n) [] []) = 1 :: code (fold (unfold_ n)) := rfl
          rw [e, fold_unfold]
          refine ⟨rfl, ⟨r1, r2, by simp [V.b], by simp [V.l], by simp [V.l]⟩, by rw [List.length_cons, a2], ?_⟩
          rw [List.drop_succ_cons, List.cons_append, ← a3, hx 1 hk]
          rfl
        · rename_i hk
          split at h
          · cases h
          · rename_i hl
            cases h
            have e : ∀ b : List UInt8, enc (d + 1) (.mk 2 0 b []) = 2 :: (code b.length ++ b) := fun _ => rfl
            have hb : ((t.drop m).take n).length = n := by rw [List.length_take, List.length_drop]; omega
            rw [e, hb]
            refine ⟨rfl, ⟨by simp [V.num], by simp [V.num], by simp only [V.b, hb]; omega, by simp [V.l], by simp [V.l]⟩, by rw [List.length_cons, List.length_append, hb, a2]; omega, ?_⟩
            rw [show m + 1 + n = (m + n) + 1 by omega, List.drop_succ_cons, List.cons_append, List.append_assoc, ← List.drop_drop, List.take_append_drop, ← a3, hx 2 hk]
            rfl
        · rename_i hk
          split at h
          · cases h
          · rename_i l q h2
            cases h
            obtain ⟨b1, b2, b3, b4, b5⟩ := reads_back ih n (t.drop m) l q (by rw [List.length_drop]; omega) h2
            have e : ∀ l : List V, enc (d + 1) (.mk 3 0 [] l) = 3 :: (code l.length ++ (l.map (enc d)).flatten) := fun _ => rfl
            have hn : n < 9223372036854775808 := by
              have h3 := flat_ge l b2
              have h4 := congrArg List.length b5
              rw [List.length_append, List.length_drop, List.length_drop] at h4
              omega
            rw [e, b1]
            refine ⟨by simpa [kinds, V.kind, V.num, V.b, V.l] using b2, ⟨by simp [V.num], by simp [V.num], by simp [V.b], by simp only [V.l, b1]; exact hn, b3⟩, by rw [List.length_cons, List.length_append, a2, b4]; omega, ?_⟩
            rw [show m + 1 + q = (m + q) + 1 by omega, List.drop_succ_cons, List.cons_append, List.append_assoc, ← List.drop_drop, ← b5, ← a3, hx 3 hk]
            rfl
        · cases h
/-! What the functions of the package return. -/
def check (v : V) : Int := if kinds 6 v = false then 8 else if 3000 < (enc 6 v).length then 4 else 0
def size (v : V) : Int × Int := if check v ≠ 0 then (0, check v) else ((enc 6 v).length, 0)
def encode (v : V) : List UInt8 × Int := if check v ≠ 0 then ([], check v) else (enc 6 v, 0)
def next (t : List UInt8) : V × Int × Int := match read 6 t with
  | none => (V.zero, 0, 12)
  | some (v, u) => if 3000 < u then (V.zero, 0, 12) else (v, u, 0)
def decode (t : List UInt8) : V × Int := if (next t).2.2 ≠ 0 ∨ (next t).2.1 ≠ t.length then (V.zero, 12) else ((next t).1, 0)
theorem next_enc {v : V} (h : check v = 0) (hw : wf 6 v) (t : List UInt8) : next (enc 6 v ++ t) = (v, ((enc 6 v).length : Int), 0) := by
  unfold check at h
  split at h
  · cases h
  · rename_i h1
    split at h
    · cases h
    · rename_i h2
      unfold next
      rw [read_enc 6 v t (by simpa using h1) hw]
      simp only
      rw [if_neg h2]
theorem decode_enc {v : V} (h : check v = 0) (hw : wf 6 v) : decode (enc 6 v) = (v, 0) := by
  have := next_enc h hw []
  rw [List.append_nil] at this
  unfold decode
  rw [this]
  simp
theorem next_ok {t : List UInt8} (ht : t.length < 9223372036854775808) {v : V} {u : Int} (h : next t = (v, u, 0)) : check v = 0 ∧ wf 6 v ∧ u = (enc 6 v).length ∧ t = enc 6 v ++ t.drop (enc 6 v).length := by
  unfold next at h
  split at h
  · cases h
  · rename_i v' u' h1
    split at h
    · cases h
    · rename_i h2
      cases h
      obtain ⟨a1, a2, a3, a4⟩ := read_back 6 t _ _ ht h1
      subst a3
      refine ⟨?_, a2, rfl, a4⟩
      unfold check
      rw [a1, if_neg (by simp), if_neg h2]
/-- None begins with the bytes of another one. -/
theorem enc_prefix {v w : V} (hv : check v = 0) (hw : check w = 0) (wv : wf 6 v) (ww : wf 6 w) {t s : List UInt8} (h : enc 6 v ++ t = enc 6 w ++ s) : v = w := by
  have h1 := next_enc hv wv t
  have h2 := next_enc hw ww s
  rw [h, h2] at h1
  exact (Prod.mk.inj h1).1.symm
theorem next_cut {v : V} (hv : check v = 0) (wv : wf 6 v) {k : Nat} (hk : k < (enc 6 v).length) (hl : (enc 6 v).length < 9223372036854775808) : next ((enc 6 v).take k) = (V.zero, 0, 12) := by
  unfold next
  split
  · rfl
  · rename_i w u h1
    split
    · rfl
    · rename_i h2
      exfalso
      obtain ⟨a1, a2, a3, a4⟩ := read_back 6 _ _ _ (by rw [List.length_take]; omega) h1
      have hw : check w = 0 := by
        unfold check
        rw [a1, if_neg (by simp), if_neg (by rw [← a3]; exact h2)]
      have e : enc 6 w ++ (((enc 6 v).take k).drop u ++ (enc 6 v).drop k) = enc 6 v ++ [] := by
        rw [← List.append_assoc, ← a4, List.take_append_drop, List.append_nil]
      have := enc_prefix hw hv a2 wv e
      subst this
      have h3 := congrArg List.length a4
      rw [List.length_append, List.length_take] at h3
      omega
/-! Only the first bytes count. -/
theorem read_take {d : Nat} {t : List UInt8} {k : Nat} {v : V} {u : Nat} (ht : t.length < 9223372036854775808) (h : read d t = some (v, u)) (hu : u ≤ k) : read d (t.take k) = some (v, u) := by
  obtain ⟨a1, a2, a3, a4⟩ := read_back d t v u ht h
  have e : t.take k = enc d v ++ (t.drop u).take (k - u) := by
    have e2 : (enc d v ++ t.drop u).take k = enc d v ++ (t.drop u).take (k - u) := by
      rw [List.take_append, List.take_of_length_le (show (enc d v).length ≤ k by omega), ← a3]
    exact (congrArg (List.take k) a4).trans e2
  rw [e, read_enc d v _ a1 a2, a3]
theorem read_more {d : Nat} {t : List UInt8} {k : Nat} {v : V} {u : Nat} (ht : t.length < 9223372036854775808) (h : read d (t.take k) = some (v, u)) : read d t = some (v, u) ∧ u ≤ k := by
  obtain ⟨a1, a2, a3, a4⟩ := read_back d _ v u (by rw [List.length_take]; omega) h
  have e : t = enc d v ++ ((t.take k).drop u ++ t.drop k) := by
    rw [← List.append_assoc, ← a4, List.take_append_drop]
  refine ⟨?_, ?_⟩
  · have := read_enc d v ((t.take k).drop u ++ t.drop k) a1 a2
    rw [← e, ← a3] at this
    exact this
  · have := congrArg List.length a4
    rw [List.length_append, List.length_take] at this
    omega
theorem next_of_cut {t : List UInt8} (ht : t.length < 9223372036854775808) : next t = match read 6 (t.take 3000) with
    | none => (V.zero, 0, 12)
    | some (v, u) => (v, (u : Int), 0) := by
  unfold next
  rcases h : read 6 (t.take 3000) with _ | ⟨v, u⟩
  · rcases h2 : read 6 t with _ | ⟨v, u⟩
    · rfl
    · simp only
      rw [if_pos]
      refine Nat.lt_of_not_le fun hu => ?_
      rw [read_take ht h2 hu] at h
      cases h
  · obtain ⟨h1, h2⟩ := read_more ht h
    rw [h1]
    simp only
    rw [if_neg (by omega)]
end Codec
end Go.Proofs.Ytjgijpfknhfnjaa
