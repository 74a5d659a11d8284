/- Plain mathematics of layer 7: the order of values. No program is named. Own work. -/
import Derived.Test.YtmdjdcllehaphaaCodec
set_option linter.unusedVariables false
namespace Go.Proofs.Ytmdjdcllehaphaa
namespace Codec

def three (a b : Int) : Int := if a < b then -1 else if b < a then 1 else 0
structure IsOrd {α : Type} (P : α → Prop) (f : α → α → Int) : Prop where
  rng : ∀ a b, f a b = -1 ∨ f a b = 0 ∨ f a b = 1
  anti : ∀ a b, P a → P b → f a b = - f b a
  zero : ∀ a b, P a → P b → (f a b = 0 ↔ a = b)
  trans : ∀ a b c, P a → P b → P c → f a b ≤ 0 → f b c ≤ 0 → f a c ≤ 0
theorem IsOrd.weak {α : Type} {P R : α → Prop} {f : α → α → Int} (h : IsOrd P f) (hq : ∀ a, R a → P a) : IsOrd R f :=
  ⟨h.rng, fun a b ha hb => h.anti a b (hq a ha) (hq b hb), fun a b ha hb => h.zero a b (hq a ha) (hq b hb), fun a b c ha hb hc => h.trans a b c (hq a ha) (hq b hb) (hq c hc)⟩
theorem IsOrd.strict {α : Type} {P : α → Prop} {f : α → α → Int} (h : IsOrd P f) {a b c : α} (ha : P a) (hb : P b) (hc : P c) (h1 : f a b ≤ 0) (h2 : f b c ≤ 0) (h0 : f a c = 0) : f a b = 0 ∧ f b c = 0 := by
  obtain rfl := (h.zero a c ha hc).1 h0
  have := h.anti a b ha hb
  omega
theorem three_le (a b : Int) : three a b ≤ 0 ↔ a ≤ b := by
  unfold three
  by_cases h : a < b
  · rw [if_pos h]; omega
  · rw [if_neg h]
    by_cases h2 : b < a
    · rw [if_pos h2]; omega
    · rw [if_neg h2]; omega
theorem three_ord : IsOrd (fun _ => True) three := by
  refine ⟨fun a b => ?_, fun a b _ _ => ?_, fun a b _ _ => ?_, fun a b c _ _ _ h1 h2 => (three_le a c).2 (Int.le_trans ((three_le a b).1 h1) ((three_le b c).1 h2))⟩ <;> unfold three
  · split
    · exact .inl rfl
    · split
      · exact .inr (.inr rfl)
      · exact .inr (.inl rfl)
  · split <;> split <;> (try split) <;> omega
  · split
    · constructor
      · intro h; omega
      · intro h; omega
    · split
      · constructor
        · intro h; omega
        · intro h; omega
      · constructor
        · intro h; omega
        · intro h; rfl
def lex {α : Type} (f : α → α → Int) : List α → List α → Int
  | [], [] => 0
  | [], _ :: _ => -1
  | _ :: _, [] => 1
  | a :: x, b :: y => if f a b ≠ 0 then f a b else lex f x y
theorem lex_ord {α : Type} {P : α → Prop} {f : α → α → Int} (h : IsOrd P f) : IsOrd (fun l => ∀ x ∈ l, P x) (lex f) := by
  refine ⟨?_, ?_, ?_, ?_⟩
  · intro a
    induction a with
    | nil => intro b; cases b <;> simp [lex]
    | cons a x ih =>
      intro b
      cases b with
      | nil => simp [lex]
      | cons b y =>
        rw [lex]
        split
        · exact h.rng a b
        · exact ih y
  · intro a
    induction a with
    | nil => intro b _ _; cases b <;> simp [lex]
    | cons a x ih =>
      intro b ha hb
      cases b with
      | nil => simp [lex]
      | cons b y =>
        have e := h.anti a b (ha a (by simp)) (hb b (by simp))
        rw [lex, lex]
        split
        · rw [if_pos (by omega)]; exact e
        · rw [if_neg (by omega)]
          exact ih y (fun z hz => ha z (by simp [hz])) (fun z hz => hb z (by simp [hz]))
  · intro a
    induction a with
    | nil => intro b _ _; cases b <;> simp [lex]
    | cons a x ih =>
      intro b ha hb
      cases b with
      | nil => simp [lex]
      | cons b y =>
        have e := h.zero a b (ha a (by simp)) (hb b (by simp))
        have e2 := ih y (fun z hz => ha z (by simp [hz])) (fun z hz => hb z (by simp [hz]))
        rw [lex]
        split
        · rename_i hne
          constructor
          · intro h0; exact absurd h0 hne
          · intro h0; cases h0; exact absurd (e.2 rfl) hne
        · rename_i h0
          have h0 : f a b = 0 := by omega
          rw [e2]
          constructor
          · intro h1; rw [h1, e.1 h0]
          · intro h1; cases h1; rfl
  · intro a
    induction a with
    | nil =>
      intro b c _ _ _ _ _
      cases c <;> simp [lex]
    | cons a x ih =>
      intro b c ha hb hc h1 h2
      cases b with
      | nil => simp [lex] at h1
      | cons b y =>
        cases c with
        | nil => simp [lex] at h2
        | cons c z =>
          have pa := ha a (by simp)
          have pb := hb b (by simp)
          have pc := hc c (by simp)
          rw [lex] at h1 h2 ⊢
          have r1 := h.rng a b
          have r2 := h.rng b c
          have r3 := h.rng a c
          by_cases n1 : f a b = 0
          · rw [if_neg (by omega)] at h1
            obtain rfl := (h.zero a b pa pb).1 n1
            by_cases n2 : f a c = 0
            · rw [if_neg (by omega)] at h2 ⊢
              exact ih y z (fun q hq => ha q (by simp [hq])) (fun q hq => hb q (by simp [hq])) (fun q hq => hc q (by simp [hq])) h1 h2
            · rw [if_pos n2] at h2 ⊢
              exact h2
          · rw [if_pos n1] at h1
            by_cases n2 : f b c = 0
            · obtain rfl := (h.zero b c pb pc).1 n2
              rw [if_pos n1]
              exact h1
            · rw [if_pos n2] at h2
              have h3 := h.trans a b c pa pb pc h1 h2
              have h4 : f a c ≠ 0 := fun h0 => n1 (h.strict pa pb pc h1 h2 h0).1
              rw [if_pos h4]
              exact h3
def threeB (a b : UInt8) : Int := three a.toNat b.toNat
theorem threeB_ord : IsOrd (fun _ => True) threeB := by
  refine ⟨fun a b => three_ord.rng _ _, fun a b _ _ => three_ord.anti _ _ trivial trivial, fun a b _ _ => ?_, fun a b c _ _ _ => three_ord.trans _ _ _ trivial trivial trivial⟩
  unfold threeB
  rw [three_ord.zero _ _ trivial trivial]
  constructor
  · intro h
    exact UInt8.toNat_inj.1 (by omega)
  · intro h; rw [h]
/-- The order of values that are not deeper than d. -/
def order : Nat → V → V → Int
  | 0, _, _ => 0
  | d + 1, a, b => if three a.kind b.kind ≠ 0 then three a.kind b.kind else if three a.num b.num ≠ 0 then three a.num b.num
    else if lex threeB a.b b.b ≠ 0 then lex threeB a.b b.b else lex (order d) a.l b.l
/-- Two orders one behind the other. -/
theorem chain_ord {α β γ : Type} {P : α → Prop} {f : β → β → Int} {g : γ → γ → Int} {R : γ → Prop} {p : α → β} {q : α → γ} (hf : IsOrd (fun _ => True) f) (hg : IsOrd R g) (hR : ∀ a, P a → R (q a)) (inj : ∀ a b, P a → P b → p a = p b → q a = q b → a = b) :
    IsOrd P (fun a b => if f (p a) (p b) ≠ 0 then f (p a) (p b) else g (q a) (q b)) := by
  refine ⟨fun a b => ?_, fun a b ha hb => ?_, fun a b ha hb => ?_, fun a b c ha hb hc h1 h2 => ?_⟩
  · show (if _ then _ else _) = _ ∨ _
    split
    · exact hf.rng _ _
    · exact hg.rng _ _
  · have e1 := hf.anti (p a) (p b) trivial trivial
    have e2 := hg.anti (q a) (q b) (hR a ha) (hR b hb)
    show (if _ then _ else _) = - (if _ then _ else _)
    split
    · rw [if_pos (by omega)]; exact e1
    · rw [if_neg (by omega)]; exact e2
  · have e1 := hf.zero (p a) (p b) trivial trivial
    have e2 := hg.zero (q a) (q b) (hR a ha) (hR b hb)
    show (if _ then _ else _) = (0 : Int) ↔ _
    split
    · rename_i hne
      constructor
      · intro h0; exact absurd h0 hne
      · intro h0; subst h0; exact absurd (e1.2 rfl) hne
    · rename_i h0
      have h0 : f (p a) (p b) = 0 := by omega
      constructor
      · intro h1; exact inj a b ha hb (e1.1 h0) (e2.1 h1)
      · intro h1; subst h1; exact e2.2 rfl
  · have r1 := hf.rng (p a) (p b)
    show (if _ then _ else _) ≤ (0 : Int)
    change (if _ then _ else _) ≤ (0 : Int) at h1 h2
    by_cases n1 : f (p a) (p b) = 0
    · rw [if_neg (by omega)] at h1
      have ep := (hf.zero (p a) (p b) trivial trivial).1 n1
      rw [← ep] at h2
      by_cases n2 : f (p a) (p c) = 0
      · rw [if_neg (by omega)] at h2 ⊢
        exact hg.trans _ _ _ (hR a ha) (hR b hb) (hR c hc) h1 h2
      · rw [if_pos n2] at h2 ⊢
        exact h2
    · rw [if_pos n1] at h1
      by_cases n2 : f (p b) (p c) = 0
      · have ep := (hf.zero (p b) (p c) trivial trivial).1 n2
        rw [← ep, if_pos n1]
        exact h1
      · rw [if_pos n2] at h2
        have h3 := hf.trans (p a) (p b) (p c) trivial trivial trivial h1 h2
        have h4 : f (p a) (p c) ≠ 0 := fun h0 => n1 (hf.strict trivial trivial trivial h1 h2 h0).1
        rw [if_pos h4]
        exact h3
/-- The order of values of right kinds, not deeper than d. -/
theorem order_ord : ∀ d, IsOrd (fun v => kinds d v = true) (order d) := by
  intro d
  induction d with
  | zero =>
    refine ⟨fun a b => .inr (.inl rfl), fun a b h => ?_, fun a b h => ?_, fun a b c h => ?_⟩ <;> simp [kinds] at h
  | succ d ih =>
    have hl := lex_ord ih
    have hb := lex_ord threeB_ord
    have hall : ∀ v, kinds (d + 1) v = true → ∀ x ∈ v.l, kinds d x = true := fun v h => by
      rcases kinds_cases h with ⟨n, rfl⟩ | ⟨b, rfl⟩ | ⟨l, rfl, hl⟩
      · simp [V.l]
      · simp [V.l]
      · exact hl
    have h2 := chain_ord (P := fun x : List UInt8 × List V => ∀ y ∈ x.2, kinds d y = true) (p := Prod.fst) (q := Prod.snd) (hb.weak fun _ _ _ _ => trivial) hl (fun _ h => h) (fun a b _ _ h1 h2 => Prod.ext h1 h2)
    have h3 := chain_ord (P := fun x : Int × List UInt8 × List V => ∀ y ∈ x.2.2, kinds d y = true) (p := Prod.fst) (q := Prod.snd) three_ord h2 (fun _ h => h) (fun a b _ _ h1 h2 => Prod.ext h1 h2)
    have h4 := chain_ord (P := fun v : V => kinds (d + 1) v = true) (p := fun v : V => (v.kind : Int)) (q := fun v : V => (v.num, v.b, v.l)) three_ord h3 hall (fun a b _ _ h1 h2 => by
      obtain ⟨ka, na, ba, la⟩ := a
      obtain ⟨kb, nb, bb, lb⟩ := b
      simp only [V.kind, V.num, V.b, V.l, Prod.mk.injEq] at h1 h2
      obtain ⟨rfl, rfl, rfl⟩ := h2
      obtain rfl : ka = kb := by omega
      rfl)
    exact h4
/-- The first difference of the common beginnings; 0: there is none. -/
def pre {α : Type} (f : α → α → Int) : List α → List α → Int
  | [], _ => 0
  | _ :: _, [] => 0
  | a :: x, b :: y => if f a b ≠ 0 then f a b else pre f x y
theorem three_succ (a b : Int) : three (a + 1) (b + 1) = three a b := by
  unfold three
  by_cases h : a < b
  · rw [if_pos h, if_pos (by omega)]
  · rw [if_neg h, if_neg (by omega)]
    by_cases h2 : b < a
    · rw [if_pos h2, if_pos (by omega)]
    · rw [if_neg h2, if_neg (by omega)]
theorem lex_pre {α : Type} (f : α → α → Int) : ∀ x y : List α, lex f x y = if pre f x y ≠ 0 then pre f x y else three x.length y.length := by
  intro x
  induction x with
  | nil =>
    intro y
    cases y with
    | nil => rfl
    | cons b y =>
      rw [lex, pre, if_neg (by simp)]
      unfold three
      rw [if_pos (by simp only [List.length_nil, List.length_cons]; omega)]
  | cons a x ih =>
    intro y
    cases y with
    | nil =>
      rw [lex, pre, if_neg (by simp)]
      unfold three
      rw [if_neg (by simp only [List.length_nil, List.length_cons]; omega), if_pos (by simp only [List.length_nil, List.length_cons]; omega)]
    | cons b y =>
      rw [lex, pre]
      by_cases h : f a b ≠ 0
      · rw [if_pos h, if_pos h, if_pos h]
      · rw [if_neg h, if_neg h, ih y]
        simp only [List.length_cons, Int.natCast_add, Int.natCast_one]
        rw [three_succ]
theorem three_self (a : Int) : three a a = 0 := by unfold three; rw [if_neg (by omega), if_neg (by omega)]
theorem order_mk (d k k' : Nat) (n n' : Int) (b b' : List UInt8) (l l' : List V) : order (d + 1) (.mk k n b l) (.mk k' n' b' l') =
    if three k k' ≠ 0 then three k k' else if three n n' ≠ 0 then three n n' else if lex threeB b b' ≠ 0 then lex threeB b b' else lex (order d) l l' := rfl
theorem if_self {a b : Int} (h : b = 0) : (if a ≠ 0 then a else b) = a := by
  by_cases h0 : a ≠ 0
  · rw [if_pos h0]
  · rw [if_neg h0, h]; omega
/-- The order of two values of one kind, as the reference finds it. -/
theorem order_same {d : Nat} {a b : V} (ha : kinds (d + 1) a = true) (hb : kinds (d + 1) b = true) (hk : a.kind = b.kind) :
    order (d + 1) a b = if a.kind = 1 then three a.num b.num
      else if pre threeB a.b b.b ≠ 0 then pre threeB a.b b.b else if pre (order d) a.l b.l ≠ 0 then pre (order d) a.l b.l else three ((a.b.length : Int) + a.l.length) ((b.b.length : Int) + b.l.length) := by
  rcases kinds_cases ha with ⟨n, rfl⟩ | ⟨x, rfl⟩ | ⟨l, rfl, _⟩ <;> rcases kinds_cases hb with ⟨m, rfl⟩ | ⟨y, rfl⟩ | ⟨q, rfl, _⟩ <;> simp only [V.kind, V.num, V.b, V.l] at hk ⊢ <;> (try (exfalso; omega)) <;> rw [order_mk]
  · rw [if_neg (by rw [three_self]; simp), if_self (show _ = (0 : Int) by simp [lex])]
    simp
  · rw [if_neg (by rw [three_self]; simp), if_neg (by rw [three_self]; simp), if_self (show _ = (0 : Int) by simp [lex]), lex_pre]
    simp [pre]
  · rw [if_neg (by rw [three_self]; simp), if_neg (by rw [three_self]; simp), if_neg (by simp [lex]), lex_pre]
    simp [pre]
theorem order_kind {d : Nat} {a b : V} (hk : a.kind ≠ b.kind) : order (d + 1) a b = three a.kind b.kind := by
  obtain ⟨k, n, x, l⟩ := a
  obtain ⟨k', n', x', l'⟩ := b
  rw [order_mk]
  exact if_pos fun h => hk (by have := (three_ord.zero _ _ trivial trivial).1 h; simp only [V.kind]; omega)
end Codec
end Go.Proofs.Ytmdjdcllehaphaa
