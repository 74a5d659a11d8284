/- Plain mathematics of layer 11: least deltas. No program is named. Own work. -/
import Derived.Test.YtjgijpfknhfnjaaDelta
set_option linter.unusedVariables false
namespace Go.Proofs.Ytjgijpfknhfnjaa
namespace Dl

def has (B s : List UInt8) : Bool := Lib.contains B s
theorem has_iff {B s : List UInt8} : has B s = true ↔ ∃ i, i ≤ B.length ∧ s <+: B.drop i := by
  unfold has Lib.contains
  rw [decide_eq_true_eq]
  rcases Lib.index_spec B s with ⟨h1, h2⟩ | ⟨i, h1, h2, h3, _⟩
  · rw [h1]
    refine ⟨fun h => by omega, fun ⟨i, hi, hp⟩ => ?_⟩
    have := h2 i hi
    unfold Lib.occAt at this
    rw [List.isPrefixOf_iff_prefix.2 hp] at this
    cases this
  · rw [h1]
    exact ⟨fun _ => ⟨i, h2, List.isPrefixOf_iff_prefix.1 h3⟩, fun _ => by omega⟩
theorem has_take {B s : List UInt8} (h : has B s = true) (m : Nat) : has B (s.take m) = true := by
  obtain ⟨i, h1, h2⟩ := has_iff.1 h
  exact has_iff.2 ⟨i, h1, (List.take_prefix m s).trans h2⟩
theorem has_nil (B : List UInt8) : has B [] = true := has_iff.2 ⟨0, Nat.zero_le _, List.nil_prefix⟩
theorem has_tail {B s : List UInt8} {x : UInt8} (h : has B (x :: s) = true) : has B s = true := by
  obtain ⟨i, h1, r, h2⟩ := has_iff.1 h
  have hl : i + 1 ≤ B.length := by
    have := congrArg List.length h2
    simp at this; omega
  refine has_iff.2 ⟨i + 1, hl, r, ?_⟩
  have : (B.drop i).drop 1 = s ++ r := by rw [← h2]; rfl
  rw [List.drop_drop] at this
  rw [this]
theorem has_part (B : List UInt8) (p n : Nat) : has B ((B.drop p).take n) = true := by
  by_cases h : p ≤ B.length
  · exact has_iff.2 ⟨p, h, List.take_prefix _ _⟩
  · rw [List.drop_of_length_le (by omega)]
    simpa using has_nil B

/-- g is the greatest number of first bytes of t that base has. -/
structure Long (B t : List UInt8) (g : Nat) : Prop where
  le : g ≤ t.length
  has : has B (t.take g) = true
  max : ∀ m, m ≤ t.length → Dl.has B (t.take m) = true → m ≤ g
theorem Long.unique {B t : List UInt8} {g g' : Nat} (h : Long B t g) (h' : Long B t g') : g = g' :=
  Nat.le_antisymm (h'.max g h.le h.has) (h.max g' h'.le h'.has)
theorem Long.fits {B t : List UInt8} {g m : Nat} (h : Long B t g) (hm : m ≤ g) : Dl.has B (t.take m) = true := by
  have := has_take h.has m
  rwa [List.take_take, Nat.min_eq_left hm] at this
theorem Long.nil (B : List UInt8) : Long B [] 0 := ⟨Nat.le_refl _, has_nil B, fun m hm _ => by simpa using hm⟩
theorem Long.next {B t : List UInt8} {g m : Nat} {x : UInt8} (h : Long B t g) (hm : m ≤ t.length + 1) (hh : Dl.has B ((x :: t).take m) = true) : m ≤ g + 1 := by
  cases m with
  | zero => omega
  | succ m =>
    rw [List.take_succ_cons] at hh
    have := h.max m (by omega) (has_tail hh)
    omega

/-- From k on: what each end of T costs at least, and how much can be copied there. -/
structure Tab (B T : List UInt8) (f : Nat → Int) (g : Nat → Nat) (k : Nat) : Prop where
  long : ∀ i, k ≤ i → i < T.length → Long B (T.drop i) (g i)
  last : f T.length = 0
  copy : ∀ i m, k ≤ i → i < T.length → 1 ≤ m → m ≤ g i → f i ≤ 3 + f (i + m)
  ins : ∀ i m, k ≤ i → i < T.length → 1 ≤ m → i + m ≤ T.length → f i ≤ 1 + m + f (i + m)
  att : ∀ i, k ≤ i → i < T.length → ∃ m, 1 ≤ m ∧ i + m ≤ T.length ∧ ((m ≤ g i ∧ f i = 3 + f (i + m)) ∨ f i = 1 + m + f (i + m))
theorem Tab.room {B T : List UInt8} {f : Nat → Int} {g : Nat → Nat} {k : Nat} (h : Tab B T f g k) {i : Nat} (hk : k ≤ i) (hi : i < T.length) : i + g i ≤ T.length := by
  have := (h.long i hk hi).le
  simp at this
  omega
theorem Tab.unique {B T : List UInt8} {f f' : Nat → Int} {g g' : Nat → Nat} {k : Nat} (h : Tab B T f g k) (h' : Tab B T f' g' k) : ∀ d i, i + d = T.length → k ≤ i → f i = f' i := by
  intro d
  induction d using Nat.strongRecOn with
  | _ d ih =>
    intro i hi hk
    by_cases hd : d = 0
    · obtain rfl : i = T.length := by omega
      rw [h.last, h'.last]
    · have hl : i < T.length := by omega
      have hg := (h.long i hk hl).unique (h'.long i hk hl)
      have key : ∀ m, 1 ≤ m → i + m ≤ T.length → f (i + m) = f' (i + m) := fun m h1 h2 => ih (d - m) (by omega) (i + m) (by omega) (by omega)
      obtain ⟨m, m1, m2, m3⟩ := h.att i hk hl
      obtain ⟨m', n1, n2, n3⟩ := h'.att i hk hl
      have e1 := key m m1 m2
      have e2 := key m' n1 n2
      have a1 := h'.ins i m hk hl m1 m2
      have a2 := h.ins i m' hk hl n1 n2
      rcases m3 with ⟨m3, m4⟩ | m4 <;> rcases n3 with ⟨n3, n4⟩ | n4
      · have b1 := h'.copy i m hk hl m1 (by omega)
        have b2 := h.copy i m' hk hl n1 (by omega)
        omega
      · have b1 := h'.copy i m hk hl m1 (by omega)
        omega
      · have b2 := h.copy i m' hk hl n1 (by omega)
        omega
      · omega
theorem Tab.nonneg {B T : List UInt8} {f : Nat → Int} {g : Nat → Nat} {k : Nat} (h : Tab B T f g k) : ∀ d i, i + d = T.length → k ≤ i → 0 ≤ f i ∧ f i ≤ 1 + (d : Int) ∧ (d = 0 → f i = 0) := by
  intro d
  induction d using Nat.strongRecOn with
  | _ d ih =>
    intro i hi hk
    by_cases hd : d = 0
    · obtain rfl : i = T.length := by omega
      rw [h.last]
      omega
    · have hl : i < T.length := by omega
      obtain ⟨m, m1, m2, m3⟩ := h.att i hk hl
      have h1 := (ih (d - m) (by omega) (i + m) (by omega) (by omega)).1
      have h2 := h.ins i d hk hl (by omega) (by omega)
      rw [hi, h.last] at h2
      refine ⟨?_, by omega, fun e => absurd e hd⟩
      rcases m3 with ⟨_, m4⟩ | m4 <;> omega

/-- How the least delta of the end from i on begins: with k bytes, copied or not. -/
structure Start (n : Nat) (f : Nat → Int) (g : Nat → Nat) (i k : Nat) (cp : Bool) : Prop where
  one : 1 ≤ k
  room : i + k ≤ n
  c : cp = true → k ≤ g i ∧ f i = 3 + f (i + k) ∧ ∀ m, k < m → m ≤ g i → f i ≠ 3 + f (i + m)
  d : cp = false → (∀ m, 1 ≤ m → m ≤ g i → f i ≠ 3 + f (i + m)) ∧ f i = 1 + k + f (i + k) ∧ ∀ m, 1 ≤ m → m < k → f i ≠ 1 + m + f (i + m)
theorem Start.unique {n : Nat} {f : Nat → Int} {g : Nat → Nat} {i k k' : Nat} {cp cp' : Bool} (h : Start n f g i k cp) (h' : Start n f g i k' cp') : k = k' ∧ cp = cp' := by
  cases cp with
  | true =>
    obtain ⟨a1, a2, a3⟩ := h.c rfl
    cases cp' with
    | true =>
      obtain ⟨b1, b2, b3⟩ := h'.c rfl
      refine ⟨?_, rfl⟩
      rcases Nat.lt_trichotomy k k' with hl | hl | hl
      · exact absurd b2 (a3 k' hl b1)
      · exact hl
      · exact absurd a2 (b3 k hl a1)
    | false => exact absurd a2 ((h'.d rfl).1 k h.one a1)
  | false =>
    obtain ⟨a1, a2, a3⟩ := h.d rfl
    cases cp' with
    | true =>
      obtain ⟨b1, b2, b3⟩ := h'.c rfl
      exact absurd b2 (a1 k' h'.one b1)
    | false =>
      obtain ⟨b1, b2, b3⟩ := h'.d rfl
      refine ⟨?_, rfl⟩
      rcases Nat.lt_trichotomy k k' with hl | hl | hl
      · exact absurd a2 (b3 k h.one hl)
      · exact hl
      · exact absurd b2 (a3 k' h'.one hl)
theorem Start.congr {n : Nat} {f f' : Nat → Int} {g g' : Nat → Nat} {i k : Nat} {cp : Bool} (hf : ∀ j, j ≤ n → f j = f' j) (hg : g i = g' i) (hr : i + g i ≤ n) (h : Start n f g i k cp) : Start n f' g' i k cp := by
  have h0 := h.room
  have hi := hf i (by omega)
  have hk := hf (i + k) h0
  refine ⟨h.one, h.room, fun e => ?_, fun e => ?_⟩
  · obtain ⟨a1, a2, a3⟩ := h.c e
    refine ⟨by omega, by omega, fun m h1 h2 => ?_⟩
    have := hf (i + m) (by omega)
    have := a3 m h1 (by omega)
    omega
  · obtain ⟨a1, a2, a3⟩ := h.d e
    refine ⟨fun m h1 h2 => ?_, by omega, fun m h1 h2 => ?_⟩
    · have := hf (i + m) (by omega)
      have := a1 m h1 (by omega)
      omega
    · have := hf (i + m) (by omega)
      have := a3 m h1 h2
      omega
/-- A table from i + 1 on, and how the end from i on begins. -/
theorem Tab.step {B T : List UInt8} {f f' : Nat → Int} {g g' : Nat → Nat} {i : Nat} (h : Tab B T f g (i + 1)) (hi : i < T.length) {lg k : Nat} {cp : Bool} (hl : Long B (T.drop i) lg) (hf : ∀ j, i + 1 ≤ j → f' j = f j) (hg : ∀ j, i + 1 ≤ j → g' j = g j) (hgi : g' i = lg)
    (one : 1 ≤ k) (le : i + k ≤ T.length) (copy : ∀ j, 1 ≤ j → j ≤ lg → f' i ≤ 3 + f (i + j)) (ins : ∀ j, 1 ≤ j → i + j ≤ T.length → f' i ≤ 1 + j + f (i + j))
    (ht : cp = true → k ≤ lg ∧ f' i = 3 + f (i + k)) (hfl : cp = false → f' i = 1 + k + f (i + k)) : Tab B T f' g' i := by
  refine ⟨fun j h1 h2 => ?_, by rw [hf _ (by omega)]; exact h.last, fun j m h1 h2 h3 h4 => ?_, fun j m h1 h2 h3 h4 => ?_, fun j h1 h2 => ?_⟩
  · by_cases e : j = i
    · subst e; rw [hgi]; exact hl
    · rw [hg j (by omega)]; exact h.long j (by omega) h2
  · by_cases e : j = i
    · subst e
      rw [hf (j + m) (by omega)]
      exact copy m h3 (by omega)
    · rw [hf j (by omega), hf (j + m) (by omega)]
      exact h.copy j m (by omega) h2 h3 (by rw [hg j (by omega)] at h4; exact h4)
  · by_cases e : j = i
    · subst e
      rw [hf (j + m) (by omega)]
      exact ins m h3 h4
    · rw [hf j (by omega), hf (j + m) (by omega)]
      exact h.ins j m (by omega) h2 h3 h4
  · by_cases e : j = i
    · subst e
      refine ⟨k, one, le, ?_⟩
      rw [hf (j + k) (by omega), hgi]
      cases cp with
      | true => exact .inl (ht rfl)
      | false => exact .inr (hfl rfl)
    · obtain ⟨m, m1, m2, m3⟩ := h.att j (by omega) h2
      refine ⟨m, m1, m2, ?_⟩
      rw [hf j (by omega), hf (j + m) (by omega), hg j (by omega)]
      exact m3
/-- The part with which it begins. -/
def part (B T : List UInt8) (i k : Nat) (cp : Bool) : Part := if cp then ⟨Lib.index B ((T.drop i).take k), k, []⟩ else ⟨0, 0, (T.drop i).take k⟩
/-- The least delta up to i, and from i on. -/
inductive Path (B T : List UInt8) (f : Nat → Int) (g : Nat → Nat) : Nat → List Part → Prop
  | nil : Path B T f g 0 []
  | snoc {i k : Nat} {cp : Bool} {l : List Part} : Path B T f g i l → Start T.length f g i k cp → Path B T f g (i + k) (l ++ [part B T i k cp])
inductive Mk (B T : List UInt8) (f : Nat → Int) (g : Nat → Nat) : Nat → List Part → Prop
  | done : Mk B T f g T.length []
  | step {i k : Nat} {cp : Bool} {l : List Part} : Start T.length f g i k cp → Mk B T f g (i + k) l → Mk B T f g i (part B T i k cp :: l)
section
variable {B T : List UInt8} {f f' : Nat → Int} {g g' : Nat → Nat}
theorem Path.mk {i : Nat} {l r : List Part} (h : Path B T f g i l) (h2 : Mk B T f g i r) : Mk B T f g 0 (l ++ r) := by
  induction h generalizing r with
  | nil => exact h2
  | snoc h s ih =>
    rw [List.append_assoc]
    exact ih (.step s h2)
theorem Path.all {l : List Part} (h : Path B T f g T.length l) : Mk B T f g 0 l := by
  have := h.mk .done
  rwa [List.append_nil] at this
theorem Mk.unique (hf : ∀ j, j ≤ T.length → f j = f' j) (hg : ∀ j, j < T.length → g j = g' j) (hr : ∀ j, j < T.length → j + g j ≤ T.length) {i : Nat} {l l' : List Part} (h : Mk B T f g i l) (h' : Mk B T f' g' i l') : l = l' := by
  induction h generalizing l' with
  | done =>
    cases h' with
    | done => rfl
    | step s _ => have := s.one; have := s.room; omega
  | step s m ih =>
    cases h' with
    | done => have := s.one; have := s.room; omega
    | step s' m' =>
      have h1 := s.one
      have h2 := s.room
      have s2 := s.congr hf (hg _ (by omega)) (hr _ (by omega))
      obtain ⟨rfl, rfl⟩ := s2.unique s'
      rw [ih m']
theorem Mk.same (h : Tab B T f g 0) (h' : Tab B T f' g' 0) {l l' : List Part} (m : Mk B T f g 0 l) (m' : Mk B T f' g' 0 l') : l = l' :=
  m.unique (fun j hj => h.unique h' (T.length - j) j (by omega) (Nat.zero_le _)) (fun j hj => (h.long j (Nat.zero_le _) hj).unique (h'.long j (Nat.zero_le _) hj)) (fun j hj => h.room (Nat.zero_le _) hj) m'
theorem take_len {i k : Nat} (h : i + k ≤ T.length) : ((T.drop i).take k).length = k := by simp; omega
theorem part_fine (hB : B.length ≤ 2000) (hT : T.length ≤ 2000) (h : Tab B T f g 0) {i k : Nat} {cp : Bool} (s : Start T.length f g i k cp) :
    fine (part B T i k cp) = true ∧ over B.length (part B T i k cp) = false ∧ cost1 (part B T i k cp) + f (i + k) = f i ∧ app1 B (part B T i k cp) = (T.drop i).take k ∧ (copies (part B T i k cp) = cp) ∧ ((part B T i k cp).n = 0 ↔ cp = false) := by
  have h1 := s.one
  have h2 := s.room
  have hl := take_len (T := T) h2
  cases cp with
  | true =>
    obtain ⟨a1, a2, _⟩ := s.c rfl
    have hh := (h.long i (Nat.zero_le _) (by omega)).fits a1
    have hi : 0 ≤ Lib.index B ((T.drop i).take k) := by simpa [has, Lib.contains] using hh
    have hr := Lib.index_room B ((T.drop i).take k) hi
    rw [hl] at hr
    have e : part B T i k true = ⟨Lib.index B ((T.drop i).take k), k, []⟩ := rfl
    have hc : copies (part B T i k true) = true := copies_iff.2 ⟨by show (1 : Int) ≤ (k : Int); omega, by show (k : Int) ≤ 2000; omega, hi, by show Lib.index B ((T.drop i).take k) ≤ 2000; omega, rfl⟩
    refine ⟨by unfold fine; rw [hc]; rfl, ?_, ?_, ?_, hc, ?_⟩
    · unfold over; rw [hc, e]; simp only [Bool.true_and]; exact decide_eq_false (by omega)
    · unfold cost1; rw [hc, if_pos rfl]; omega
    · unfold app1
      rw [hc, if_pos rfl, e]
      simp only [Int.toNat_natCast]
      rcases Lib.index_spec B ((T.drop i).take k) with ⟨x1, _⟩ | ⟨j, x1, x2, x3, _⟩
      · omega
      · rw [x1] at hr ⊢
        rw [Lib.occAt_iff_take _ _ _ (by rw [hl]; omega), hl] at x3
        simpa using x3
    · rw [e]; simp; omega
  | false =>
    obtain ⟨_, a2, _⟩ := s.d rfl
    have e : part B T i k false = ⟨0, 0, (T.drop i).take k⟩ := rfl
    have hc : copies (part B T i k false) = false := by
      cases hq : copies (part B T i k false) with
      | false => rfl
      | true => have h9 : (1 : Int) ≤ 0 := (copies_iff.1 hq).1
                omega
    have hn : inserts (part B T i k false) = true := inserts_iff.2 ⟨rfl, rfl, by show 1 ≤ ((T.drop i).take k).length; omega, by show ((T.drop i).take k).length ≤ 2000; omega⟩
    refine ⟨by unfold fine; rw [hn, Bool.or_true], by unfold over; rw [hc]; rfl, ?_, ?_, hc, by rw [e]; simp⟩
    · unfold cost1
      rw [hc, if_neg (by simp)]
      show (1 : Int) + (((T.drop i).take k).length : Int) + f (i + k) = f i
      rw [hl]; omega
    · unfold app1; rw [hc, if_neg (by simp), e]
theorem Mk.good (hB : B.length ≤ 2000) (hT : T.length ≤ 2000) (h : Tab B T f g 0) {i : Nat} {l : List Part} (m : Mk B T f g i l) :
    (∀ x ∈ l, fine x = true ∧ over B.length x = false) ∧ sum l = f i ∧ out B l = T.drop i ∧ l.length + i ≤ T.length := by
  induction m with
  | done => exact ⟨fun x hx => (by cases hx), by rw [h.last]; rfl, by rw [List.drop_of_length_le (Nat.le_refl _)]; rfl, by simp⟩
  | step s m ih =>
    obtain ⟨i1, i2, i3, i4⟩ := ih
    obtain ⟨p1, p2, p3, p4, _⟩ := part_fine hB hT h s
    have h1 := s.one
    refine ⟨fun x hx => ?_, ?_, ?_, ?_⟩
    · rcases List.mem_cons.1 hx with rfl | hx
      · exact ⟨p1, p2⟩
      · exact i1 x hx
    · rw [← p3, ← i2]; simp [sum]
    · unfold out at i3 ⊢
      rw [List.map_cons, List.flatten_cons, i3, p4, ← List.drop_drop, List.take_append_drop]
    · simp only [List.length_cons]; omega
/-- No delta that makes the end costs less. -/
theorem Tab.best (h : Tab B T f g 0) : ∀ (o : List Part) (i : Nat), i ≤ T.length → (∀ x ∈ o, fine x = true ∧ over B.length x = false) → out B o = T.drop i → f i ≤ sum o
  | [], i, hi, _, ho => by
    have : (T.drop i).length = 0 := by rw [← ho]; rfl
    obtain rfl : i = T.length := by simp at this; omega
    rw [h.last]; exact Int.le_refl _
  | x :: o, i, hi, hf, ho => by
    obtain ⟨hx1, hx2⟩ := hf x (by simp)
    have e : sum (x :: o) = cost1 x + sum o := by simp [sum]
    have ho' : app1 B x ++ out B o = T.drop i := by rw [← ho]; simp [out]
    have hlen := congrArg List.length ho'
    rw [List.length_append, List.length_drop] at hlen
    have h1 : (T.drop i).take (app1 B x).length = app1 B x := by rw [← ho', List.take_left]
    have h2 : out B o = T.drop (i + (app1 B x).length) := by rw [← List.drop_drop, ← ho', List.drop_left]
    have ih := Tab.best h o (i + (app1 B x).length) (by omega) (fun y hy => hf y (by simp [hy])) h2
    have hpos : 1 ≤ (app1 B x).length ∧ ((app1 B x).length ≤ g i ∧ cost1 x = 3 ∨ cost1 x = 1 + (app1 B x).length) := by
      unfold fine at hx1
      cases hc : copies x with
      | true =>
        obtain ⟨c1, c2, c3, c4, c5⟩ := copies_iff.1 hc
        unfold over at hx2
        rw [hc, Bool.true_and, decide_eq_false_iff_not] at hx2
        have ha : app1 B x = (B.drop x.p.toNat).take x.n.toNat := by unfold app1; rw [hc, if_pos rfl]
        have hal : (app1 B x).length = x.n.toNat := by rw [ha]; simp; omega
        refine ⟨by omega, .inl ⟨?_, by unfold cost1; rw [hc, if_pos rfl]⟩⟩
        refine (h.long i (Nat.zero_le _) (by omega)).max _ (by simp; omega) ?_
        rw [h1, ha]
        exact has_part B _ _
      | false =>
        rw [hc, Bool.false_or] at hx1
        obtain ⟨c1, c2, c3, c4⟩ := inserts_iff.1 hx1
        have ha : app1 B x = x.b := by unfold app1; rw [hc, if_neg (by simp)]
        rw [ha]
        exact ⟨c3, .inr (by unfold cost1; rw [hc, if_neg (by simp)])⟩
    rw [e]
    obtain ⟨q1, ⟨q2, q3⟩ | q3⟩ := hpos
    · have := h.copy i _ (Nat.zero_le _) (by omega) q1 q2
      omega
    · have := h.ins i _ (Nat.zero_le _) (by omega) q1 (by omega)
      omega
theorem Mk.head {i : Nat} {l : List Part} (m : Mk B T f g i l) : l = [] ∨ ∃ k cp r, Start T.length f g i k cp ∧ l = part B T i k cp :: r ∧ Mk B T f g (i + k) r := by
  cases m with
  | done => exact .inl rfl
  | step s m => exact .inr ⟨_, _, _, s, rfl, m⟩
/-- No two inserts follow each other. -/
theorem Mk.apart (hB : B.length ≤ 2000) (hT : T.length ≤ 2000) (h : Tab B T f g 0) {i : Nat} {l : List Part} (m : Mk B T f g i l) : ∀ (k : Nat) (x y : Part), l[k]? = some x → l[k + 1]? = some y → ¬ (x.n = 0 ∧ y.n = 0) := by
  induction m with
  | done => intro k x y h1; simp at h1
  | step s m ih =>
    rename_i i' k' cp' l'
    intro k x y h1 h2 ⟨h3, h4⟩
    cases k with
    | succ k => exact ih k x y (by simpa using h1) (by simpa using h2) ⟨h3, h4⟩
    | zero =>
      have e1 : part B T i' k' cp' = x := by simpa using h1
      have e2 : l'[0]? = some y := by simpa using h2
      obtain ⟨_, _, _, _, _, p6⟩ := part_fine hB hT h s
      rw [e1] at p6
      obtain rfl := p6.1 h3
      rcases m.head with rfl | ⟨k2, cp2, l2, s2, rfl, m2⟩
      · simp at e2
      · obtain rfl : part B T (i' + k') k2 cp2 = y := by simpa using e2
        obtain ⟨_, _, _, _, _, q6⟩ := part_fine hB hT h s2
        obtain rfl := q6.1 h4
        obtain ⟨_, a2, _⟩ := s.d rfl
        obtain ⟨_, b2, _⟩ := s2.d rfl
        have h5 := s.one
        have h6 := s2.room
        have h7 := s2.one
        have := h.ins i' (k' + k2) (Nat.zero_le _) (by omega) (by omega) (by omega)
        rw [← Nat.add_assoc] at this
        omega
end
end Dl
end Go.Proofs.Ytjgijpfknhfnjaa
