/- Records as bytes, and scans: plain mathematics. Own work. -/
import Derived.Test.YtehagdpcegpbjaaCrc
namespace Go.Proofs.Ytehagdpcegpbjaa
namespace Frame

structure Rec where
  num : Int
  data : List UInt8

def Valid (r : Rec) : Prop := 0 ≤ r.num ∧ r.num ≤ 1000000000 ∧ r.data.length ≤ 1000
def w4 (x : BitVec 32) : List UInt8 := [Crc.byteAt x 0, Crc.byteAt x 1, Crc.byteAt x 2, Crc.byteAt x 3]
def head (r : Rec) : List UInt8 := w4 (BitVec.ofNat 32 r.data.length) ++ w4 (BitVec.ofNat 32 r.num.toNat)
def enc (r : Rec) : List UInt8 := head r ++ (w4 (Crc.sum (head r ++ r.data)) ++ r.data)
def all (l : List Rec) : List UInt8 := (l.map enc).flatten
def rd (b : List UInt8) (k : Nat) : BitVec 32 := Crc.word (b.getD k 0) (b.getD (k + 1) 0) (b.getD (k + 2) 0) (b.getD (k + 3) 0)
/-- b begins with the bytes of the valid record r. -/
def Pre (r : Rec) (b : List UInt8) : Prop := Valid r ∧ enc r <+: b

@[simp] theorem w4_length (x : BitVec 32) : (w4 x).length = 4 := rfl
@[simp] theorem head_length (r : Rec) : (head r).length = 8 := rfl
theorem enc_length (r : Rec) : (enc r).length = 12 + r.data.length := by unfold enc; simp; omega
theorem all_nil : all [] = [] := rfl
theorem all_cons (r : Rec) (l : List Rec) : all (r :: l) = enc r ++ all l := by simp [all]
theorem all_append (l m : List Rec) : all (l ++ m) = all l ++ all m := by simp [all]
theorem all_one (r : Rec) : all [r] = enc r := by simp [all]
theorem all_take_succ (l : List Rec) (k : Nat) (h : k < l.length) : all (l.take (k + 1)) = all (l.take k) ++ enc l[k] := by
  rw [List.take_succ_eq_append_getElem h, all_append, all_one]

theorem rd_w4 (x : BitVec 32) (l : List UInt8) : rd (w4 x ++ l) 0 = x := Crc.word_bytes x
theorem rd_skip (p l : List UInt8) (k j : Nat) (h : p.length = j) : rd (p ++ l) (j + k) = rd l k := by
  subst h
  unfold rd
  simp only [List.getD_eq_getElem?_getD]
  rw [List.getElem?_append_right (by omega), List.getElem?_append_right (by omega), List.getElem?_append_right (by omega), List.getElem?_append_right (by omega)]
  congr 3 <;> congr 1 <;> omega
theorem w4_rd (b : List UInt8) (k : Nat) (h : k + 4 ≤ b.length) : w4 (rd b k) = (b.drop k).take 4 := by
  have e := Crc.word_inj (Crc.word_bytes (rd b k))
  unfold w4
  rw [e.1, e.2.1, e.2.2.1, e.2.2.2]
  apply List.ext_getElem
  · simp; omega
  · intro i h1 h2
    have hi : i < 4 := h1
    rw [List.getElem_take, List.getElem_drop]
    match i, hi with
    | 0, _ => simp [List.getD_eq_getElem?_getD, List.getElem?_eq_getElem (show k < b.length by omega)]
    | 1, _ => simp [List.getD_eq_getElem?_getD, List.getElem?_eq_getElem (show k + 1 < b.length by omega)]
    | 2, _ => simp [List.getD_eq_getElem?_getD, List.getElem?_eq_getElem (show k + 2 < b.length by omega)]
    | 3, _ => simp [List.getD_eq_getElem?_getD, List.getElem?_eq_getElem (show k + 3 < b.length by omega)]
theorem w4_inj {x y : BitVec 32} (h : w4 x = w4 y) : x = y := by
  have h1 := rd_w4 x []; rw [h, rd_w4] at h1; exact h1.symm
theorem nat32 (n : Nat) (h : n ≤ 1000000000) : (BitVec.ofNat 32 n).toNat = n := by
  rw [BitVec.toNat_ofNat]; omega

theorem pre_facts {r : Rec} {b : List UInt8} (h : Pre r b) : 12 + r.data.length ≤ b.length ∧ (rd b 0).toNat = r.data.length ∧ ((rd b 4).toNat : Int) = r.num ∧
    (b.drop 12).take r.data.length = r.data ∧ b.take 8 = head r ∧ rd b 8 = Crc.sum (head r ++ r.data) := by
  obtain ⟨⟨v1, v2, v3⟩, t, rfl⟩ := h
  have e0 : enc r ++ t = w4 (BitVec.ofNat 32 r.data.length) ++ (w4 (BitVec.ofNat 32 r.num.toNat) ++ (w4 (Crc.sum (head r ++ r.data)) ++ (r.data ++ t))) := by simp [enc, head]
  refine ⟨by rw [List.length_append, enc_length]; omega, ?_, ?_, ?_, ?_, ?_⟩
  · rw [e0, rd_w4, nat32 _ (by omega)]
  · rw [e0, show (4 : Nat) = 4 + 0 from rfl, rd_skip _ _ _ _ (by simp), rd_w4, nat32 _ (by omega)]; omega
  · rw [e0]
    rw [← List.append_assoc, ← List.append_assoc, List.drop_left' (by simp), List.take_left' rfl]
  · rw [e0, ← List.append_assoc, List.take_left' (by simp)]; rfl
  · rw [e0, show (8 : Nat) = 4 + (4 + 0) from rfl, rd_skip _ _ _ _ (by simp), rd_skip _ _ _ _ (by simp), rd_w4]

theorem pre_unique {r s : Rec} {b : List UInt8} (h : Pre r b) (k : Pre s b) : r = s := by
  obtain ⟨_, h1, h2, h3, _⟩ := pre_facts h
  obtain ⟨_, k1, k2, k3, _⟩ := pre_facts k
  obtain ⟨n, d⟩ := r
  obtain ⟨n', d'⟩ := s
  simp only at h1 h2 h3 k1 k2 k3
  have hl : d.length = d'.length := by omega
  rw [hl] at h3
  simp only [Rec.mk.injEq]
  exact ⟨by omega, h3.symm.trans k3⟩
theorem pre_is {r : Rec} {b : List UInt8} (h : Pre r b) : r = ⟨((rd b 4).toNat : Int), (b.drop 12).take (rd b 0).toNat⟩ := by
  obtain ⟨_, h1, h2, h3, _⟩ := pre_facts h
  rw [h1, h2, h3]
theorem pre_mono {r : Rec} {b c : List UInt8} (h : Pre r b) (hp : b <+: c) : Pre r c := ⟨h.1, h.2.trans hp⟩
theorem no_short {b : List UInt8} (h : b.length < 12) (r : Rec) : ¬ Pre r b := fun k => by have := (pre_facts k).1; omega
theorem no_len {b : List UInt8} (h : 1000 < (rd b 0).toNat) (r : Rec) : ¬ Pre r b := fun k => by have := (pre_facts k).2.1; have := k.1.2.2; omega
theorem no_num {b : List UInt8} (h : 1000000000 < (rd b 4).toNat) (r : Rec) : ¬ Pre r b := fun k => by have := (pre_facts k).2.2.1; have := k.1.2.1; omega
theorem no_room {b : List UInt8} (h : b.length < 12 + (rd b 0).toNat) (r : Rec) : ¬ Pre r b := fun k => by have := (pre_facts k).2.1; have := (pre_facts k).1; omega
theorem no_sum {b : List UInt8} (h : rd b 8 ≠ Crc.sum (b.take 8 ++ (b.drop 12).take (rd b 0).toNat)) (r : Rec) : ¬ Pre r b := fun k => by
  obtain ⟨_, h1, _, h3, h4, h5⟩ := pre_facts k
  exact h (by rw [h1, h3, h4, h5])
theorem pre_of {b : List UInt8} (h1 : (rd b 0).toNat ≤ 1000) (h2 : (rd b 4).toNat ≤ 1000000000) (h3 : (rd b 0).toNat + 12 ≤ b.length)
    (h4 : rd b 8 = Crc.sum (b.take 8 ++ (b.drop 12).take (rd b 0).toNat)) : Pre ⟨((rd b 4).toNat : Int), (b.drop 12).take (rd b 0).toNat⟩ b := by
  have hl : ((b.drop 12).take (rd b 0).toNat).length = (rd b 0).toNat := by simp; omega
  refine ⟨⟨by simp, by simp; omega, by simp only; omega⟩, ?_⟩
  have hh : head ⟨((rd b 4).toNat : Int), (b.drop 12).take (rd b 0).toNat⟩ = b.take 8 := by
    unfold head
    simp only [hl, Int.toNat_natCast, BitVec.ofNat_toNat, BitVec.setWidth_eq]
    rw [w4_rd b 0 (by omega), w4_rd b 4 (by omega), List.drop_zero, show (8 : Nat) = 4 + 4 from rfl, List.take_add]
  unfold enc
  rw [hh]
  simp only
  rw [← h4, w4_rd b 8 (by omega)]
  refine ⟨b.drop (12 + (rd b 0).toNat), ?_⟩
  rw [List.append_assoc, List.append_assoc, ← List.drop_drop, List.take_append_drop, show b.drop 12 = (b.drop 8).drop 4 by rw [List.drop_drop], List.take_append_drop, List.take_append_drop]

/-- r may follow l. -/
def Next (l : List Rec) (r : Rec) : Prop := ∀ h : 0 < l.length, r.num = l[l.length - 1].num + 1
/-- Valid records with numbers one behind the other. -/
def Foll (l : List Rec) : Prop := ∀ i (h : i < l.length), Valid l[i] ∧ ∀ _ : 0 < i, l[i].num = l[i - 1].num + 1
theorem foll_nil : Foll [] := fun i h => absurd h (by simp)
theorem foll_snoc {l : List Rec} {r : Rec} (h : Foll l) (v : Valid r) (n : Next l r) : Foll (l ++ [r]) := by
  intro i hi
  rcases Nat.lt_or_ge i l.length with hl | hl
  · rw [List.getElem_append_left hl]
    refine ⟨(h i hl).1, fun h0 => ?_⟩
    rw [List.getElem_append_left (by omega)]
    exact (h i hl).2 h0
  · have he : i = l.length := by simp at hi; omega
    subst he
    rw [List.getElem_append_right (by omega)]
    refine ⟨by simpa using v, fun h0 => ?_⟩
    rw [List.getElem_append_left (by omega)]
    simpa using n h0
theorem foll_take {l : List Rec} (h : Foll l) (k : Nat) : Foll (l.take k) := by
  intro i hi
  have hi' : i < l.length := by simp at hi; omega
  rw [List.getElem_take]
  refine ⟨(h i hi').1, fun h0 => ?_⟩
  rw [List.getElem_take]
  exact (h i hi').2 h0
theorem next_take {l : List Rec} (h : Foll l) (k : Nat) (hk : k < l.length) : Next (l.take k) l[k] := by
  intro h0
  have h1 : (l.take k).length = k := by simp; omega
  have h2 := (h k hk).2 (by omega)
  rw [h2, List.getElem_take]
  congr 3; omega

/-- A scan of b finds l, and uses u. -/
def IsScan (b : List UInt8) (l : List Rec) (u : Nat) : Prop := Foll l ∧ u = (all l).length ∧ all l <+: b ∧ ∀ r, Pre r (b.drop u) → ¬ Next l r

theorem pre_at {l : List Rec} {b : List UInt8} (hF : Foll l) (hp : all l <+: b) (k : Nat) (h : k < l.length) : Pre l[k] (b.drop (all (l.take k)).length) := by
  obtain ⟨t, rfl⟩ := hp
  refine ⟨(hF k h).1, all (l.drop (k + 1)) ++ t, ?_⟩
  have e : all l = all (l.take k) ++ (enc l[k] ++ all (l.drop (k + 1))) := by
    conv => lhs; rw [← List.take_append_drop k l, all_append, List.drop_eq_getElem_cons h, all_cons]
  rw [e, List.append_assoc, List.drop_left' rfl, List.append_assoc]
theorem all_take_prefix (l : List Rec) (k : Nat) : all (l.take k) <+: all l := by
  conv => rhs; rw [← List.take_append_drop k l, all_append]
  exact List.prefix_append _ _
theorem longest {b : List UInt8} {l m : List Rec} {u : Nat} (hF : Foll l) (hp : all l <+: b) (hs : IsScan b m u) : l <+: m := by
  obtain ⟨mF, rfl, mp, stop⟩ := hs
  have key : ∀ n, n ≤ l.length → l.take n <+: m := by
    intro n
    induction n with
    | zero => intro _; simp
    | succ n ih =>
      intro hn
      have hlt : n < l.length := by omega
      have h1 := ih (by omega)
      have hlen : (l.take n).length = n := by simp; omega
      have hm := List.prefix_iff_eq_take.1 h1
      rw [hlen] at hm
      have p1 := pre_at hF hp n hlt
      rcases Nat.lt_or_ge n m.length with h2 | h2
      · have p2 := pre_at mF mp n h2
        rw [← hm] at p2
        have e := pre_unique p1 p2
        rw [List.take_succ_eq_append_getElem hlt, e, hm, ← List.take_succ_eq_append_getElem h2]
        exact List.take_prefix _ _
      · have hm2 : l.take n = m := by rw [hm]; exact List.take_of_length_le (by omega)
        rw [hm2] at p1
        have hn := next_take hF n hlt
        rw [hm2] at hn
        exact absurd hn (stop _ p1)
  have := key l.length (Nat.le_refl _)
  rwa [List.take_length] at this
theorem scan_unique {b : List UInt8} {l m : List Rec} {u v : Nat} (h : IsScan b l u) (k : IsScan b m v) : l = m ∧ u = v := by
  have h1 := longest h.1 h.2.2.1 k
  have h2 := longest k.1 k.2.2.1 h
  have e : l = m := h1.eq_of_length (Nat.le_antisymm h1.length_le h2.length_le)
  subst e
  exact ⟨rfl, h.2.1.trans k.2.1.symm⟩
theorem scan_le {b : List UInt8} {l : List Rec} {u : Nat} (h : IsScan b l u) : u ≤ b.length := by rw [h.2.1]; exact h.2.2.1.length_le
theorem scan_torn {l : List Rec} (hF : Foll l) (n k : Nat) (hk : k ≤ l.length) (hn : n ≤ (all l).length) (h1 : (all (l.take k)).length ≤ n)
    (h2 : k = l.length ∨ n < (all (l.take (k + 1))).length) : IsScan ((all l).take n) (l.take k) (all (l.take k)).length := by
  refine ⟨foll_take hF k, rfl, ?_, fun r hr => ?_⟩
  · have := all_take_prefix l k
    exact List.prefix_take_iff.2 ⟨this, h1⟩
  · exfalso
    rcases Nat.lt_or_ge k l.length with hlt | hge
    · have h3 : n < (all (l.take (k + 1))).length := by rcases h2 with h | h <;> omega
      rw [all_take_succ l k hlt, List.length_append] at h3
      have p1 := pre_at hF (List.prefix_refl _) k hlt
      have p2 : Pre r ((all l).drop (all (l.take k)).length) := by
        refine pre_mono hr ?_
        rw [List.drop_take]
        exact List.take_prefix _ _
      have e := pre_unique p1 p2
      have h4 := hr.2.length_le
      rw [← e] at h4
      simp at h4
      omega
    · have hk' : k = l.length := by omega
      refine no_short ?_ r hr
      rw [hk', List.take_length]
      simp; omega
theorem scan_more {l m : List Rec} {t : List UInt8} {u : Nat} (hF : Foll l) (h : IsScan (all l ++ t) m u) : l <+: m ∧ (all l).length ≤ u := by
  have h1 := longest hF (List.prefix_append _ _) h
  refine ⟨h1, ?_⟩
  rw [h.2.1]
  obtain ⟨s, rfl⟩ := h1
  rw [all_append]; simp
theorem scan_back {b : List UInt8} {l : List Rec} {u : Nat} (h : IsScan b l u) : all l = b.take u ∧ IsScan (b.take u) l u := by
  obtain ⟨hF, rfl, hp, _⟩ := h
  have e := List.prefix_iff_eq_take.1 hp
  refine ⟨e, hF, rfl, by rw [← e]; exact List.prefix_refl _, fun r hr => ?_⟩
  exact absurd hr (no_short (by simp) r)

theorem ofB_inj {a b : UInt8} (h : Crc.ofB a = Crc.ofB b) : a = b := by
  have h1 := congrArg BitVec.toNat h
  unfold Crc.ofB at h1
  rw [BitVec.toNat_ofNat, BitVec.toNat_ofNat] at h1
  have ha := a.toNat_lt
  have hb := b.toNat_lt
  exact UInt8.toNat_inj.1 (by omega)
theorem xor_left {a b c : BitVec 32} (h : a ^^^ b = a ^^^ c) : b = c := by
  have := congrArg (a ^^^ ·) h
  simpa [← BitVec.xor_assoc] using this
theorem xor_right {a b c : BitVec 32} (h : a ^^^ c = b ^^^ c) : a = b := by
  rw [BitVec.xor_comm a, BitVec.xor_comm b] at h; exact xor_left h
theorem steps_inj (l : List UInt8) : ∀ {r s : BitVec 32}, Crc.steps r l = Crc.steps s l → r = s := by
  induction l with
  | nil => intro r s h; exact h
  | cons b l ih => intro r s h; exact xor_right (Crc.it_inj 8 (ih (r := Crc.stepB r b) (s := Crc.stepB s b) h))
theorem sum_byte (p q : List UInt8) (a b : UInt8) (h : Crc.sum (p ++ a :: q) = Crc.sum (p ++ b :: q)) : a = b := by
  unfold Crc.sum Crc.upd at h
  have h1 := BitVec.not_inj.1 h
  rw [Crc.steps_append, Crc.steps_append] at h1
  exact ofB_inj (xor_left (Crc.it_inj 8 (steps_inj q (r := Crc.stepB _ a) (s := Crc.stepB _ b) h1)))
theorem sum_set (l : List UInt8) (i : Nat) (h : i < l.length) (x : UInt8) (hs : Crc.sum (l.set i x) = Crc.sum l) : x = l[i] := by
  have e1 : l.set i x = l.take i ++ x :: l.drop (i + 1) := by rw [List.set_eq_take_append_cons_drop, if_pos h]
  have e2 : l = l.take i ++ l[i] :: l.drop (i + 1) := by
    conv => lhs; rw [← List.take_append_drop i l, List.drop_eq_getElem_cons h]
  rw [e1] at hs
  exact sum_byte (l.take i) (l.drop (i + 1)) _ _ (hs.trans (congrArg Crc.sum e2))

/-- One byte of a record that is not one of its length, changed: no record's bytes. -/
theorem enc_set {r s : Rec} (w : Nat) (x : UInt8) (h4 : 4 ≤ w) (hw : w < (enc r).length) (hl : s.data.length = r.data.length) (he : enc s = (enc r).set w x) : x = (enc r)[w] := by
  unfold enc at he
  rw [List.set_append] at he
  split at he
  · rename_i h8
    obtain ⟨e1, e2⟩ := List.append_inj he (by simp)
    obtain ⟨e3, e4⟩ := List.append_inj e2 (by simp)
    have e5 := w4_inj e3
    rw [e1, e4, ← List.set_append_left _ _ h8] at e5
    have := sum_set _ _ (by simp at h8; simp; omega) _ e5
    rw [this, List.getElem_append_left h8]
    simp only [enc]
    rw [List.getElem_append_left h8]
  · rename_i h8
    obtain ⟨e1, e2⟩ := List.append_inj he (by simp)
    rw [head_length] at e2 h8
    rw [List.set_append] at e2
    split at e2
    · rename_i h12
      obtain ⟨e3, e4⟩ := List.append_inj e2 (by simp)
      rw [e1, e4] at e3
      have h12' : w - 8 < 4 := h12
      have : (w4 (Crc.sum (head r ++ r.data)))[w - 8] = x := by
        have h9 := congrArg (fun l : List UInt8 => l[w - 8]?) e3
        simp only [List.getElem?_set_self h12, List.getElem?_eq_getElem h12] at h9
        exact Option.some.inj h9
      rw [← this]
      simp only [enc]
      rw [List.getElem_append_right (by simp; omega)]
      rw [List.getElem_append_left (by simp; omega)]
      rfl
    · rename_i h12
      obtain ⟨e3, e4⟩ := List.append_inj e2 (by simp)
      have e5 := w4_inj e3
      rw [w4_length] at h12 e4
      have hw' : w - 8 - 4 < r.data.length := by rw [enc_length] at hw; omega
      rw [e1, e4] at e5
      rw [show head r ++ r.data.set (w - 8 - 4) x = (head r ++ r.data).set (w - 4) x by
        rw [List.set_append_right _ _ (by simp; omega)]; congr 2] at e5
      have := sum_set _ _ (by simp; omega) _ e5
      rw [this]
      simp only [enc]
      rw [List.getElem_append_right (by simp; omega), List.getElem_append_right (by simp; omega), List.getElem_append_right (by simp; omega)]
      congr 1
theorem scan_flip {l : List Rec} (hF : Foll l) (k w : Nat) (hk : k < l.length) (h4 : 4 ≤ w) (hw : w < 12 + l[k].data.length) (x : UInt8)
    (hx : ∀ h : (all (l.take k)).length + w < (all l).length, x ≠ (all l)[(all (l.take k)).length + w]) :
    IsScan ((all l).set ((all (l.take k)).length + w) x) (l.take k) (all (l.take k)).length := by
  have hw' : w < (enc l[k]).length := by rw [enc_length]; exact hw
  have e : all l = all (l.take k) ++ (enc l[k] ++ all (l.drop (k + 1))) := by
    conv => lhs; rw [← List.take_append_drop k l, all_append, List.drop_eq_getElem_cons hk, all_cons]
  have es : (all l).set ((all (l.take k)).length + w) x = all (l.take k) ++ ((enc l[k]).set w x ++ all (l.drop (k + 1))) := by
    rw [e, List.set_append_right _ _ (by omega), Nat.add_sub_cancel_left, List.set_append_left _ _ hw']
  have ex : x ≠ (enc l[k])[w] := by
    have hlen : (all (l.take k)).length + w < (all l).length := by
      have := congrArg List.length e
      simp only [List.length_append] at this
      omega
    have h1 := hx hlen
    intro h2
    apply h1
    rw [h2]
    have h3 : (all l)[(all (l.take k)).length + w]? = some (enc l[k])[w] := by
      rw [e, List.getElem?_append_right (by omega), Nat.add_sub_cancel_left, List.getElem?_append_left hw', List.getElem?_eq_getElem hw']
    rw [List.getElem?_eq_getElem hlen] at h3
    exact (Option.some.inj h3).symm
  rw [es]
  refine ⟨foll_take hF k, rfl, List.prefix_append _ _, fun s hs _ => ?_⟩
  rw [List.drop_left' rfl] at hs
  have hlen : s.data.length = l[k].data.length := by
    have h1 := (pre_facts hs).2.1
    have h2 := (pre_facts (r := l[k]) (b := enc l[k]) ⟨(hF k hk).1, List.prefix_refl _⟩).2.1
    rw [← h1, ← h2]
    congr 1
    unfold rd
    simp only [List.getD_eq_getElem?_getD]
    rw [List.getElem?_append_left (by simp; omega), List.getElem?_append_left (by simp; omega), List.getElem?_append_left (by simp; omega), List.getElem?_append_left (by simp; omega)]
    rw [List.getElem?_set_ne (by omega), List.getElem?_set_ne (by omega), List.getElem?_set_ne (by omega), List.getElem?_set_ne (by omega)]
  have h5 := List.prefix_iff_eq_take.1 hs.2
  rw [List.take_left' (by simp [enc_length, hlen])] at h5
  exact ex (enc_set w x h4 hw' hlen h5)
end Frame
end Go.Proofs.Ytehagdpcegpbjaa
