/- Deltas as values and as bytes: what stands for a part, and what the bytes of a delta are. Mathematics, own work. -/
import Derived.Test.YtjgijpfknhfnjaaCvElem
import Derived.Test.YtjgijpfknhfnjaaDelta
set_option linter.unusedVariables false
set_option linter.unusedSimpArgs false
namespace Go.Proofs.Ytjgijpfknhfnjaa
open Codec (V)

namespace Dl
def pv (x : Part) : V := if inserts x then Obj.B x.b else Obj.L [Obj.N x.p, Obj.N x.n]
def dv (l : List Part) : V := Obj.L (l.map pv)
def encode (l : List Part) : List UInt8 × Int := if valid l = 0 then Codec.encode (dv l) else ([], valid l)
/-- The part that a value stands for. -/
def pin (v : V) : Part := if v.l.length = 2 then ⟨(v.l.getD 0 V.zero).num, (v.l.getD 1 V.zero).num, []⟩ else ⟨0, 0, v.b⟩
def decode (b : List UInt8) : List Part × Int :=
  if (Codec.decode b).2 ≠ 0 then ([], 12)
  else if (encode ((Codec.decode b).1.l.map pin)).2 ≠ 0 ∨ (encode ((Codec.decode b).1.l.map pin)).1 ≠ b then ([], 12)
  else ((Codec.decode b).1.l.map pin, 0)
/-- What the reference asks of an element. -/
def lc (x : V) : Bool := x.kind == 3 && (decide (x.l.length = 2) && ((x.l.getD 0 V.zero).kind == 1 && ((x.l.getD 1 V.zero).kind == 1 && (decide ((x.l.getD 0 V.zero).num ≤ 2000) && decide ((x.l.getD 1 V.zero).num ≤ 2000)))))
def rp (x : V) : Part := if lc x then ⟨(x.l.getD 0 V.zero).num, (x.l.getD 1 V.zero).num, []⟩ else ⟨0, 0, x.b⟩
def okp (x : V) : Bool := if lc x then copies (rp x) else x.kind == 2 && inserts (rp x)
def rdecode (b : List UInt8) : List Part × Int :=
  if (Codec.decode b).2 ≠ 0 ∨ (Codec.decode b).1.kind ≠ 3 ∨ 200 < (Codec.decode b).1.l.length then ([], 12)
  else if (Codec.decode b).1.l.all okp then ((Codec.decode b).1.l.map rp, 0) else ([], 12)

theorem part_eq {x y : Part} (h1 : x.p = y.p) (h2 : x.n = y.n) (h3 : x.b = y.b) : x = y := by
  cases x; cases y; simp_all
theorem pin_pv {x : Part} (h : fine x = true) : pin (pv x) = x := by
  unfold fine at h
  rw [Bool.or_eq_true] at h
  unfold pv
  by_cases hi : inserts x = true
  · rw [if_pos hi]
    rw [inserts_iff] at hi
    exact part_eq hi.2.1.symm hi.1.symm rfl
  · rw [if_neg hi]
    rcases h with h | h
    · rw [copies_iff] at h
      exact part_eq rfl rfl (List.eq_nil_of_length_eq_zero h.2.2.2.2).symm
    · exact absurd h hi
theorem kinds_pv (d : Nat) (x : Part) : Codec.kinds (d + 2) (pv x) = true := by
  unfold pv
  split
  · exact kinds_B _ _
  · refine kinds_L _ _ fun v hv => ?_
    simp at hv
    rcases hv with rfl | rfl <;> exact kinds_N _ _
theorem kinds_dv (l : List Part) : Codec.kinds 6 (dv l) = true := kinds_L _ _ fun v hv => by
  obtain ⟨x, _, rfl⟩ := List.mem_map.1 hv
  exact kinds_pv _ x
theorem wf_N (d : Nat) {n : Int} (h0 : -9223372036854775808 ≤ n) (h1 : n ≤ 9223372036854775807) : Codec.wf (d + 1) (Obj.N n) := ⟨h0, h1, by simp [Obj.N, V.b], by simp [Obj.N, V.l], by simp [Obj.N, V.l]⟩
theorem wf_B (d : Nat) {l : List UInt8} (h : l.length < 9223372036854775808) : Codec.wf (d + 1) (Obj.B l) := ⟨by simp [Obj.B, V.num], by simp [Obj.B, V.num], h, by simp [Obj.B, V.l], by simp [Obj.B, V.l]⟩
theorem wf_L (d : Nat) {l : List V} (h : l.length < 9223372036854775808) (k : ∀ v ∈ l, Codec.wf d v) : Codec.wf (d + 1) (Obj.L l) := ⟨by simp [Obj.L, V.num], by simp [Obj.L, V.num], by simp [Obj.L, V.b], h, k⟩
theorem fine_rng {x : Part} (h : fine x = true) : 0 ≤ x.p ∧ x.p ≤ 2000 ∧ 0 ≤ x.n ∧ x.n ≤ 2000 ∧ x.b.length ≤ 2000 := by
  unfold fine at h
  rw [Bool.or_eq_true, copies_iff, inserts_iff] at h
  rcases h with h | h <;> omega
theorem wf_dv {l : List Part} (h : valid l = 0) : Codec.wf 6 (dv l) := by
  rw [valid_zero] at h
  refine wf_L _ (by simp; omega) fun v hv => ?_
  obtain ⟨x, hx, rfl⟩ := List.mem_map.1 hv
  have hr := fine_rng (h.2 x hx)
  unfold pv
  split
  · exact wf_B _ (by omega)
  · refine wf_L _ (by simp) fun v hv => ?_
    simp at hv
    rcases hv with rfl | rfl <;> exact wf_N _ (by omega) (by omega)
theorem fits_dv {l : List Part} (h : valid l = 0) : Fits (dv l) := by
  intro _
  rw [valid_zero] at h
  have : (Codec.enc 6 (Obj.L (l.map pv))).length ≤ 2016 * (l.map pv).length + 4 := enc_L 5 (l.map pv) 2016 (by simp; omega) (fun v hv => by
    obtain ⟨x, hx, rfl⟩ := List.mem_map.1 hv
    have hr := fine_rng (h.2 x hx)
    unfold pv
    split
    · have : (Codec.enc 5 (Obj.B x.b)).length ≤ x.b.length + 4 := enc_B 4 x.b (by omega)
      omega
    · have hf : ∀ n : Int, 0 ≤ n → n ≤ 2000 → Codec.fold n < 2097152 := fun n h0 h1 => by unfold Codec.fold; rw [if_pos h0]; omega
      have : (Codec.enc 5 (Obj.L [Obj.N x.p, Obj.N x.n])).length ≤ 4 * ([Obj.N x.p, Obj.N x.n] : List V).length + 4 := enc_L 4 [Obj.N x.p, Obj.N x.n] 4 (by simp) (fun v hv => by
        simp at hv
        rcases hv with rfl | rfl
        · exact enc_N 3 _ (hf _ (by omega) (by omega))
        · exact enc_N 3 _ (hf _ (by omega) (by omega)))
      simp at this; omega)
  rw [List.length_map] at this
  show (Codec.enc 6 (Obj.L (l.map pv))).length ≤ _
  omega
theorem dec_ok {b : List UInt8} (hb : b.length < 9223372036854775808) (h : (Codec.decode b).2 = 0) : Codec.check (Codec.decode b).1 = 0 ∧ Codec.wf 6 (Codec.decode b).1 ∧ b = Codec.enc 6 (Codec.decode b).1 := by
  unfold Codec.decode at h ⊢
  split at h
  · cases h
  · rename_i h1
    rw [if_neg h1]
    have h2 : (Codec.next b).2.2 = 0 := by omega
    have h3 : (Codec.next b).2.1 = b.length := by omega
    have hn : Codec.next b = ((Codec.next b).1, (b.length : Int), 0) := by rw [← h3, ← h2]
    obtain ⟨k1, k2, k3, k4⟩ := Codec.next_ok hb hn
    refine ⟨k1, k2, ?_⟩
    show b = Codec.enc 6 (Codec.next b).1
    have hl : b.length = (Codec.enc 6 (Codec.next b).1).length := by omega
    have : b.drop (Codec.enc 6 (Codec.next b).1).length = [] := List.drop_of_length_le (by omega)
    rw [this, List.append_nil] at k4
    exact k4
theorem enc_ok {l : List Part} (h : (encode l).2 = 0) : valid l = 0 ∧ Codec.check (dv l) = 0 ∧ (encode l).1 = Codec.enc 6 (dv l) := by
  unfold encode at h ⊢
  split at h
  · rename_i hv
    rw [if_pos hv]
    unfold Codec.encode at h ⊢
    split at h
    · rename_i hc; exact absurd h hc
    · rename_i hc
      have hc' : Codec.check (dv l) = 0 := Classical.not_not.1 hc
      rw [if_neg hc]
      exact ⟨hv, hc', rfl⟩
  · rename_i hv; exact absurd h hv
theorem enc_of {l : List Part} (hv : valid l = 0) (hc : Codec.check (dv l) = 0) : encode l = (Codec.enc 6 (dv l), 0) := by
  unfold encode
  rw [if_pos hv]
  unfold Codec.encode
  rw [if_neg (by rw [hc]; simp)]
theorem pins {l : List Part} (h : ∀ x ∈ l, fine x = true) : (l.map pv).map pin = l := by
  rw [List.map_map]
  exact (List.map_congr_left fun x hx => by show pin (pv x) = id x; exact pin_pv (h x hx)).trans (List.map_id l)
theorem decode_encode {l : List Part} (h : (encode l).2 = 0) : decode (encode l).1 = (l, 0) := by
  obtain ⟨hv, hc, he⟩ := enc_ok h
  have hd := Codec.decode_enc hc (wf_dv hv)
  have hp : (dv l).l.map pin = l := pins (valid_zero.1 hv).2
  unfold decode
  rw [he, hd]
  simp only [ne_eq, not_true, if_false]
  rw [hp, enc_of hv hc]
  simp
theorem decode_ok {b : List UInt8} (h : (decode b).2 = 0) : encode (decode b).1 = (b, 0) := by
  unfold decode at h ⊢
  split at h
  · cases h
  · rename_i h1
    split at h
    · cases h
    · rename_i h2
      rw [if_neg h1, if_neg h2]
      have a1 : (encode ((Codec.decode b).1.l.map pin)).2 = 0 := Classical.not_not.1 fun e => h2 (.inl e)
      have a2 : (encode ((Codec.decode b).1.l.map pin)).1 = b := Classical.not_not.1 fun e => h2 (.inr e)
      exact Prod.ext a2 a1
theorem okp_pin {d : Nat} {x : V} (hk : Codec.kinds (d + 1) x = true) (h : okp x = true) : rp x = pin x ∧ fine (pin x) = true ∧ pv (pin x) = x := by
  unfold okp at h
  by_cases hl : lc x = true
  · rw [if_pos hl] at h
    have hr : rp x = ⟨(x.l.getD 0 V.zero).num, (x.l.getD 1 V.zero).num, []⟩ := by unfold rp; rw [if_pos hl]
    unfold lc at hl
    simp only [Bool.and_eq_true, beq_iff_eq, decide_eq_true_eq] at hl
    obtain ⟨h3, h2, ka, kb, _, _⟩ := hl
    have hp : rp x = pin x := by rw [hr]; unfold pin; rw [if_pos h2]
    refine ⟨hp, by rw [← hp]; unfold fine; rw [h]; rfl, ?_⟩
    have hni : ¬ inserts (pin x) = true := by rw [← hp]; rw [copies_iff] at h; rw [inserts_iff]; omega
    unfold pv
    rw [if_neg hni, ← hp, hr]
    rcases Codec.kinds_cases hk with ⟨n, rfl⟩ | ⟨b, rfl⟩ | ⟨l, rfl, hx⟩
    · simp [V.kind] at h3
    · simp [V.kind] at h3
    · simp only [V.l] at h2 ka kb hx ⊢
      match l, h2 with
      | [u, v], _ =>
        simp only [List.getD_cons_zero, List.getD_cons_succ] at ka kb ⊢
        cases d with
        | zero => have := hx u (by simp); simp [Codec.kinds] at this
        | succ d =>
          rcases Codec.kinds_cases (hx u (by simp)) with ⟨n, rfl⟩ | ⟨b, rfl⟩ | ⟨l, rfl, _⟩
          · rcases Codec.kinds_cases (hx v (by simp)) with ⟨m, rfl⟩ | ⟨b, rfl⟩ | ⟨l, rfl, _⟩
            · rfl
            · simp [V.kind] at kb
            · simp [V.kind] at kb
          · simp [V.kind] at ka
          · simp [V.kind] at ka
  · rw [if_neg hl] at h
    simp only [Bool.and_eq_true, beq_iff_eq] at h
    have hr : rp x = ⟨0, 0, x.b⟩ := by unfold rp; rw [if_neg hl]
    rcases Codec.kinds_cases hk with ⟨n, rfl⟩ | ⟨b, rfl⟩ | ⟨l, rfl, hx⟩
    · simp [V.kind] at h
    · have hp : pin (V.mk 2 0 b []) = ⟨0, 0, b⟩ := rfl
      rw [hr] at h
      refine ⟨hr, by rw [hp]; unfold fine; rw [show inserts ⟨0, 0, b⟩ = true from h.2, Bool.or_true], ?_⟩
      rw [hp]
      unfold pv
      rw [if_pos (show inserts ⟨0, 0, b⟩ = true from h.2)]
      rfl
    · simp [V.kind] at h
theorem okp_pv {x : Part} (h : fine x = true) : okp (pv x) = true := by
  unfold fine at h
  rw [Bool.or_eq_true] at h
  by_cases hi : inserts x = true
  · have e : pv x = Obj.B x.b := by unfold pv; rw [if_pos hi]
    rw [e]
    have hl : lc (Obj.B x.b) = false := rfl
    have hr : rp (Obj.B x.b) = ⟨0, 0, x.b⟩ := rfl
    unfold okp
    rw [hl, hr]
    rw [inserts_iff] at hi
    simp only [Bool.false_eq_true, if_false, Bool.and_eq_true]
    refine ⟨rfl, ?_⟩
    rw [inserts_iff]
    exact ⟨rfl, rfl, hi.2.2⟩
  · have hc : copies x = true := h.resolve_right hi
    have e : pv x = Obj.L [Obj.N x.p, Obj.N x.n] := by unfold pv; rw [if_neg hi]
    rw [e]
    rw [copies_iff] at hc
    have hl : lc (Obj.L [Obj.N x.p, Obj.N x.n]) = true := by
      unfold lc
      simp [Obj.L, Obj.N, V.kind, V.l, V.num]
      omega
    have hr : rp (Obj.L [Obj.N x.p, Obj.N x.n]) = ⟨x.p, x.n, []⟩ := by unfold rp; rw [if_pos hl]; rfl
    unfold okp
    rw [hl, hr, if_pos rfl, copies_iff]
    exact ⟨hc.1, hc.2.1, hc.2.2.1, hc.2.2.2.1, rfl⟩
/-- The reference's way to read a delta is that of the code. -/
theorem rdecode_eq {b : List UInt8} (hb : b.length < 9223372036854775808) : rdecode b = decode b := by
  unfold rdecode decode
  by_cases he : (Codec.decode b).2 = 0
  · obtain ⟨hc, hw, hbe⟩ := dec_ok hb he
    generalize (Codec.decode b).1 = v at *
    have hk : Codec.kinds 6 v = true := by
      unfold Codec.check at hc
      split at hc
      · cases hc
      · rename_i h; simpa using h
    have hx : ∀ x ∈ v.l, Codec.kinds 5 x = true := fun x hxm => by
      rcases Codec.kinds_cases hk with ⟨n, rfl⟩ | ⟨b, rfl⟩ | ⟨l, rfl, hx⟩
      · simp [V.l] at hxm
      · simp [V.l] at hxm
      · exact hx x hxm
    by_cases hA : v.kind = 3 ∧ v.l.length ≤ 200 ∧ v.l.all okp = true
    · obtain ⟨h3, h2, ho⟩ := hA
      have ho' := List.all_eq_true.1 ho
      have hpe : v.l.map rp = v.l.map pin := List.map_congr_left fun x hm => (okp_pin (hx x hm) (ho' x hm)).1
      have hval : valid (v.l.map pin) = 0 := valid_zero.2 ⟨by simpa using h2, fun y hy => by
        obtain ⟨x, hm, rfl⟩ := List.mem_map.1 hy
        exact (okp_pin (hx x hm) (ho' x hm)).2.1⟩
      have hdv : dv (v.l.map pin) = v := by
        unfold dv
        rw [List.map_map]
        have : v.l.map (pv ∘ pin) = v.l := (List.map_congr_left fun x hm => by show pv (pin x) = id x; exact (okp_pin (hx x hm) (ho' x hm)).2.2).trans (List.map_id _)
        rw [this]
        rcases Codec.kinds_cases hk with ⟨n, rfl⟩ | ⟨b, rfl⟩ | ⟨l, rfl, _⟩
        · simp [V.kind] at h3
        · simp [V.kind] at h3
        · rfl
      have hee := enc_of hval (by rw [hdv]; exact hc)
      rw [if_neg (by omega), if_pos ho, if_neg (by omega), if_neg (by rw [hee, hdv, ← hbe]; simp), hpe]
    · have hL : (if (Codec.decode b).2 ≠ 0 ∨ v.kind ≠ 3 ∨ 200 < v.l.length then (([], 12) : List Part × Int) else if v.l.all okp then (v.l.map rp, 0) else ([], 12)) = ([], 12) := by
        split
        · rfl
        · rename_i h
          rw [if_neg]
          intro ho
          exact hA ⟨by omega, by omega, ho⟩
      rw [hL, if_neg (by omega), if_pos]
      refine Classical.byContradiction fun hn => hA ?_
      have a1 : (encode (v.l.map pin)).2 = 0 := Classical.not_not.1 fun e => hn (.inl e)
      have a2 : (encode (v.l.map pin)).1 = b := Classical.not_not.1 fun e => hn (.inr e)
      obtain ⟨k1, k2, k3⟩ := enc_ok a1
      have hvv : dv (v.l.map pin) = v := Codec.enc_prefix k2 hc (wf_dv k1) hw (t := []) (s := []) (by rw [List.append_nil, List.append_nil, ← k3, a2]; exact hbe)
      have k4 := valid_zero.1 k1
      have hl : v.l = (v.l.map pin).map pv := by
        conv => lhs; rw [← hvv]
        rfl
      refine ⟨by rw [← hvv]; rfl, by simpa using k4.1, ?_⟩
      rw [hl, List.all_eq_true]
      intro y hy
      obtain ⟨x, hm, rfl⟩ := List.mem_map.1 hy
      exact okp_pv (k4.2 x hm)
  · rw [if_pos (.inl he), if_pos he]
end Dl
end Go.Proofs.Ytjgijpfknhfnjaa
