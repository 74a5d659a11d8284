/- bytes.Contains, bytes.Index and bytes.Clone, as deltas call them. Own work. -/
import Derived.Test.YtjgijpfknhfnjaaDlShelf
import Derived.Test.YtjgijpfknhfnjaaDlMem
set_option linter.unusedVariables false
set_option linter.unusedSimpArgs false
namespace Go.Proofs.Ytjgijpfknhfnjaa
open Go.RowKit

def ints (l : List UInt8) : List Int := l.map fun b => (b.toNat : Int)
theorem ints_len (l : List UInt8) : (ints l).length = l.length := by simp [ints]
theorem ints_rng (l : List UInt8) : ∀ x ∈ ints l, 0 ≤ x ∧ x < 256 := by
  intro x hx
  obtain ⟨b, _, rfl⟩ := List.mem_map.1 hx
  have := b.toNat_lt
  omega
theorem ints_bytes (l : List UInt8) : Lib.bytesOf (ints l) = l := by
  unfold Lib.bytesOf ints
  rw [List.map_map]
  conv => rhs; rw [← List.map_id l]
  apply List.map_congr_left
  intro b _
  simp
theorem ints_at {w : World} {lo : Nat} {ad : Addr} {l : List UInt8} (h : RB w lo (some ad) l) : ∀ i, i < l.length → w.cell? (ad.add i) = some (.int .u8 ((ints l).getD i 0)) := by
  intro i hi
  rw [h.cell hi rfl]
  unfold ints
  simp [hi]
theorem spotL_none {w : World} {p : Addr} {v : Value} (h : w.cell? p = some v) : p = ⟨p.block, p.off, none⟩ := by
  obtain ⟨b, o, s⟩ := p
  cases s with
  | none => rfl
  | some s =>
    unfold World.cell? at h
    split at h
    · simp at h
    · cases h
/-- The variable of the library that bytes.Index reads. -/
def MaxL (w : World) : Prop := ∃ m : Int, w.cell? ⟨0, 0, none⟩ = some (.int .i64 m)
theorem MaxL.ab {w w' : World} (h : MaxL w) (k : Ab w w') : MaxL w' := by
  obtain ⟨m, hm⟩ := h
  exact ⟨m, k.at hm⟩
theorem bcontains_any (A D : Option Addr) (c d : Nat) (s t : List UInt8) (w : World) (hM : MaxL w) (hs : RB w 0 A s) (ht : RB w 0 D t) (hc : s.length ≤ c) (hA : A = none → c = 0) (hsl : s.length ≤ 100000) (htl : t.length ≤ 100000) :
    Calls Try.prog 63 #[.slice A s.length c, .slice D t.length d] w fun e w' => e = .returned (.bool (Dl.has s t)) ∧ Ab w w' := by
  obtain ⟨m, hm⟩ := hM
  cases A with
  | none =>
    have hs0 : s = [] := by
      cases s with
      | nil => rfl
      | cons x s => obtain ⟨_, h, _⟩ := hs (by simp); cases h
    obtain rfl := hA rfl
    subst hs0
    refine (Any.bytes_Contains_nil Try.lays186 D t.length d w (by omega) (fun h1 => ?_)).mono ?_
    · obtain ⟨ad, rfl, _, h3⟩ := ht (by omega)
      have h4 := h3 0 (by omega)
      have h5 : w.cell? ad = some (.int .u8 (t[0].toNat : Int)) := (show w.cell? ad = some (cb t[0]) by simpa [Addr.add] using h4)
      have h6 := spotL_none h5
      exact ⟨ad.block, ad.off, _, congrArg some h6, by rw [← h6]; exact h5⟩
    · rintro e w' ⟨rfl, rfl⟩
      refine ⟨?_, Ab.refl _⟩
      cases t with
      | nil => rw [Dl.has_nil]; rfl
      | cons x t =>
        have : Dl.has [] (x :: t) = false := by
          cases h : Dl.has [] (x :: t) with
          | false => rfl
          | true =>
            obtain ⟨i, _, r, h2⟩ := Dl.has_iff.1 h
            simp at h2
        rw [this]; rfl
  | some a1 =>
    cases t with
    | nil =>
      refine (Any.bytes_Contains_none Try.lays186 (some a1) D s.length c d w).mono ?_
      rintro e w' ⟨rfl, rfl⟩
      exact ⟨by rw [Dl.has_nil], Ab.refl _⟩
    | cons x t =>
      obtain ⟨ad, rfl, _, _⟩ := ht (by simp)
      have h := Any.bytes_Contains_at Try.lays186 a1 ad s.length c (x :: t).length d (ints s) (ints (x :: t)) m w (ints_len s) (ints_len _) (ints_rng s) (ints_rng _) (ints_at hs) (ints_at ht) hc (by omega) (by omega) hm
      rw [ints_bytes, ints_bytes] at h
      refine h.mono ?_
      rintro e w' ⟨rfl, q, rfl⟩
      exact ⟨rfl, Ab.drewN (Ab.refl _) q⟩
theorem bindex_any (A D : Option Addr) (c d : Nat) (s t : List UInt8) (w : World) (hM : MaxL w) (hs : RB w 0 A s) (ht : RB w 0 D t) (hc : s.length ≤ c) (hsl : s.length ≤ 100000) (htl : t.length ≤ 100000) (hs0 : 0 < s.length) (ht0 : 0 < t.length) :
    Calls Try.prog 31 #[.slice A s.length c, .slice D t.length d] w fun e w' => e = .returned (.int .i64 (Lib.index s t)) ∧ Ab w w' := by
  obtain ⟨m, hm⟩ := hM
  obtain ⟨a1, rfl, _, _⟩ := hs hs0
  obtain ⟨ad, rfl, _, _⟩ := ht ht0
  have h := Any.bytes_Index_at Try.lays185 a1 ad s.length c t.length d (ints s) (ints t) m w (ints_len s) (ints_len _) (ints_rng s) (ints_rng _) (ints_at hs) (ints_at ht) hc (by omega) (by omega) hm
  rw [ints_bytes, ints_bytes] at h
  refine h.mono ?_
  rintro e w' ⟨rfl, q, rfl⟩
  exact ⟨rfl, Ab.drewN (Ab.refl _) q⟩
theorem dlclone_any (D : Option Addr) (d : Nat) (t : List UInt8) (w : World) (ht : RB w 0 D t) (htl : t.length ≤ 100000) (ht0 : 0 < t.length) :
    Calls Try.prog 32 #[.slice D t.length d] w fun e w' => ∃ E ce, e = .returned (.slice E t.length ce) ∧ OR 5 w.heap.size w' E ce t ∧ Ab w w' := by
  obtain ⟨ad, rfl, _, _⟩ := ht ht0
  refine (Any.bytes_Clone_at Try.laysSlK4 ad t.length d (ints t) w (ints_len t) (by omega) (ints_at ht)).mono ?_
  rintro e w' ⟨v', rfl, ho, _, hb⟩
  have e1 : (ints t).map (Value.int .u8) = t.map cb := by unfold ints; rw [List.map_map]; rfl
  rw [e1] at ho
  rcases ho.2 with ⟨_, h0⟩ | ⟨g, cap, cur, hv, h⟩
  · omega
  · subst hv
    exact ⟨_, cap, rfl, ⟨ho.1, .inr ⟨g, cap, cur, rfl, h⟩⟩, hb⟩
end Go.Proofs.Ytjgijpfknhfnjaa
