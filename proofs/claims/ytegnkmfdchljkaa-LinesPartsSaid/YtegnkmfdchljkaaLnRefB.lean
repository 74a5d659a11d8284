/- The reference's Parts, Feed, Text, Lines and Check, walked. Own work. -/
import Derived.Test.YtegnkmfdchljkaaLnRefA
import Derived.Test.YtegnkmfdchljkaaLnOwn
set_option linter.unusedVariables false
set_option linter.unusedSimpArgs false
namespace Go.Proofs.Ytegnkmfdchljkaa
open Go.RowKit

def RetPt (w : World) (l : List UInt8) (e : Ending) (w' : World) : Prop := ∃ B d ps, e = .returned (.slice B ps.length d) ∧ Ln.L ps = Ln.parts l ∧ SM w' B d ps ∧ Ab w w'
theorem RetPt.mk {w w' : World} {l : List UInt8} {e : Ending} {B : Option Addr} {d n : Nat} {ps : List ByteArray} (hn : ps.length = n) (he : e = .returned (.slice B n d)) (hL : Ln.L ps = Ln.parts l) (h1 : SM w' B d ps) (h2 : Ab w w') : RetPt w l e w' := by
  subst hn
  exact ⟨B, d, ps, he, hL, h1, h2⟩
/-- How far Parts is: the lines done, where the next one begins. -/
structure Pq (l : List UInt8) (k f : Nat) (us : List ByteArray) : Prop where
  fk : f ≤ k
  kl : k ≤ l.length
  us : ∃ ds, us = ds ++ [⟨#[]⟩] ∧ ds.length ≤ k ∧ (∀ p ∈ ds, p.size ≤ l.length) ∧ Ln.L ds ++ Ln.parts (l.drop f) = Ln.parts l
  no : 10 ∉ (l.take k).drop f
theorem Pq.start (l : List UInt8) : Pq l 0 0 [⟨#[]⟩] := ⟨Nat.le_refl _, Nat.zero_le _, ⟨[], rfl, Nat.le_refl _, by simp, rfl⟩, by simp⟩
theorem Pq.seg {l : List UInt8} {k f : Nat} (hf : f ≤ k) (hk : k ≤ l.length) : l.drop f = (l.take k).drop f ++ l.drop k := by
  conv => lhs; rw [← List.take_append_drop k l]
  rw [List.drop_append_of_le_length (by simp; omega)]
theorem Pq.other {l : List UInt8} {k f : Nat} {us : List ByteArray} (h : Pq l k f us) (hk : k < l.length) (hn : l[k] ≠ 10) : Pq l (k + 1) f us := by
  obtain ⟨ds, h1, h2, h3, h4⟩ := h.us
  refine ⟨by have := h.fk; omega, hk, ⟨ds, h1, by omega, h3, h4⟩, ?_⟩
  rw [List.take_succ_eq_append_getElem hk, List.drop_append_of_le_length (by have := h.fk; simp; omega)]
  intro hm
  rcases List.mem_append.1 hm with hm | hm
  · exact h.no hm
  · simp at hm; exact hn hm.symm
theorem Pq.feed {l : List UInt8} {k f : Nat} {us : List ByteArray} (h : Pq l k f us) (hk : k < l.length) (hn : l[k] = 10) : Pq l (k + 1) (k + 1) (us.set (us.length - 1) ⟨((l.take k).drop f).toArray⟩ ++ [⟨#[]⟩]) := by
  obtain ⟨ds, h1, h2, h3, h4⟩ := h.us
  have hfk := h.fk
  refine ⟨Nat.le_refl _, hk, ⟨ds ++ [⟨((l.take k).drop f).toArray⟩], ?_, by simp; omega, ?_, ?_⟩, by simp⟩
  · rw [h1]
    simp
  · intro p hp
    rcases List.mem_append.1 hp with hp | hp
    · exact h3 p hp
    · simp at hp
      subst hp
      show ((l.take k).drop f).length ≤ _
      simp
      omega
  · rw [← h4, Pq.seg hfk (Nat.le_of_lt hk), List.drop_eq_getElem_cons hk, hn, Ln.parts_split _ _ h.no]
    simp
theorem Pq.done {l : List UInt8} {f : Nat} {us : List ByteArray} (h : Pq l l.length f us) : Ln.L (us.set (us.length - 1) ⟨(l.drop f).toArray⟩) = Ln.parts l ∧ (us.set (us.length - 1) ⟨(l.drop f).toArray⟩).length ≤ l.length + 1 ∧ ∀ p ∈ us.set (us.length - 1) ⟨(l.drop f).toArray⟩, p.size ≤ l.length := by
  obtain ⟨ds, h1, h2, h3, h4⟩ := h.us
  have hn := h.no
  rw [List.take_length] at hn
  have e : us.set (us.length - 1) ⟨(l.drop f).toArray⟩ = ds ++ [⟨(l.drop f).toArray⟩] := by rw [h1]; simp
  rw [e]
  refine ⟨?_, by simp; omega, ?_⟩
  · rw [← h4, Ln.parts_none _ hn]
    simp
  · intro p hp
    rcases List.mem_append.1 hp with hp | hp
    · exact h3 p hp
    · simp at hp
      subst hp
      show (l.drop f).length ≤ _
      simp
theorem Pq.len {l : List UInt8} {k f : Nat} {us : List ByteArray} (h : Pq l k f us) : 0 < us.length ∧ us.length ≤ k + 1 := by
  obtain ⟨ds, h1, h2, _⟩ := h.us
  rw [h1]
  simp
  omega
theorem rb_part {w : World} {ad : Addr} {l : List UInt8} (h : RB w 0 (some ad) l) (f k : Nat) (hf : f ≤ k) (hk : k ≤ l.length) (B : Option Addr) (hB : f < k → B = some (ad.add f)) : RB w 0 B ((l.take k).drop f) := by
  intro hl
  have hl' : ((l.take k).drop f).length = k - f := by simp; omega
  obtain ⟨a, h1, _, h3⟩ := h (by omega)
  injection h1 with h1
  subst h1
  refine ⟨_, hB (by omega), Nat.zero_le _, fun i hi => ?_⟩
  rw [addr_add_add, h3 (f + i) (by omega)]
  simp
set_option maxHeartbeats 4000000 in
theorem rparts_any (A : Option Addr) (l : List UInt8) (c : Nat) (w : World) (hb : RB w 0 A l) (hc : l.length ≤ c) (hA : A = none → c = 0) (ll : l.length ≤ 90000) (hc2 : c ≤ 9223372036854775807) : Calls Try.prog 23 #[.slice A l.length c] w (RetPt w l) := by
  have HB := Lib.hid hb
  clear hb
  go_enter Try.func23, Try.ntmps23
  go_wp2_with fail
  go_loopw [3, 4, 5] (fun s f i w' => ∃ (k f' : Nat) (B : Option Addr) (d : Nat) (us : List ByteArray), Pq l k f' us ∧ i = .int .i64 k ∧ f = .int .i64 f' ∧ s = .slice B us.length d ∧ OwnS w.heap.size w' B d us ∧ Ab w w') (fun _ _ i _ => l.length - (intOf i).toNat)
  case atStart => exact ⟨0, 0, _, 1, _, Pq.start l, rfl, rfl, rfl, OwnS.one (Nat.le_refl _) (by (repeat (first | exact new_plain wnA | with_reducible refine old_alloc ?_ | with_reducible refine old_drew ?_ | with_reducible refine old_set ?_ wnA | with_reducible refine old_ab (by assumption) ?_))), abA⟩
  case round =>
    obtain ⟨k, f, B, d, us, hq, rfl, rfl, rfl, ho, hb⟩ := hrel
    rename World => w1
    obtain ⟨u0, u1⟩ := hq.len
    have hfk := hq.fk
    have hkl := hq.kl
    have HQ := Lib.hid hq
    clear hq
    obtain ⟨g, rfl, hg1, hg2⟩ := ho.form u0
    by_cases hlt : k < l.length
    · have hT : (k : Int) < l.length := by omega
      obtain ⟨ad, rfl, _, hcell⟩ := HB.out (by omega)
      have c0 : w1.cell? (ad.add k) = some (.int .u8 (l[k].toNat : Int)) := hb.at (hcell k hlt)
      clear hcell
      by_cases hn : l[k] = 10
      · rw [hn, show (((10 : UInt8).toNat : Nat) : Int) = 10 from rfl] at c0
        have hsl : ((l.take k).drop f).length = k - f := by simp; omega
        have cs := lnconv_str (c - f) ((rb_part HB.out f k hfk hkl (some (ad.add f)) (fun _ => rfl)).ab hb)
        rw [hsl] at cs
        have hN := Lib.hid (HQ.out.feed hlt hn)
        generalize (⟨((l.take k).drop f).toArray⟩ : ByteArray) = sg at *
        clear hsl
        obtain ⟨n1, hn1⟩ : ∃ n1, us.length = n1 + 1 := ⟨us.length - 1, by omega⟩
        have hcl := ho.cell (i := n1) (by omega)
        have hfr := ho.unfrozen n1
        have hix : ((us.length : Int) - 1).toNat = n1 := by omega
        have hi0 : (0 : Int) ≤ (us.length : Int) - 1 := by omega
        have hi1 : (us.length : Int) - 1 < us.length := by omega
        have hos := ho.store n1 sg
        have hvl : (us.set n1 sg).length = n1 + 1 := by simp; omega
        rw [hn1, Nat.add_sub_cancel] at hN
        generalize us.set n1 sg = vs at *
        have b9 : Ab w (w1.setCell ⟨g, n1, none⟩ (.string sg)) := hb.set hg1 _
        go_wp2_with (first
          | (at_builtin
             refine listAppS (ps := vs) (qs := [⟨#[]⟩]) (lo := w.heap.size) rfl _ _ rfl rfl rfl (by omega) rfl (hos.ab abA) (by simp; omega) ((OwnS.one (lo := 0) (Nat.zero_le _) (by (repeat (first | exact new_plain wnA | with_reducible refine old_alloc ?_ | with_reducible refine old_drew ?_ | with_reducible refine old_set ?_ wnA | with_reducible refine old_ab (by assumption) ?_)))).sm (by simp) (fun p hp => by simp at hp; subst hp; exact Nat.zero_le _)) (by omega) ?_
             intro A6 c6 w6 o6 f6
             have b6 := f6 w (by exact abA) (Nat.le_refl _)
             clear f6))
        go_roundw
        case rel => exact ⟨k + 1, k + 1, A6, c6, _, hN.out, by go_num, by go_num, by rw [List.length_append, hvl]; rfl, o6, b6⟩
        case measure => simp [intOf]; omega
      · have hN := HQ.out.other hlt hn
        have hne : ¬ (l[k].toNat : Int) = 10 := fun e => hn (by
          apply UInt8.toNat.inj
          have : l[k].toNat = 10 := by omega
          rw [this]; rfl)
        generalize l[k] = x at *
        go_wp2
        go_roundw
        case rel => exact ⟨k + 1, f, _, d, us, hN, by go_num, rfl, rfl, ho, hb⟩
        case measure => simp [intOf]; omega
    · obtain rfl : k = l.length := by omega
      have hD := HQ.out.done
      have HD := Lib.hid hD
      clear hD
      obtain ⟨n1, hn1⟩ : ∃ n1, us.length = n1 + 1 := ⟨us.length - 1, by omega⟩
      have hcl := ho.cell (i := n1) (by omega)
      have hfr := ho.unfrozen n1
      have hix : ((us.length : Int) - 1).toNat = n1 := by omega
      have hi0 : (0 : Int) ≤ (us.length : Int) - 1 := by omega
      have hi1 : (us.length : Int) - 1 < us.length := by omega
      rw [show us.length - 1 = n1 by omega] at HD
      have b9 : ∀ sg, Ab w (w1.setCell ⟨g, n1, none⟩ (.string sg)) := fun sg => hb.set hg1 _
      have hvl : ∀ sg, (us.set n1 sg).length = us.length := fun sg => by simp
      cases A with
      | none =>
        have h0 : c = 0 := hA rfl
        subst h0
        have hl0 : l = [] := List.eq_nil_of_length_eq_zero (by omega)
        subst hl0
        have hf0 : f = 0 := by simpa using hfk
        subst hf0
        have cs := lnconv_str (A := none) (l := []) 0 (RB.nil (w := w1))
        simp only [List.length_nil] at cs
        have hos := ho.store n1 ⟨([] : List UInt8).toArray⟩
        rw [List.drop_nil] at HD
        go_wp2
        go_ret
        exact RetPt.mk (by first | rw [hvl, hn1] | rw [hvl]) rfl HD.out.1 (hos.sm (by rw [hvl]; omega) (fun p hp => Nat.le_trans (HD.out.2.2 p hp) (Nat.zero_le _))) (b9 _)
      | some ad =>
        have hsl : (l.drop f).length = l.length - f := by simp
        have hos := ho.store n1 ⟨(l.drop f).toArray⟩
        by_cases hcf : c = f
        · have cs := lnconv_str 0 ((rb_part HB.out f l.length hfk (Nat.le_refl _) (some ad) (fun h => by omega)).ab hb)
          rw [List.take_length, hsl] at cs
          generalize (⟨(l.drop f).toArray⟩ : ByteArray) = sg at *
          go_wp2
          go_ret
          exact RetPt.mk (by first | rw [hvl, hn1] | rw [hvl]) rfl HD.out.1 (hos.sm (by rw [hvl]; omega) (fun p hp => by have := HD.out.2.2 p hp; omega)) (b9 _)
        · have cs := lnconv_str (c - f) ((rb_part HB.out f l.length hfk (Nat.le_refl _) (some (ad.add f)) (fun h => rfl)).ab hb)
          rw [List.take_length, hsl] at cs
          generalize (⟨(l.drop f).toArray⟩ : ByteArray) = sg at *
          go_wp2
          go_ret
          exact RetPt.mk (by first | rw [hvl, hn1] | rw [hvl]) rfl HD.out.1 (hos.sm (by rw [hvl]; omega) (fun p hp => by have := HD.out.2.2 p hp; omega)) (b9 _)
end Go.Proofs.Ytegnkmfdchljkaa
