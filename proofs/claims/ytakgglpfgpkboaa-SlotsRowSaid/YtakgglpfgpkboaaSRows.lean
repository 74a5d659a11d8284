/- A row of checkpoints: mathematics, and lists of bytes that came in. Own work. -/
import Derived.Test.YtakgglpfgpkboaaSMathA
import Derived.Test.YtakgglpfgpkboaaSOpen
set_option linter.unusedVariables false
namespace Go.Proofs.Ytakgglpfgpkboaa
open Go.ChangeShapes Go.WideShapes Go.ChangeAt Go.RowKit Go.Joins Go.Deep
open Slots (Sl)
open Disk (Dev)

/-- A list of bytes, and where it lies. -/
structure ByM where
  A : Option Addr
  c : Nat
  b : List UInt8
instance : Inhabited ByM := ⟨⟨none, 0, []⟩⟩
def RowsAt (w : World) (a : Addr) (xs : List ByM) : Prop :=
  ∀ i (h : i < xs.length), w.cell? (a.add i) = some (.slice xs[i].A xs[i].b.length xs[i].c) ∧ RB w 0 xs[i].A xs[i].b ∧ xs[i].b.length ≤ xs[i].c
/-- The lists xs lie at A. -/
def ByRows (w : World) (A : Option Addr) (xs : List ByM) : Prop := 0 < xs.length → ∃ a, A = some a ∧ RowsAt w a xs
theorem RowsAt.ab {w w' : World} {a : Addr} {xs : List ByM} (h : RowsAt w a xs) (hb : Ab w w') : RowsAt w' a xs := fun i hi => ⟨hb.at (h i hi).1, (h i hi).2.1.ab hb, (h i hi).2.2⟩
theorem ByRows.ab {w w' : World} {A : Option Addr} {xs : List ByM} (h : ByRows w A xs) (hb : Ab w w') : ByRows w' A xs := fun hn => by
  obtain ⟨a, ha, hr⟩ := h hn; exact ⟨a, ha, hr.ab hb⟩

theorem open_byterows {H : Type} {enc : TypeId × Value → H} {w : World} {base : Nat} {spare : Nat → Bool} {held : Bool} {fuel : Nat} {v : Value} {y : DataW H × List MemPlace}
    (h : DataW.trod enc Try.prog w base spare held fuel 56 [v] = some y) :
    ∃ (A : Option Addr) (c : Nat) (xs : List ByM), v = .slice A xs.length c ∧ ByRows w A xs ∧ xs.length ≤ c ∧ xs.length ≤ 9223372036854775807 := by
  rcases open_slice1 Try.underlying56 (show Try.prog.cellsOf 22 = 1 by kernel_rfl) h with ⟨hcs, _⟩ | ⟨a, len, cap, m, n, V0, D, Pl, hcs, _, hl, hm, hmm, _, hi⟩
  · obtain rfl : v = .slice none 0 0 := by simpa using hcs
    exact ⟨none, 0, [], rfl, fun h => absurd h (by simp), by simp, by simp⟩
  · obtain rfl : v = .slice (some a) len cap := by simpa using hcs
    have hlm : len ≤ m := by rw [hmm]; split <;> omega
    obtain ⟨V, hV⟩ := choose_lt (α := ByM) (n := len) (p := fun i o => w.cell? (a.add i) = some (.slice o.A o.b.length o.c) ∧ RB w 0 o.A o.b ∧ o.b.length ≤ o.c) (fun i hlt => by
      obtain ⟨h1, h2⟩ := hi i (by omega)
      obtain ⟨B, cb, s, e1, hs, hcb, _⟩ := open_bytes h2
      exact ⟨⟨B, cb, s⟩, by rw [h1, e1], hs, hcb⟩)
    unfold maxLen at hm
    have hlen : ((List.range len).map V).length = len := by simp
    refine ⟨some a, cap, (List.range len).map V, by rw [hlen], fun _ => ⟨a, rfl, fun i hi => ?_⟩, by rw [hlen]; exact hl, by rw [hlen]; omega⟩
    have hi' : i < len := by simpa using hi
    simp only [List.getElem_map, List.getElem_range]
    exact hV i hi'

namespace Slots
/-- Slots of a capacity. -/
def Caps (s : Sl) (c : Int) : Prop := s.a.cap = c ∧ s.b.cap = c
theorem caps_cur {s : Sl} {c : Int} (h : Caps s c) : s.cur.cap = c := by unfold Sl.cur; split; exact h.1; exact h.2
theorem caps_oth {s : Sl} {c : Int} (h : Caps s c) : s.oth.cap = c := by unfold Sl.oth; split; exact h.2; exact h.1
theorem row_new {c : Int} {s : Sl} {er : Int} (h : (s, er) = new c) : er = 2 ∨ (er = 0 ∧ Op s ∧ s.n = 1 ∧ Caps s c) := by
  unfold new at h
  split at h
  · exact .inl (Prod.mk.inj h).2
  · obtain ⟨h1, h2⟩ := Prod.mk.inj h
    refine .inr ⟨h2, ?_, by rw [h1], by rw [h1]; exact ⟨rfl, rfl⟩⟩
    rw [h1]
    exact op_new (by omega) (by omega)
theorem row_save {s : Sl} {c : Int} (h : Op s) (hc : Caps s c) (hn : s.n ≤ 100) {b : List UInt8} (hb : b.length ≤ 100) {p : Sl} {num er : Int} (hh : (p, num, er) = save s b) :
    (er = 18 ∧ c < 12 + (b.length : Int)) ∨ (er = 0 ∧ num = s.n ∧ Op p ∧ p.n = s.n + 1 ∧ Caps p c ∧ load p = (s.n, b, 0) ∧ ∃ d, half p b 0 0 = (d, 0) ∧ open_ d = (p, 0)) := by
  by_cases hf : s.cur.cap < 12 + (b.length : Int)
  · have ha : asked s b = 18 := asked_full h.1.nb (by omega) (by omega) hf
    unfold save at hh
    rw [if_pos (by rw [ha]; decide), ha] at hh
    rw [caps_cur hc] at hf
    exact .inl ⟨(Prod.mk.inj (Prod.mk.inj hh).2).2, hf⟩
  · have ha : asked s b = 0 := asked_ok h.1.nb (by omega) (by omega) hf
    rw [save_ok ha] at hh
    obtain ⟨h1, h2⟩ := Prod.mk.inj hh
    obtain ⟨h3, h4⟩ := Prod.mk.inj h2
    have hp := saved_op h ha
    have hN := saved_newest h ha (s.n + 1)
    have hpn : (s.put ⟨Frame.enc ⟨s.n, b⟩, [], s.cur.cap, false⟩ s.oth (s.n + 1)).n = s.n + 1 := by unfold Sl.put; split <;> rfl
    have hcp : Caps (s.put ⟨Frame.enc ⟨s.n, b⟩, [], s.cur.cap, false⟩ s.oth (s.n + 1)) c := by
      have e1 := caps_cur hc
      have e2 := caps_oth hc
      unfold Sl.put
      split
      · exact ⟨e1, e2⟩
      · exact ⟨e2, e1⟩
    rw [← h1] at hp hN hpn hcp
    have hap : asked p b = 0 := asked_ok hp.1.nb (by omega) (by omega) (by rw [caps_cur hcp]; rw [caps_cur hc] at hf; exact hf)
    refine .inr ⟨h4, h3, hp, hpn, hcp, by rw [load_good hp.1, hN]; rfl, _, half_of hap p.cur.s (.inl ⟨rfl, rfl⟩) (fun _ => rfl), ?_⟩
    rw [open_left hp.1 hp.1.cur.fits, show (⟨p.cur.s, [], p.cur.cap, false⟩ : Dev) = p.cur from hp.1.cur.eq.symm, newest_same]
    have e : (p.put p.cur p.oth 1).a = p.a ∧ (p.put p.cur p.oth 1).b = p.b := by unfold Sl.put Sl.cur Sl.oth; split <;> exact ⟨rfl, rfl⟩
    rw [e.1, e.2, ← hp.2]
end Slots
end Go.Proofs.Ytakgglpfgpkboaa
