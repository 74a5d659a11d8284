/- Closures of layer 2, walked. Own work. -/
import Derived.Test.YtddmcciegofneaaCrcCode
set_option linter.unusedVariables false
namespace Go.Proofs.Ytddmcciegofneaa
open Go.RowKit

/-- The block g holds what d steps make of each bit. -/
def Made (w : World) (g d : Nat) : Prop := ∀ i : Nat, i < 32 → w.cell? ⟨g, i, none⟩ = some (.int .u32 ((Crc.it d (1#32 <<< i)).toNat : Int))
theorem Made.ab {w w' : World} {g d : Nat} (h : Made w g d) (hb : Ab w w') : Made w' g d := fun i hi => hb.at (h i hi)

set_option maxHeartbeats 800000 in
theorem made_any (r : BitVec 32) (v : Int) (hv : v = (r.toNat : Int)) (g d : Nat) (w : World) (hm : Made w g d) :
    Calls Try.prog 26 #[.int .u32 v, .pointer (some ⟨g, 0, none⟩)] w fun e w' => e = .returned (.int .u32 ((Crc.it d r).toNat : Int)) ∧ Ab w w' := by
  subst hv
  go_enter Try.func26, Try.ntmps26
  go_wp2
  go_loopw [4, 6] (fun t i wr => ∃ j : Nat, j ≤ 32 ∧ i = .int .i64 j ∧ t = .int .u32 ((Crc.part d r j).toNat : Int) ∧ Ab w wr) (fun _ i _ => 32 - (intOf i).toNat)
  case atStart => exact ⟨0, Nat.zero_le _, rfl, rfl, Ab.refl _⟩
  case round =>
    obtain ⟨j, hj, rfl, rfl, hb⟩ := hrel
    by_cases hlt : j < 32
    · have hc := hb.at (hm j hlt)
      go_wp2
      go_quiet (fail)
      go_wp2
      go_roundw
      case rel => exact ⟨j + 1, by omega, by go_num, by rw [part_form], hb.drewN _⟩
      case measure => simp [intOf]; omega
    · go_wp2
      go_ret
      obtain rfl : j = 32 := by omega
      exact ⟨ret_int (by rw [Crc.part_all]), hb⟩

/-- The first j cells of the block g are made. -/
def Filling (w : World) (g d j : Nat) : Prop := ∀ i : Nat, i < 32 → (i < j → w.cell? ⟨g, i, none⟩ = some (.int .u32 ((Crc.it d (1#32 <<< i)).toNat : Int))) ∧ (w.cell? ⟨g, i, none⟩).isSome = true ∧ w.frozen? ⟨g, i, none⟩ = false
theorem Filling.ab {w w' : World} {g d j : Nat} (h : Filling w g d j) (hb : Ab w w') : Filling w' g d j := by
  intro i hi
  obtain ⟨h1, h2, h3⟩ := h i hi
  obtain ⟨v, hv⟩ := Option.isSome_iff_exists.1 h2
  exact ⟨fun hj => hb.at (h1 hj), by rw [hb.at hv]; rfl, hb.fr (p := ⟨g, i, none⟩) (cell_lt hv) h3⟩
theorem Filling.set {w : World} {g d j : Nat} (h : Filling w g d j) (hj : j < 32) {v : Int} (hv : v = ((Crc.it d (1#32 <<< j)).toNat : Int)) :
    Filling (w.setCell ⟨g, j, none⟩ (.int .u32 v)) g d (j + 1) := by
  subst hv
  intro i hi
  obtain ⟨h1, h2, h3⟩ := h i hi
  by_cases hij : i = j
  · subst hij
    obtain ⟨u, hu⟩ := Option.isSome_iff_exists.1 h2
    have := World.cell?_setCell_same w ⟨g, i, none⟩ (.int .u32 ((Crc.it d (1#32 <<< i)).toNat : Int)) hu
    exact ⟨fun _ => this, by rw [this]; rfl, by rw [World.frozen?_setCell]; exact h3⟩
  · have e := World.cell?_setCell_other w ⟨g, j, none⟩ ⟨g, i, none⟩ (.int .u32 ((Crc.it d (1#32 <<< j)).toNat : Int)) (by intro e; injection e; omega)
    exact ⟨fun hlt => by rw [e]; exact h1 (by omega), by rw [e]; exact h2, by rw [World.frozen?_setCell]; exact h3⟩
theorem Filling.made {w : World} {g d : Nat} (h : Filling w g d 32) : Made w g d := fun i hi => (h i hi).1 hi
theorem Filling.start {w : World} {d : Nat} {T : TypeId} {z : Value} {cs : Array Value} (hz : cs = Array.replicate 32 z) : Filling (w.alloc (.cells cs T)) w.heap.size d 0 := by
  subst hz
  intro i hi
  refine ⟨fun h => absurd h (by omega), ?_, ?_⟩
  · rw [World.cell?_alloc_new]; simp [hi]
  · rw [World.frozen?_alloc_new]

/-- It returns a closure that makes d steps. -/
def RetStep (w : World) (d : Nat) (e : Ending) (w' : World) : Prop :=
  ∃ G : Nat, e = .returned (.func (.func 26) #[] #[.pointer (some ⟨G, 0, none⟩)]) ∧ Made w' G d ∧ Ab w w'

set_option maxHeartbeats 800000 in
theorem twice_lit (w : World) : Calls Try.prog 21 #[.func (.func 20) #[] #[]] w (RetStep w 16) := by
  have hmf : ∀ (fn : Fn) (first cap : Array Value) (w : World), (Instr.makeFunc fn first cap).run Try.prog w = .ok (.func fn first cap) w := fun _ _ _ _ => rfl
  go_enter Try.func21, Try.ntmps21
  go_wp2
  go_loopw [5] (fun i wr => ∃ j : Nat, j ≤ 32 ∧ i = .int .i64 j ∧ Ab w wr ∧ Filling wr w.heap.size (16) j) (fun i _ => 32 - (intOf i).toNat)
  case atStart => exact ⟨0, Nat.zero_le _, rfl, (by repeat (first | with_reducible exact Ab.refl _ | with_reducible assumption | with_reducible refine Ab.drew ?_ | with_reducible refine Ab.drewN ?_ _ | with_reducible refine Ab.alloc ?_ _ | with_reducible refine Ab.trans ?_ (by assumption) | with_reducible refine Ab.set ?_ (by first | (simp; done) | omega | (simp; omega)) _)), Filling.start (by rfl)⟩
  case round =>
    obtain ⟨j, hj, rfl, hb, hf⟩ := hrel
    by_cases hlt : j < 32
    · go_wp2_with fail
      refine (stepZero_any (1#32 <<< j) _ (shl_form j hlt) _).mono ?_
      rintro e w1 ⟨rfl, hb1⟩
      go_wp2_with fail
      refine (stepZero_any (Crc.it 8 (1#32 <<< j)) _ rfl _).mono ?_
      rintro e w2 ⟨rfl, hb2⟩
      have hf2 := (hf.ab hb1).ab hb2
      obtain ⟨-, hs, hfr⟩ := hf2 j hlt
      obtain ⟨u, hu⟩ := Option.isSome_iff_exists.1 hs
      go_wp2
      go_roundw
      case rel => exact ⟨j + 1, by omega, by go_num, (by repeat (first | with_reducible exact Ab.refl _ | with_reducible assumption | with_reducible refine Ab.drew ?_ | with_reducible refine Ab.drewN ?_ _ | with_reducible refine Ab.alloc ?_ _ | with_reducible refine Ab.trans ?_ (by assumption) | with_reducible refine Ab.set ?_ (by first | (simp; done) | omega | (simp; omega)) _)), hf2.set hlt (by rw [Crc.it_it])⟩
      case measure => simp [intOf]; omega
    · obtain rfl : j = 32 := by omega
      go_wp2
      go_ret
      exact ⟨w.heap.size, rfl, hf.made, hb⟩
set_option maxHeartbeats 800000 in
theorem twice_made (g d : Nat) (w : World) (hm : Made w g d) : Calls Try.prog 21 #[.func (.func 26) #[] #[.pointer (some ⟨g, 0, none⟩)]] w (RetStep w (2 * d)) := by
  have hmf : ∀ (fn : Fn) (first cap : Array Value) (w : World), (Instr.makeFunc fn first cap).run Try.prog w = .ok (.func fn first cap) w := fun _ _ _ _ => rfl
  go_enter Try.func21, Try.ntmps21
  go_wp2
  go_loopw [5] (fun i wr => ∃ j : Nat, j ≤ 32 ∧ i = .int .i64 j ∧ Ab w wr ∧ Filling wr w.heap.size (2 * d) j) (fun i _ => 32 - (intOf i).toNat)
  case atStart => exact ⟨0, Nat.zero_le _, rfl, (by repeat (first | with_reducible exact Ab.refl _ | with_reducible assumption | with_reducible refine Ab.drew ?_ | with_reducible refine Ab.drewN ?_ _ | with_reducible refine Ab.alloc ?_ _ | with_reducible refine Ab.trans ?_ (by assumption) | with_reducible refine Ab.set ?_ (by first | (simp; done) | omega | (simp; omega)) _)), Filling.start (by rfl)⟩
  case round =>
    obtain ⟨j, hj, rfl, hb, hf⟩ := hrel
    by_cases hlt : j < 32
    · go_wp2_with fail
      refine (made_any (1#32 <<< j) _ (shl_form j hlt) g d _ (hm.ab (by repeat (first | with_reducible exact Ab.refl _ | with_reducible assumption | with_reducible refine Ab.drew ?_ | with_reducible refine Ab.drewN ?_ _ | with_reducible refine Ab.alloc ?_ _ | with_reducible refine Ab.trans ?_ (by assumption) | with_reducible refine Ab.set ?_ (by first | (simp; done) | omega | (simp; omega)) _)))).mono ?_
      rintro e w1 ⟨rfl, hb1⟩
      go_wp2_with fail
      refine (made_any (Crc.it d (1#32 <<< j)) _ rfl g d _ (hm.ab (by repeat (first | with_reducible exact Ab.refl _ | with_reducible assumption | with_reducible refine Ab.drew ?_ | with_reducible refine Ab.drewN ?_ _ | with_reducible refine Ab.alloc ?_ _ | with_reducible refine Ab.trans ?_ (by assumption) | with_reducible refine Ab.set ?_ (by first | (simp; done) | omega | (simp; omega)) _)))).mono ?_
      rintro e w2 ⟨rfl, hb2⟩
      have hf2 := (hf.ab hb1).ab hb2
      obtain ⟨-, hs, hfr⟩ := hf2 j hlt
      obtain ⟨u, hu⟩ := Option.isSome_iff_exists.1 hs
      go_wp2
      go_roundw
      case rel => exact ⟨j + 1, by omega, by go_num, (by repeat (first | with_reducible exact Ab.refl _ | with_reducible assumption | with_reducible refine Ab.drew ?_ | with_reducible refine Ab.drewN ?_ _ | with_reducible refine Ab.alloc ?_ _ | with_reducible refine Ab.trans ?_ (by assumption) | with_reducible refine Ab.set ?_ (by first | (simp; done) | omega | (simp; omega)) _)), hf2.set hlt (by rw [Crc.it_it])⟩
      case measure => simp [intOf]; omega
    · obtain rfl : j = 32 := by omega
      go_wp2
      go_ret
      exact ⟨w.heap.size, rfl, hf.made, hb⟩
end Go.Proofs.Ytddmcciegofneaa
