/- The chapter's examples on lines. Own work. -/
import Derived.Test.YtegnkmfdchljkaaDoorLnConc
import Derived.Test.YtegnkmfdchljkaaDoorLnFunC
import Derived.Test.YtegnkmfdchljkaaDoorLnRefA
set_option linter.unusedVariables false
set_option linter.unusedSimpArgs false
namespace Go.Proofs.YtegnkmfdchljkaaDoor
open Go.RowKit

theorem sm_lit {w : World} {g n : Nat} {cs : Array Value} {fr : Nat × Nat} (ps : List ByteArray) (hg : w.heap[g]? = some (.cells cs 9 fr)) (hc : cs = (ps.map Value.string).toArray) (hn : ps.length = n := by rfl) (hk : n ≤ 100000 := by decide) (hs : (ps.all fun p => decide (p.size ≤ 100000)) = true := by decide) : SM w (some ⟨g, 0, none⟩) n ps := by
  subst hc hn
  have hs : ∀ p ∈ ps, p.size ≤ 100000 := fun p hp => by simpa using List.all_eq_true.1 hs p hp
  refine ⟨fun _ => ⟨_, _, rfl, fun j hj => ?_⟩, Nat.le_refl _, by omega, hk, hs⟩
  unfold World.cell?
  rw [hg]
  simp [hj]
theorem rb_lit5 {w : World} {g : Nat} {cs : Array Value} {fr : Nat × Nat} (l : List UInt8) (hg : w.heap[g]? = some (.cells cs 5 fr)) (hc : cs = (l.map cb).toArray) : RB w 0 (some ⟨g, 0, none⟩) l := by
  subst hc
  exact RB.blk hg (Nat.zero_le _)
set_option maxHeartbeats 16000000 in
set_option maxRecDepth 100000 in
theorem lalive_any (w : World) : Calls Tryd.prog 20 #[] w (RetTrue w) := by
  have C1 : ∀ (w' : World) (A : Option Addr) (c : Nat), RB w' 0 A [97, 10, 10, 98, 10] → 5 ≤ c → Calls Tryd.prog 9 #[.slice A 5 c] w' fun e w2 => ∃ B d ps, e = .returned (.tuple #[.slice B ps.length d, .int .i64 0]) ∧ Ln.L ps = [[97], [], [98], []] ∧ SM w2 B d ps ∧ Ab w' w2 := fun w' A c h hc => split_any A _ c w' h hc (by simp)
  have C2 : ∀ (w' : World), Calls Tryd.prog 9 #[.slice none 0 0] w' fun e w2 => ∃ B d ps, e = .returned (.tuple #[.slice B ps.length d, .int .i64 0]) ∧ Ln.L ps = [[]] ∧ SM w2 B d ps ∧ Ab w' w2 := fun w' => split_any none [] 0 w' RB.nil (by simp) (by simp)
  have C3 : ∀ (w' : World) (A B : Option Addr), SM w' A 3 [⟨#[97]⟩, ⟨#[98]⟩, ⟨#[99]⟩] → SM w' B 2 [⟨#[97]⟩, ⟨#[99]⟩] → Calls Tryd.prog 18 #[.slice A 3 3, .slice B 2 2] w' fun e w2 => e = .returned (.tuple #[.int .i64 1, .int .i64 1, .int .i64 0]) ∧ Ab w' w2 := fun w' A B h k => common_any A B 3 2 _ _ w' h k
  have C4 : ∀ (w' : World) (A B : Option Addr), SM w' A 2 [⟨#[97]⟩, ⟨#[97]⟩] → SM w' B 3 [⟨#[97]⟩, ⟨#[97]⟩, ⟨#[97]⟩] → Calls Tryd.prog 18 #[.slice A 2 2, .slice B 3 3] w' fun e w2 => e = .returned (.tuple #[.int .i64 2, .int .i64 0, .int .i64 0]) ∧ Ab w' w2 := fun w' A B h k => common_any A B 2 3 _ _ w' h k
  have C5 : ∀ (w' : World) (A B : Option Addr), SM w' A 3 [⟨#[97]⟩, ⟨#[98]⟩, ⟨#[99]⟩] → SM w' B 2 [⟨#[120]⟩, ⟨#[121]⟩] → Calls Tryd.prog 19 #[.slice A 3 3, .int .i64 1, .int .i64 2, .slice B 2 2] w' fun e w2 => ∃ B d ps, e = .returned (.tuple #[.slice B ps.length d, .int .i64 0]) ∧ Ln.L ps = [[97], [120], [121], [99]] ∧ SM w2 B d ps ∧ Ab w' w2 := fun w' A B h k => replace_any A B 3 2 _ _ 1 2 w' h k (by simp) (by omega) (by omega) (by omega) (by omega)
  have D : ∀ (w' : World) (A B : Option Addr) (c d : Nat) (ps qs : List ByteArray), SM w' A c ps → SM w' B d qs → Ln.L ps = Ln.L qs → Calls Tryd.prog 15 #[.slice A ps.length c, .slice B qs.length d] w' (RetTrue w') := fun w' A B c d ps qs h k e => rsame_any A B c d ps qs w' h k e
  go_enter Tryd.func20, Tryd.ntmps20
  have CV := fun w' => Lib.run_convert_bytes_const (P := Tryd.prog) w' 22 5 #[.int .u8 97, .int .u8 10, .int .u8 10, .int .u8 98, .int .u8 10] 5 5 Tryd.underlying22 Tryd.underlying5
  go_wp2_with fail
  refine (C1 _ _ _ (rb_lit5 _ (by (repeat (first | exact new_plain wnA | with_reducible refine old_alloc ?_ | with_reducible refine old_drew ?_ | with_reducible refine old_set ?_ wnA | with_reducible refine old_ab (by assumption) ?_))) rfl) (Nat.le_refl _)).mono ?_
  rintro e w1 ⟨B1, d1, p1, rfl, hL1, hS1, hb1⟩
  have b1 : Ab w w1 := Ab.trans (by exact abA) hb1
  clear hb1 CV C1
  go_wp2_with fail
  refine (C2 _).mono ?_
  rintro e w2 ⟨B2, d2, p2, rfl, hL2, hS2, hb2⟩
  have b2 : Ab w w2 := Ab.trans (by exact abA) hb2
  have hS1 := hS1.ab hb2
  clear hb2 C2 b1
  go_wp2_with fail
  refine (C3 _ _ _ ?_ ?_).mono ?_
  · exact sm_lit _ (by (repeat (first | exact new_plain wnA | with_reducible refine old_alloc ?_ | with_reducible refine old_drew ?_ | with_reducible refine old_set ?_ wnA | with_reducible refine old_ab (by assumption) ?_))) rfl
  · exact sm_lit _ (by (repeat (first | exact new_plain wnA | with_reducible refine old_alloc ?_ | with_reducible refine old_drew ?_ | with_reducible refine old_set ?_ wnA | with_reducible refine old_ab (by assumption) ?_))) rfl
  rintro e w3 ⟨rfl, hb3⟩
  have b3 : Ab w2 w3 := Ab.trans (by exact abA) hb3
  have hS1 := hS1.ab b3
  have hS2 := hS2.ab b3
  have b3 : Ab w w3 := b2.trans b3
  clear hb3 C3 b2
  go_wp2_with fail
  refine (C4 _ _ _ ?_ ?_).mono ?_
  · exact sm_lit _ (by (repeat (first | exact new_plain wnA | with_reducible refine old_alloc ?_ | with_reducible refine old_drew ?_ | with_reducible refine old_set ?_ wnA | with_reducible refine old_ab (by assumption) ?_))) rfl
  · exact sm_lit _ (by (repeat (first | exact new_plain wnA | with_reducible refine old_alloc ?_ | with_reducible refine old_drew ?_ | with_reducible refine old_set ?_ wnA | with_reducible refine old_ab (by assumption) ?_))) rfl
  rintro e w4 ⟨rfl, hb4⟩
  have b4 : Ab w3 w4 := Ab.trans (by exact abA) hb4
  have hS1 := hS1.ab b4
  have hS2 := hS2.ab b4
  have b4 : Ab w w4 := b3.trans b4
  clear hb4 C4 b3
  go_wp2_with fail
  refine (C5 _ _ _ ?_ ?_).mono ?_
  · exact sm_lit _ (by (repeat (first | exact new_plain wnA | with_reducible refine old_alloc ?_ | with_reducible refine old_drew ?_ | with_reducible refine old_set ?_ wnA | with_reducible refine old_ab (by assumption) ?_))) rfl
  · exact sm_lit _ (by (repeat (first | exact new_plain wnA | with_reducible refine old_alloc ?_ | with_reducible refine old_drew ?_ | with_reducible refine old_set ?_ wnA | with_reducible refine old_ab (by assumption) ?_))) rfl
  rintro e w5 ⟨B5, d5, p5, rfl, hL5, hS5, hb5⟩
  have b5 : Ab w4 w5 := Ab.trans (by exact abA) hb5
  have hS1 := hS1.ab b5
  have hS2 := hS2.ab b5
  have b5 : Ab w w5 := b4.trans b5
  clear hb5 C5 b4
  go_wp2_with fail
  refine (D _ _ _ _ _ p1 [⟨#[97]⟩, ⟨#[]⟩, ⟨#[98]⟩, ⟨#[]⟩] (hS1.ab (by exact abA)) ?_ hL1).mono ?_
  · exact sm_lit _ (by (repeat (first | exact new_plain wnA | with_reducible refine old_alloc ?_ | with_reducible refine old_drew ?_ | with_reducible refine old_set ?_ wnA | with_reducible refine old_ab (by assumption) ?_))) rfl
  rintro e w6 ⟨rfl, hb6⟩
  have b6 : Ab w5 w6 := Ab.trans (by exact abA) hb6
  have hS2 := hS2.ab b6
  have hS5 := hS5.ab b6
  have b6 : Ab w w6 := b5.trans b6
  clear hb6 b5 hS1 hL1
  go_wp2_with fail
  refine (D _ _ _ _ _ p2 [⟨#[]⟩] (hS2.ab (by exact abA)) ?_ hL2).mono ?_
  · exact sm_lit _ (by (repeat (first | exact new_plain wnA | with_reducible refine old_alloc ?_ | with_reducible refine old_drew ?_ | with_reducible refine old_set ?_ wnA | with_reducible refine old_ab (by assumption) ?_))) rfl
  rintro e w7 ⟨rfl, hb7⟩
  have b7 : Ab w6 w7 := Ab.trans (by exact abA) hb7
  have hS5 := hS5.ab b7
  have b7 : Ab w w7 := b6.trans b7
  clear hb7 b6 hS2 hL2
  go_wp2_with fail
  refine (D _ _ _ _ _ p5 [⟨#[97]⟩, ⟨#[120]⟩, ⟨#[121]⟩, ⟨#[99]⟩] (hS5.ab (by exact abA)) ?_ hL5).mono ?_
  · exact sm_lit _ (by (repeat (first | exact new_plain wnA | with_reducible refine old_alloc ?_ | with_reducible refine old_drew ?_ | with_reducible refine old_set ?_ wnA | with_reducible refine old_ab (by assumption) ?_))) rfl
  rintro e w8 ⟨rfl, hb8⟩
  have b8 : Ab w w8 := Ab.trans (by exact abA) hb8
  go_wp2
  go_ret
  exact ⟨rfl, b8⟩
end Go.Proofs.YtegnkmfdchljkaaDoor
