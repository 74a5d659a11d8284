/- The chapter's examples of deltas, walked. Own work. -/
import Derived.Test.YtjgijpfknhfnjaaDlMake
import Derived.Test.YtjgijpfknhfnjaaDlSame
import Derived.Test.YtjgijpfknhfnjaaLit
import Derived.Lib.SlBytesConst
set_option linter.unusedVariables false
set_option linter.unusedSimpArgs false
namespace Go.Proofs.Ytjgijpfknhfnjaa
open Go.RowKit

theorem litD_rb (w : World) (l : List UInt8) (cs : Array Value) (h : cs = (l.map cb).toArray) (fr : Nat × Nat := (0, 0)) : RB (w.alloc (.cells cs 5 fr)) 0 (some ⟨w.heap.size, 0, none⟩) l := by
  subst h
  exact RB.blk (new_plain rfl) (Nat.zero_le _)
theorem litD_two (w : World) (cs0 : Array Value) (fr0 : Nat × Nat) (l : List UInt8) (cs : Array Value) (h : cs = (l.map cb).toArray) (fr : Nat × Nat) : RB ((w.alloc (.cells cs0 5 fr0)).alloc (.cells cs 5 fr)) 0 (some ⟨w.heap.size + 1, 0, none⟩) l := by
  have := litD_rb (w.alloc (.cells cs0 5 fr0)) l cs h fr
  have e : (w.alloc (.cells cs0 5 fr0)).heap.size = w.heap.size + 1 := by simp
  rw [e] at this
  exact this
theorem conv_two (w : World) (cs0 : Array Value) (fr0 : Nat × Nat) (C : Array Value) (n c : Nat) : (convert 22 22 (.slice (some ⟨w.heap.size + 1, 0, none⟩) n c)).run Try.prog ((w.alloc (.cells cs0 5 fr0)).alloc (.cells C 5)) = .ok (.slice (some ⟨w.heap.size + 1, 0, none⟩) n c) ((w.alloc (.cells cs0 5 fr0)).alloc (.cells C 5 (C.size, C.size + 1))) := by
  have := Lib.run_convert_bytes_const (P := Try.prog) (w.alloc (.cells cs0 5 fr0)) 22 5 C n c Try.underlying22 Try.underlying5
  have e : (w.alloc (.cells cs0 5 fr0)).heap.size = w.heap.size + 1 := by simp
  rw [e] at this
  exact this
/-- What Make of an example returns. -/
def RetEx (T : List UInt8) (w : World) (e : Ending) (w' : World) : Prop := ∃ (P : Option Addr) (cp : Nat) (ps : List PM), e = .returned (.tuple #[.slice P ps.length cp, .int .i64 0]) ∧ Pts w' P cp ps ∧ Ab w w' ∧ Hid (∃ (f : Nat → Int) (gf : Nat → Nat), Dl.Tab Dl.exB T f gf 0 ∧ Dl.Mk Dl.exB T f gf 0 (ps.map PM.d))
theorem make_ex (A D : Addr) (c d : Nat) (T : List UInt8) (w : World) (hM : MaxL w) (hs : RB w 0 (some A) Dl.exB) (ht : RB w 0 (some D) T) (hc : 6 ≤ c) (hd : T.length ≤ d) (htl : T.length ≤ 300) :
    Calls Try.prog 13 #[.slice (some A) 6 c, .slice (some D) T.length d] w (RetEx T w) := by
  have h6 : Dl.exB.length = 6 := rfl
  have := make_any (some A) (some D) c d Dl.exB T w hM hs ht hc hd (fun h => by cases h) (by rw [h6]; omega) (by omega)
  rw [h6] at this
  refine this.mono ?_
  rintro e w' ⟨P, cp, ps, er, rfl, ho, hb, hr⟩
  have hr := hr.out
  rw [if_neg (by rw [h6]; omega)] at hr
  obtain ⟨rfl, f, gf, h1, h2⟩ := hr
  have hl : ps.length ≤ 300 := by
    have := (h2.good (by rw [h6]; omega) (by omega) h1).2.2.2
    simp at this; omega
  exact ⟨P, cp, ps, rfl, ho.pts (by omega), hb, Lib.hid ⟨f, gf, h1, h2⟩⟩
set_option maxRecDepth 100000 in
set_option maxHeartbeats 2000000 in
theorem made_any (t : List UInt8) (n : Int) (w : World) (hM : MaxL w) (ht : t.length ≤ 300) (hc : ∀ (F : Nat → Int) (G : Nat → Nat) (l : List Dl.Part), Dl.Tab Dl.exB t F G 0 → Dl.Mk Dl.exB t F G 0 l → Dl.cost l = (n, 0)) :
    Calls Try.prog 36 #[.string ⟨t.toArray⟩, .int .i64 n] w (RetTrue w) := by
  have HC := Lib.hid hc
  clear hc
  have W1A : Ab w (w.alloc (.cells #[.int .u8 97, .int .u8 98, .int .u8 99, .int .u8 100, .int .u8 101, .int .u8 102] 5 (6, 7))) := abA
  have R1 : RB (w.alloc (.cells #[.int .u8 97, .int .u8 98, .int .u8 99, .int .u8 100, .int .u8 101, .int .u8 102] 5 (6, 7))) 0 (some ⟨w.heap.size, 0, none⟩) Dl.exB := litD_rb w Dl.exB #[.int .u8 97, .int .u8 98, .int .u8 99, .int .u8 100, .int .u8 101, .int .u8 102] rfl (6, 7)
  have CV := Lib.run_convert_bytes_const (P := Try.prog) w 22 5 #[.int .u8 97, .int .u8 98, .int .u8 99, .int .u8 100, .int .u8 101, .int .u8 102] 6 6 Try.underlying22 Try.underlying5
  go_enter Try.func36, Try.ntmps36
  have hcv := conv_bytes (w.alloc (.cells #[.int .u8 97, .int .u8 98, .int .u8 99, .int .u8 100, .int .u8 101, .int .u8 102] 5 (6, 7))) t
  have hge := grownCap_ge (w.alloc (.cells #[.int .u8 97, .int .u8 98, .int .u8 99, .int .u8 100, .int .u8 101, .int .u8 102] 5 (6, 7))) t.length 0 5
  generalize grownCap (w.alloc (.cells #[.int .u8 97, .int .u8 98, .int .u8 99, .int .u8 100, .int .u8 101, .int .u8 102] 5 (6, 7))) t.length 0 5 = cp at *
  have hcp : t.length ≤ cp := by omega
  go_wp2_with fail
  refine (make_ex ⟨w.heap.size, 0, none⟩ _ 6 cp t _ (hM.ab (by exact abA)) (R1.ab (by exact abA)) (rb_row (c := cp) (by (repeat (first | exact new_plain wnA | with_reducible refine old_alloc ?_ | with_reducible refine old_drew ?_ | with_reducible refine old_set ?_ wnA | with_reducible refine old_ab (by assumption) ?_)))) (Nat.le_refl _) hcp ht).mono ?_
  rintro e w1 ⟨P, cpp, ps, rfl, hP, hb1, hE⟩
  have b1 : Ab w w1 := Ab.trans (by exact abA) hb1
  have hcost : Dl.cost (ps.map PM.d) = (n, 0) := by
    obtain ⟨f, gf, h1, h2⟩ := hE.out
    exact HC.out f gf _ h1 h2
  have TC := cost_any P cpp ps w1 hP
  rw [hcost] at TC
  clear hcost hcv hge CV R1 W1A
  go_wp2_with fail
  refine TC.mono ?_
  rintro e w2 ⟨rfl, hb2⟩
  go_wp2
  go_ret
  exact ⟨rfl, b1.trans hb2⟩
theorem some_made {n : Int} {T : List UInt8} (q : List Dl.Part) (h : ∀ (F : Nat → Int) (G : Nat → Nat) (l : List Dl.Part), Dl.Tab Dl.exB T F G 0 → Dl.Mk Dl.exB T F G 0 l → l = q) (hc : Dl.cost q = (n, 0)) : ∀ (F : Nat → Int) (G : Nat → Nat) (l : List Dl.Part), Dl.Tab Dl.exB T F G 0 → Dl.Mk Dl.exB T F G 0 l → Dl.cost l = (n, 0) := fun F G l h1 h2 => by rw [h F G l h1 h2]; exact hc
set_option maxRecDepth 100000 in
set_option maxHeartbeats 4000000 in
theorem dalive_any (w : World) (hM : MaxL w) : Calls Try.prog 17 #[] w (RetTrue w) := by
  have CV := Lib.run_convert_bytes_const (P := Try.prog) w 22 5 #[.int .u8 97, .int .u8 98, .int .u8 99, .int .u8 100, .int .u8 101, .int .u8 102] 6 6 Try.underlying22 Try.underlying5
  have CV2 := conv_two w #[.int .u8 97, .int .u8 98, .int .u8 99, .int .u8 100, .int .u8 101, .int .u8 102] (6, 7) #[.int .u8 97, .int .u8 98, .int .u8 99, .int .u8 120, .int .u8 100, .int .u8 101, .int .u8 102] 7 7
  have R1 : RB (w.alloc (.cells #[.int .u8 97, .int .u8 98, .int .u8 99, .int .u8 100, .int .u8 101, .int .u8 102] 5 (6, 7))) 0 (some ⟨w.heap.size, 0, none⟩) Dl.exB := litD_rb w Dl.exB #[.int .u8 97, .int .u8 98, .int .u8 99, .int .u8 100, .int .u8 101, .int .u8 102] rfl (6, 7)
  have R2 := litD_two w #[.int .u8 97, .int .u8 98, .int .u8 99, .int .u8 100, .int .u8 101, .int .u8 102] (6, 7) [97, 98, 99, 120, 100, 101, 102] #[.int .u8 97, .int .u8 98, .int .u8 99, .int .u8 120, .int .u8 100, .int .u8 101, .int .u8 102] rfl (7, 8)
  go_enter Try.func17, Try.ntmps17
  go_wp2_with fail
  refine (make_ex ⟨w.heap.size, 0, none⟩ ⟨w.heap.size + 1, 0, none⟩ 6 7 [97, 98, 99, 120, 100, 101, 102] ((w.alloc (.cells #[.int .u8 97, .int .u8 98, .int .u8 99, .int .u8 100, .int .u8 101, .int .u8 102] 5 (6, 7))).alloc (.cells #[.int .u8 97, .int .u8 98, .int .u8 99, .int .u8 120, .int .u8 100, .int .u8 101, .int .u8 102] 5 (7, 8))) (hM.ab abA) (R1.ab abA) R2 (Nat.le_refl _) (by simp) (by simp)).mono ?_
  rintro e w1 ⟨P, cpp, ps, rfl, hP, hb1, hE⟩
  have b1 : Ab w w1 := Ab.trans (by exact abA) hb1
  have hps : Hid (ps.map PM.d = [⟨0, 3, []⟩, ⟨0, 0, [120]⟩, ⟨3, 3, []⟩]) := by
    obtain ⟨f, gf, h1, h2⟩ := hE.out
    exact Lib.hid (Dl.ex1 h1 h2)
  clear hE hb1 R1 R2 CV CV2
  have CV := Lib.run_convert_bytes_const (P := Try.prog) w1 22 5 #[.int .u8 120] 1 1 Try.underlying22 Try.underlying5
  go_upto_region 3 with fail
  have R120 : RB ((w1.alloc (.cells #[.int .u8 120] 5 (1, 2))).alloc (.cells #[.int .i64 0, .int .i64 3, .slice none 0 0, .int .i64 0, .int .i64 0, .slice (some ⟨w1.heap.size, 0, none⟩) 1 1, .int .i64 3, .int .i64 3, .slice none 0 0] 24)) 0 (some ⟨w1.heap.size, 0, none⟩) [120] := (litD_rb w1 [120] #[.int .u8 120] rfl (1, 2)).ab abA
  have V9 : VB ((w1.alloc (.cells #[.int .u8 120] 5 (1, 2))).alloc (.cells #[.int .i64 0, .int .i64 3, .slice none 0 0, .int .i64 0, .int .i64 0, .slice (some ⟨w1.heap.size, 0, none⟩) 1 1, .int .i64 3, .int .i64 3, .slice none 0 0] 24)) (w1.heap.size + 1) [.int .i64 0, .int .i64 3, .slice none 0 0, .int .i64 0, .int .i64 0, .slice (some ⟨w1.heap.size, 0, none⟩) 1 1, .int .i64 3, .int .i64 3, .slice none 0 0] := VB.box (xs := #[.int .i64 0, .int .i64 3, .slice none 0 0, .int .i64 0, .int .i64 0, .slice (some ⟨w1.heap.size, 0, none⟩) 1 1, .int .i64 3, .int .i64 3, .slice none 0 0]) (T := 24) (by (repeat (first | exact new_plain wnA | with_reducible refine old_alloc ?_ | with_reducible refine old_drew ?_ | with_reducible refine old_set ?_ wnA | with_reducible refine old_ab (by assumption) ?_)))
  have b12 : Ab w1 ((w1.alloc (.cells #[.int .u8 120] 5 (1, 2))).alloc (.cells #[.int .i64 0, .int .i64 3, .slice none 0 0, .int .i64 0, .int .i64 0, .slice (some ⟨w1.heap.size, 0, none⟩) 1 1, .int .i64 3, .int .i64 3, .slice none 0 0] 24)) := abA
  have hz : w1.heap.size + 1 < (((w1.alloc (.cells #[.int .u8 120] 5 (1, 2))).alloc (.cells #[.int .i64 0, .int .i64 3, .slice none 0 0, .int .i64 0, .int .i64 0, .slice (some ⟨w1.heap.size, 0, none⟩) 1 1, .int .i64 3, .int .i64 3, .slice none 0 0] 24))).heap.size := by simp
  generalize ((w1.alloc (.cells #[.int .u8 120] 5 (1, 2))).alloc (.cells #[.int .i64 0, .int .i64 3, .slice none 0 0, .int .i64 0, .int .i64 0, .slice (some ⟨w1.heap.size, 0, none⟩) 1 1, .int .i64 3, .int .i64 3, .slice none 0 0] 24)) = w2 at *
  generalize w1.heap.size = sb at *
  have PW : Pts w2 (some ⟨sb + 1, 0, none⟩) 3 [⟨0, 3, none, [], 0⟩, ⟨0, 0, some ⟨sb, 0, none⟩, [120], 1⟩, ⟨3, 3, none, [], 0⟩] := by
    refine ⟨fun _ => ⟨sb + 1, 0, rfl, fun i hi => ?_⟩, fun x hx => ?_, Nat.le_refl _, by simp⟩
    · have hi3 : i < 3 := hi
      match i, hi3 with
      | 0, _ => exact fun j v hv => VB.rangeAt V9 0 3 j v hv
      | 1, _ => exact fun j v hv => VB.rangeAt V9 3 3 j v hv
      | 2, _ => exact fun j v hv => VB.rangeAt V9 6 3 j v hv
    · simp only [List.mem_cons, List.not_mem_nil, or_false] at hx
      rcases hx with rfl | rfl | rfl
      · exact ⟨RB.nil, by simp, by simp, by simp, by simp, by simp, by simp⟩
      · exact ⟨R120, by simp, by simp, by simp, by simp, by simp, by simp⟩
      · exact ⟨RB.nil, by simp, by simp, by simp, by simp, by simp, by simp⟩
  replace hP := hP.ab b12
  replace b1 := b1.trans b12
  clear V9 R120 b12 hz CV
  have CV := Lib.run_convert_bytes_const (P := Try.prog) w2 22 5 #[.int .u8 97, .int .u8 98, .int .u8 99, .int .u8 100, .int .u8 101, .int .u8 102] 6 6 Try.underlying22 Try.underlying5
  have CV2 := conv_two w2 #[.int .u8 97, .int .u8 98, .int .u8 99, .int .u8 100, .int .u8 101, .int .u8 102] (6, 7) #[.int .u8 97, .int .u8 98] 2 2
  have R1 : RB (w2.alloc (.cells #[.int .u8 97, .int .u8 98, .int .u8 99, .int .u8 100, .int .u8 101, .int .u8 102] 5 (6, 7))) 0 (some ⟨w2.heap.size, 0, none⟩) Dl.exB := litD_rb w2 Dl.exB #[.int .u8 97, .int .u8 98, .int .u8 99, .int .u8 100, .int .u8 101, .int .u8 102] rfl (6, 7)
  have R2 := litD_two w2 #[.int .u8 97, .int .u8 98, .int .u8 99, .int .u8 100, .int .u8 101, .int .u8 102] (6, 7) [97, 98] #[.int .u8 97, .int .u8 98] rfl (2, 3)
  go_wp2_with fail
  refine (make_ex ⟨w2.heap.size, 0, none⟩ ⟨w2.heap.size + 1, 0, none⟩ 6 2 [97, 98] ((w2.alloc (.cells #[.int .u8 97, .int .u8 98, .int .u8 99, .int .u8 100, .int .u8 101, .int .u8 102] 5 (6, 7))).alloc (.cells #[.int .u8 97, .int .u8 98] 5 (2, 3))) (hM.ab (Ab.trans b1 abA)) (R1.ab abA) R2 (Nat.le_refl _) (by simp) (by simp)).mono ?_
  rintro e w3 ⟨Q, cq, qs, rfl, hQ, hb3, hE⟩
  have hb23 : Ab w2 w3 := Ab.trans (by exact abA) hb3
  have hqs : Hid (qs.map PM.d = [⟨0, 2, []⟩]) := by
    obtain ⟨f, gf, h1, h2⟩ := hE.out
    exact Lib.hid (Dl.ex3 h1 h2)
  replace hP := hP.ab hb23
  replace PW := PW.ab hb23
  have b4 := b1.trans hb23
  clear hE hb3 hb23 R1 R2 CV CV2 b1
  have hpl := Lib.hid (congrArg List.length hps.out)
  have hql := Lib.hid (congrArg List.length hqs.out)
  go_wp2_with fail
  refine (dsame_any P (some ⟨sb + 1, 0, none⟩) cpp 3 ps [⟨0, 3, none, [], 0⟩, ⟨0, 0, some ⟨sb, 0, none⟩, [120], 1⟩, ⟨3, 3, none, [], 0⟩] _ hP PW (by rw [hps.out]; rfl)).mono ?_
  rintro e w5 ⟨rfl, hb5⟩
  replace hP := hP.ab hb5
  replace hQ := hQ.ab hb5
  replace b4 := b4.trans hb5
  clear hb5 PW
  go_wp2_with fail
  refine (made_any [97, 98, 99, 120, 100, 101, 102] 8 _ (hM.ab b4) (by simp) (some_made _ (fun F G l h1 h2 => Dl.ex1 h1 h2) (by decide))).mono ?_
  rintro e w5 ⟨rfl, hb5⟩
  replace hP := hP.ab hb5
  replace hQ := hQ.ab hb5
  replace b4 := b4.trans hb5
  clear hb5
  go_wp2_with fail
  refine (made_any [99, 100, 101, 102, 99, 100, 101, 102] 6 _ (hM.ab b4) (by simp) (some_made _ (fun F G l h1 h2 => Dl.ex2 h1 h2) (by decide))).mono ?_
  rintro e w5 ⟨rfl, hb5⟩
  replace hP := hP.ab hb5
  replace hQ := hQ.ab hb5
  replace b4 := b4.trans hb5
  clear hb5
  go_wp2_with fail
  refine (made_any [97, 98] 3 _ (hM.ab b4) (by simp) (some_made _ (fun F G l h1 h2 => Dl.ex3 h1 h2) (by decide))).mono ?_
  rintro e w5 ⟨rfl, hb5⟩
  replace hP := hP.ab hb5
  replace hQ := hQ.ab hb5
  replace b4 := b4.trans hb5
  clear hb5
  go_wp2_with fail
  refine (made_any [97] 2 _ (hM.ab b4) (by simp) (some_made _ (fun F G l h1 h2 => Dl.ex4 h1 h2) (by decide))).mono ?_
  rintro e w5 ⟨rfl, hb5⟩
  replace hP := hP.ab hb5
  replace hQ := hQ.ab hb5
  replace b4 := b4.trans hb5
  clear hb5
  rename World => w6
  have VX : VB (w6.alloc (.cells #[.int .i64 0, .int .i64 2, .slice none 0 0] 24)) w6.heap.size [.int .i64 0, .int .i64 2, .slice none 0 0] := VB.box (xs := #[.int .i64 0, .int .i64 2, .slice none 0 0]) (T := 24) (by (repeat (first | exact new_plain wnA | with_reducible refine old_alloc ?_ | with_reducible refine old_drew ?_ | with_reducible refine old_set ?_ wnA | with_reducible refine old_ab (by assumption) ?_)))
  have PX : Pts (w6.alloc (.cells #[.int .i64 0, .int .i64 2, .slice none 0 0] 24)) (some ⟨w6.heap.size, 0, none⟩) 1 [⟨0, 2, none, [], 0⟩] := by
    refine ⟨fun _ => ⟨w6.heap.size, 0, rfl, fun i hi => ?_⟩, fun x hx => ?_, Nat.le_refl _, by simp⟩
    · obtain rfl : i = 0 := by simpa using hi
      exact fun j v hv => VB.rangeAt VX 0 3 j v hv
    · obtain rfl : x = ⟨0, 2, none, [], 0⟩ := by simpa using hx
      exact ⟨RB.nil, by simp, by simp, by simp, by simp, by simp, by simp⟩
  go_wp2_with fail
  refine (dsame_any Q (some ⟨w6.heap.size, 0, none⟩) cq 1 qs [⟨0, 2, none, [], 0⟩] _ (hQ.ab abA) PX (by rw [hqs.out]; rfl)).mono ?_
  rintro e w7 ⟨rfl, hb7⟩
  have b7 : Ab w w7 := b4.trans (Ab.trans (by exact abA) hb7)
  go_wp2
  go_ret
  exact ⟨rfl, b7⟩
end Go.Proofs.Ytjgijpfknhfnjaa
