/- slices.Concat over strings, and Replace of package lines, walked. Own work. -/
import Derived.Test.YtegnkmfdchljkaaLnFunB
import Derived.Test.YtegnkmfdchljkaaLnOwn
set_option linter.unusedVariables false
set_option linter.unusedSimpArgs false
namespace Go.Proofs.Ytegnkmfdchljkaa
open Go.RowKit

/-- A list of strings as a value. -/
structure SlM where
  A : Option Addr
  c : Nat
  ps : List ByteArray
def tot (xs : List SlM) (k : Nat) : List ByteArray := ((xs.take k).map SlM.ps).flatten
theorem tot_zero (xs : List SlM) : tot xs 0 = [] := rfl
theorem tot_succ {xs : List SlM} {k : Nat} (h : k < xs.length) : tot xs (k + 1) = tot xs k ++ xs[k].ps := by
  unfold tot
  rw [List.take_add_one, List.getElem?_eq_getElem h]
  simp only [List.map_append, List.flatten_append, Option.toList_some, List.map_cons, List.map_nil, List.flatten_cons, List.flatten_nil, List.append_nil]
theorem tot_le (xs : List SlM) (k : Nat) : (tot xs k).length ≤ (tot xs xs.length).length := by
  unfold tot
  rw [List.take_length]
  conv => rhs; rw [← List.take_append_drop k xs]
  simp only [List.map_append, List.flatten_append, List.length_append]
  omega
theorem tot_all {xs : List SlM} {P : ByteArray → Prop} (h : ∀ x ∈ xs, ∀ p ∈ x.ps, P p) (k : Nat) : ∀ p ∈ tot xs k, P p := fun p hp => by
  obtain ⟨l, hl, hpl⟩ := List.mem_flatten.1 hp
  obtain ⟨x, hx, rfl⟩ := List.mem_map.1 hl
  exact h x (List.mem_of_mem_take hx) p hpl
set_option maxHeartbeats 4000000 in
theorem concat_any (b : Nat) (xs : List SlM) (w : World) (hx : xs.length ≤ 1000) (hc : ∀ j (h : j < xs.length), w.cell? ⟨b, j, none⟩ = some (.slice xs[j].A xs[j].ps.length xs[j].c)) (hp : ∀ j (h : j < xs.length), SM w xs[j].A xs[j].c xs[j].ps) (ht : (tot xs xs.length).length ≤ 100000) :
    Calls Try.prog 16 #[.slice (some ⟨b, 0, none⟩) xs.length xs.length] w fun e w' => ∃ A c, e = .returned (.slice A (tot xs xs.length).length c) ∧ SM w' A c (tot xs xs.length) ∧ Ab w w' := by
  have HC := Lib.hid hc
  have HP := Lib.hid hp
  have HS : Hid (∀ p ∈ tot xs xs.length, p.size ≤ 100000) := by
    refine tot_all (fun x hx p hpx => ?_) _
    obtain ⟨j, hj, rfl⟩ := List.getElem_of_mem hx
    exact (hp j hj).s p hpx
  clear hc hp
  go_enter Try.func16, Try.ntmps16
  go_wp2_with fail
  go_loopw [3, 5, 11] (fun n _ i w' => ∃ k : Nat, k ≤ xs.length ∧ i = .int .i64 k ∧ n = .int .i64 ((tot xs k).length : Nat) ∧ Ab w w') (fun _ _ i _ => xs.length - (intOf i).toNat)
  case atStart => exact ⟨0, Nat.zero_le _, rfl, rfl, abA⟩
  case round =>
    obtain ⟨k, hk, rfl, rfl, hb⟩ := hrel
    rename World => w1
    have hT0 := tot_le xs k
    by_cases hlt : k < xs.length
    · have c0 := hb.at (HC.out k hlt)
      have hT : (k : Int) < xs.length := by omega
      have hE : (tot xs (k + 1)).length = (tot xs k).length + xs[k].ps.length := by rw [tot_succ hlt, List.length_append]
      have hT1 := tot_le xs (k + 1)
      have HE := Lib.hid hE
      clear hE
      have hk1 : (tot xs k).length + xs[k].ps.length ≤ 100000 := by rw [← HE.out]; omega
      clear hT1
      generalize (tot xs k).length = m at *
      generalize xs[k] = x at *
      obtain ⟨B, d, qs⟩ := x
      dsimp only at c0 HE hk1
      have hn : ¬ (m : Int) + (qs.length : Int) < 0 := by omega
      go_wp2
      go_roundw
      case rel => exact ⟨k + 1, by omega, by go_num, by rw [HE.out]; go_num, abA⟩
      case measure => simp [intOf]; omega
    · obtain rfl : k = xs.length := by omega
      have HG : Hid (∀ w1, Ab w w1 → Calls Try.prog 22 #[.slice none 0 0, .int .i64 ((tot xs xs.length).length : Nat)] w1 fun e w' => ∃ A c, e = .returned (.slice A 0 c) ∧ OwnS w.heap.size w' A c [] ∧ Ab w1 w') := by
        intro w1 hw1
        obtain ⟨i0, hi0, hz0, hz1, hz2⟩ : ∃ i0, Try.prog.info? 9 = some i0 ∧ i0.zero = some (.string ⟨#[]⟩) ∧ i0.size = 1 ∧ i0.bytes = 16 := by
          have := infoStr
          cases h : Try.prog.info? 9 with
          | none => rw [h] at this; cases this
          | some i => rw [h] at this; simp at this; exact ⟨i, rfl, this⟩
        rcases Nat.eq_zero_or_pos (tot xs xs.length).length with h0 | hpos
        · rw [h0]
          refine (Any8.slices_Grow_room Try.growS none 0 0 0 w1 (Nat.le_refl _) (by omega) (by omega) (Nat.le_refl _)).mono ?_
          rintro e w2 ⟨rfl, rfl⟩
          exact ⟨none, 0, rfl, OwnS.nil, abA⟩
        · have G := Any8.slices_Grow_grow Try.growS i0 (.string ⟨#[]⟩) hi0 hz0 (by omega) none 0 0 (tot xs xs.length).length [] w1 (Nat.le_refl _) (by omega) (by rw [hz2]; omega) (by omega) (by simp) (fun _ => rfl) (fun a h => by cases h)
          refine G.mono ?_
          rintro e w2 ⟨rfl, rfl⟩
          have hge := grownCap_ge w1 (0 + (tot xs xs.length).length) 0 9
          have hle := grownCap_le_maxLen w1 (0 + (tot xs xs.length).length) 0 9 (by unfold maxLen; omega)
          refine ⟨_, _, rfl, ?_, abA⟩
          refine OwnS.room (cur := ([].toArray ++ Builtin.zeroCells (Value.string ⟨#[]⟩).cells (0 + (tot xs xs.length).length - 0) ++ Builtin.zeroCells (Value.string ⟨#[]⟩).cells (grownCap w1 (0 + (tot xs xs.length).length) 0 9 - (0 + (tot xs xs.length).length)))) (hw1.size) (by (repeat (first | exact new_plain wnA | with_reducible refine old_alloc ?_ | with_reducible refine old_drew ?_ | with_reducible refine old_set ?_ wnA | with_reducible refine old_ab (by assumption) ?_))) ?_ hle
          show _ = grownCap w1 (0 + (tot xs xs.length).length) 0 9
          simp only [Array.size_append, size_zeroCells]
          have hz : (Value.string ⟨#[]⟩).cells.size = 1 := rfl
          rw [hz]
          simp only [List.size_toArray, List.length_nil]
          omega
      have hL := tot_le xs 0
      go_wp2_with fail
      refine (HG.out _ hb).mono ?_
      rintro e w2 ⟨A0, cc0, rfl, ho0, hb2⟩
      go_wp2_with fail
      go_loopw [6, 8, 27] (fun s _ i w' => ∃ (k : Nat) (A : Option Addr) (c : Nat), k ≤ xs.length ∧ i = .int .i64 k ∧ s = .slice A (tot xs k).length c ∧ OwnS w.heap.size w' A c (tot xs k) ∧ Ab w w') (fun _ _ i _ => xs.length - (intOf i).toNat)
      case atStart => exact ⟨0, A0, cc0, Nat.zero_le _, rfl, rfl, ho0, abA⟩
      case round =>
        obtain ⟨k, A, c, hk, rfl, rfl, ho, hb⟩ := hrel
        rename World => w3
        have hT0 := tot_le xs k
        by_cases hlt : k < xs.length
        · have c0 := hb.at (HC.out k hlt)
          have P0 := (HP.out k hlt).ab hb
          have hT : (k : Int) < xs.length := by omega
          have hE : tot xs (k + 1) = tot xs k ++ xs[k].ps := tot_succ hlt
          have HE := Lib.hid hE
          clear hE
          generalize tot xs k = us at *
          generalize xs[k] = x at *
          obtain ⟨B, d, qs⟩ := x
          dsimp only at c0 HE P0
          go_wp2_with (first
            | (at_builtin
               refine listAppS (ps := us) (qs := qs) rfl _ _ rfl rfl rfl rfl rfl ho hb.size P0 (by omega) ?_
               intro A6 c6 w6 o6 f6
               have b6 := f6 w hb (Nat.le_refl _)
               clear f6))
          go_roundw
          case rel => exact ⟨k + 1, A6, c6, by omega, by go_num, by rw [HE.out, List.length_append], by rw [HE.out]; exact o6, b6⟩
          case measure => simp [intOf]; omega
        · obtain rfl : k = xs.length := by omega
          go_wp2
          go_ret
          exact ⟨A, c, rfl, ho.sm ht HS.out, hb⟩
/-- Replace's error, and what it returns. -/
def Ln.repE (l : List (List UInt8)) (i j : Int) (t : List (List UInt8)) : Nat :=
  if Ln.err l ≠ 0 then Ln.err l else if i < 0 ∨ j < i ∨ (l.length : Int) < j then 2 else if t.any Ln.bad = true then 8 else Ln.err (Ln.rep l i.toNat j.toNat t)
def Ln.repL (l : List (List UInt8)) (i j : Int) (t : List (List UInt8)) : List (List UInt8) := if Ln.repE l i j t = 0 then Ln.rep l i.toNat j.toNat t else []
def RetRp (w : World) (l : List (List UInt8)) (i j : Int) (t : List (List UInt8)) (e : Ending) (w' : World) : Prop := ∃ B d ps, e = .returned (.tuple #[.slice B ps.length d, .int .i64 (Ln.repE l i j t : Nat)]) ∧ Ln.L ps = Ln.repL l i j t ∧ SM w' B d ps ∧ Ab w w'
theorem RetRp.no {w w' : World} {l : List (List UInt8)} {i j : Int} {t : List (List UInt8)} {e : Ending} {k : Nat} (hk : Hid (Ln.repE l i j t = k)) (h0 : k ≠ 0) (he : e = .returned (.tuple #[.slice none 0 0, .int .i64 (k : Nat)])) (h : Ab w w') : RetRp w l i j t e w' := by
  have hk := hk.out
  subst hk
  exact ⟨none, 0, [], he, by unfold Ln.repL; rw [if_neg h0]; rfl, SM.none (by omega), h⟩
theorem RetRp.yes {w w' : World} {l : List (List UInt8)} {i j : Int} {t : List (List UInt8)} {e : Ending} (hk : Hid (Ln.repE l i j t = 0)) {B : Option Addr} {d : Nat} {ps : List ByteArray} (he : e = .returned (.tuple #[.slice B ps.length d, .int .i64 0])) (hL : Ln.L ps = Ln.rep l i.toNat j.toNat t) (h1 : SM w' B d ps) (h : Ab w w') : RetRp w l i j t e w' := by
  exact ⟨B, d, ps, by rw [he, hk.out]; rfl, by unfold Ln.repL; rw [if_pos hk.out]; exact hL, h1, h⟩
theorem sm_sub {w : World} {A : Option Addr} {c : Nat} {ps : List ByteArray} (h : SM w A c ps) (i j : Nat) (hi : i ≤ j) (hj : j ≤ ps.length) (B : Option Addr) (hB : ∀ g o, A = some ⟨g, o, none⟩ → i < j → B = some ⟨g, o + i, none⟩) : SM w B (c - i) ((ps.take j).drop i) := by
  have hl : ((ps.take j).drop i).length = j - i := by simp; omega
  refine ⟨fun hn => ?_, ?_, ?_, ?_, fun p hp => h.s p (List.mem_of_mem_take (List.mem_of_mem_drop hp))⟩
  · obtain ⟨g, o, h1, h2⟩ := h.r (by omega)
    refine ⟨g, o + i, hB g o h1 (by omega), fun k hk => ?_⟩
    have := h2 (i + k) (by omega)
    rw [show o + i + k = o + (i + k) by omega, this]
    simp
  · have := h.n; omega
  · have := h.c'; omega
  · have := h.k; omega
set_option maxHeartbeats 4000000 in
set_option maxRecDepth 100000 in
theorem replace_any (A B : Option Addr) (c d : Nat) (ps qs : List ByteArray) (i j : Int) (w : World) (hp : SM w A c ps) (hq : SM w B d qs) (hm : qs.length ≤ 50000) (i0 : -9223372036854775808 ≤ i) (i1 : i ≤ 9223372036854775807) (j0 : -9223372036854775808 ≤ j) (j1 : j ≤ 9223372036854775807) :
    Calls Try.prog 7 #[.slice A ps.length c, .int .i64 i, .int .i64 j, .slice B qs.length d] w (RetRp w (Ln.L ps) i j (Ln.L qs)) := by
  have C := fun w' (hk : Ab w w') => valid_any A c ps w' (hp.ab hk)
  have D := fun w' (hk : Ab w w') => lnContainsFunc_any B d qs w' (hq.ab hk)
  by_cases h1 : Ln.err (Ln.L ps) = 0
  · rw [h1] at C
    by_cases hij : i < 0 ∨ j < i ∨ (ps.length : Int) < j
    · have HE : Hid (Ln.repE (Ln.L ps) i j (Ln.L qs) = 2) := by unfold Hid Ln.repE; rw [if_neg (by simp [h1]), if_pos (by simpa using hij)]
      clear hp hq h1 hm D
      by_cases a1 : i < 0
      · go_enter Try.func7, Try.ntmps7
        go_wp2_with fail
        refine (C _ abA).mono ?_
        rintro e w1 ⟨rfl, hb1⟩
        go_wp2
        go_ret2
        exact RetRp.no HE (by omega) rfl hb1
      · by_cases a2 : j < i
        · go_enter Try.func7, Try.ntmps7
          go_wp2_with fail
          refine (C _ abA).mono ?_
          rintro e w1 ⟨rfl, hb1⟩
          go_wp2
          go_ret2
          exact RetRp.no HE (by omega) rfl hb1
        · have a3 : (ps.length : Int) < j := by omega
          go_enter Try.func7, Try.ntmps7
          go_wp2_with fail
          refine (C _ abA).mono ?_
          rintro e w1 ⟨rfl, hb1⟩
          go_wp2
          go_ret2
          exact RetRp.no HE (by omega) rfl hb1
    · obtain ⟨m, rfl⟩ : ∃ m : Nat, i = (m : Int) := ⟨i.toNat, by omega⟩
      obtain ⟨n, rfl⟩ : ∃ n : Nat, j = (n : Int) := ⟨j.toNat, by omega⟩
      have a1 : ¬ (m : Int) < 0 := by omega
      have a2 : ¬ (n : Int) < (m : Int) := by omega
      have a3 : ¬ (ps.length : Int) < (n : Int) := by omega
      by_cases h2 : (Ln.L qs).any Ln.bad = true
      · have HE : Hid (Ln.repE (Ln.L ps) m n (Ln.L qs) = 8) := by unfold Hid Ln.repE; rw [if_neg (by simp [h1]), if_neg (by simpa using hij), if_pos h2]
        rw [h2] at D
        clear hp hq h1 hm hij h2
        go_enter Try.func7, Try.ntmps7
        go_wp2_with fail
        refine (C _ abA).mono ?_
        rintro e w1 ⟨rfl, hb1⟩
        go_wp2_with fail
        refine (D _ abA).mono ?_
        rintro e w2 ⟨rfl, hb2⟩
        go_wp2
        go_ret2
        exact RetRp.no HE (by omega) rfl (hb1.trans hb2)
      · rw [Bool.not_eq_true] at h2
        have HE : Hid (Ln.repE (Ln.L ps) m n (Ln.L qs) = Ln.err (Ln.rep (Ln.L ps) m n (Ln.L qs))) := by unfold Hid Ln.repE; rw [if_neg (by simp [h1]), if_neg (by simpa using hij), if_neg (by simp [h2])]; rfl
        rw [h2] at D
        have hlen : 0 < ps.length := by
          have := (Ln.err_zero h1).2.2.1
          cases ps with
          | nil => exact absurd rfl this
          | cons x t => simp
        obtain ⟨g, o, rfl, hR⟩ := hp.r hlen
        have hpn := hp.n
        have h60 := (Ln.err_zero h1).1
        rw [List.length_map] at h60
        have HPP := Lib.hid hp
        have HQQ := Lib.hid hq
        clear hp hq h1 hij h2 hR
        have s1 : m ≤ c := by omega
        have s2 : n ≤ ps.length := by omega
        go_enter Try.func7, Try.ntmps7
        go_wp2_with fail
        refine (C _ abA).mono ?_
        rintro e w1 ⟨rfl, hb1⟩
        go_wp2_with fail
        refine (D _ abA).mono ?_
        rintro e w2 ⟨rfl, hb2⟩
        have hb0 : Ab w w2 := hb1.trans hb2
        clear C D
        go_upto_region 8 with fail
        refine wp_region_held_drew (by kernel_rfl) (S := fun w' => True) ?_ (fun hHeld => ?_)
        · trivial
        (refine rtA 0 ?_ ?_
         (try simp only [Act.put, stA, st0, st1]))
        (refine rtA 1 ?_ ?_
         (try simp only [Act.put, stA, st0, st1]))
        (refine rtA 2 ?_ ?_
         (try simp only [Act.put, stA, st0, st1]))
        (refine rtA 3 ?_ ?_
         (try simp only [Act.put, stA, st0, st1]))
        (refine rtA 4 ?_ ?_
         (try simp only [Act.put, stA, st0, st1]))
        (refine rtA 5 ?_ ?_
         (try simp only [Act.put, stA, st0, st1]))
        (try simp only [Act.put, List.getElem_toArray, List.getElem_cons_succ, List.getElem_cons_zero, stA, st0, st1])
        (refine rtA 6 ?_ ?_
         (try simp only [Act.put, stA, st0, st1]))
        (try simp only [Act.put, List.getElem_toArray, List.getElem_cons_succ, List.getElem_cons_zero, stA, st0, st1])
        obtain ⟨B3, hB3⟩ : ∃ B3 : Option Addr, B3 = if c = n then some ({ block := g, off := o } : Addr) else some { block := g, off := o + n } := ⟨_, rfl⟩
        rw [← hB3]
        have S1 := sm_sub HPP.out 0 m (Nat.zero_le _) (by omega) (some ⟨g, o, none⟩) (fun g' o' e _ => by injection e with e; injection e with e1 e2; subst e1 e2; rfl)
        have S3 := sm_sub HPP.out n ps.length (by omega) (Nat.le_refl _) B3 (fun g' o' e hlt => by
          injection e with e; injection e with e1 e2; subst e1 e2
          have := hpn
          rw [hB3, if_neg (by omega)])
        clear hB3
        rw [List.drop_zero, Nat.sub_zero] at S1
        rw [List.take_length] at S3
        have l1 : (ps.take m).length = m := by simp; omega
        have l3 : (ps.drop n).length = ps.length - n := by simp
        have CC : ∀ W3 : World, Ab w W3 → W3.heap[w2.heap.size]? = some (.cells #[.slice (some ⟨g, o, none⟩) m c, .slice B qs.length d, .slice B3 (ps.length - n) (c - n)] 22 (0, 0)) → Calls Try.prog 16 #[.slice (some ⟨w2.heap.size, 0, none⟩) 3 3] W3 fun e w' => ∃ A c, e = .returned (.slice A (ps.take m ++ (qs ++ ps.drop n)).length c) ∧ SM w' A c (ps.take m ++ (qs ++ ps.drop n)) ∧ Ab W3 w' := by
          intro W3 hk2 hx
          have G := concat_any w2.heap.size [⟨some ⟨g, o, none⟩, c, ps.take m⟩, ⟨B, d, qs⟩, ⟨B3, c - n, ps.drop n⟩] W3 (by simp) (fun j hj => by
            unfold World.cell?
            rw [hx]
            rcases j with _ | _ | _ | j
            · simp [l1]
            · simp
            · simp [l3]
            · simp at hj; omega) (fun j hj => by
            rcases j with _ | _ | _ | j
            · exact S1.ab hk2
            · exact HQQ.out.ab hk2
            · exact S3.ab hk2
            · simp at hj; omega) (by simp [tot]; omega)
          have e : tot [⟨some ⟨g, o, none⟩, c, ps.take m⟩, ⟨B, d, qs⟩, ⟨B3, c - n, ps.drop n⟩] [(⟨some ⟨g, o, none⟩, c, ps.take m⟩ : SlM), ⟨B, d, qs⟩, ⟨B3, c - n, ps.drop n⟩].length = ps.take m ++ (qs ++ ps.drop n) := by simp [tot]
          rw [e] at G
          exact G
        have HL : Hid (Ln.L (ps.take m ++ (qs ++ ps.drop n)) = Ln.rep (Ln.L ps) (m : Int).toNat (n : Int).toNat (Ln.L qs)) := by unfold Hid Ln.rep; simp [List.map_take, List.map_drop]
        have HE2 : Hid (Ln.repE (Ln.L ps) m n (Ln.L qs) = Ln.err (Ln.L (ps.take m ++ (qs ++ ps.drop n)))) := by have := HE.out; rw [HL.out]; exact this
        clear S1 S3 l1 l3 HE
        generalize ps.take m ++ (qs ++ ps.drop n) = rs at *
        refine r1A 7 (fun K hK => ?_)
        (go_simp
         (refine hK.out _ _ ?_ (fun hHeld => ?_)
          · (try dsimp only); (try exact hHeld)
          clear hK K
          (try simp only [Act.put, stA, st0, st1])))
        refine r1A 8 (fun K hK => ?_)
        (go_simp
         (refine (CC _ (by exact abA) (by (repeat (first | exact new_plain wnA | with_reducible refine old_alloc ?_ | with_reducible refine old_drew ?_ | with_reducible refine old_set ?_ wnA | with_reducible refine old_ab (by assumption) ?_)))).mono ?_; rintro e w3 ⟨A3, c3, rfl, hS3, hb3⟩)
         (try go_wp2_with fail)
         (refine hK.out _ _ ?_ (fun hHeld => ?_)
          · (try dsimp only); (try trivial)
          clear hK K
          (try simp only [Act.put, stA, st0, st1])))
        (refine rtA 9 ?_ ?_
         (try simp only [Act.put, stA, st0, st1]))
        (try simp only [Act.put, List.getElem_toArray, List.getElem_cons_succ, List.getElem_cons_zero, stA, st0, st1])
        refine wpAnyH_done (by kernel_rfl) ?_ _
        (try simp only [Act.put, List.getElem_toArray, List.getElem_cons_succ, List.getElem_cons_zero, stA, st0, st1])
        have b3 : Ab w w3 := Ab.trans (by exact abA) hb3
        have CV := fun w' (hk : Ab w3 w') => valid_any A3 c3 rs w' (hS3.ab hk)
        by_cases h5 : Ln.err (Ln.L rs) = 0
        · rw [h5] at CV HE2
          go_wp2_with fail
          refine (CV _ abA).mono ?_
          rintro e w4 ⟨rfl, hb4⟩
          go_wp2
          go_ret2
          exact RetRp.yes HE2 rfl HL.out (hS3.ab abA) abA
        · have hz : ¬ (Ln.err (Ln.L rs) : Int) = 0 := by omega
          clear HL
          generalize Ln.err (Ln.L rs) = nn at *
          go_wp2_with fail
          refine (CV _ abA).mono ?_
          rintro e w4 ⟨rfl, hb4⟩
          go_wp2
          go_ret2
          exact RetRp.no HE2 h5 rfl abA
  · have hz : ¬ (Ln.err (Ln.L ps) : Int) = 0 := by omega
    have HE : Hid (Ln.repE (Ln.L ps) i j (Ln.L qs) = Ln.err (Ln.L ps)) := by unfold Hid Ln.repE; rw [if_pos h1]
    clear hp hq D hm
    generalize Ln.err (Ln.L ps) = n at *
    go_enter Try.func7, Try.ntmps7
    go_wp2_with fail
    refine (C _ abA).mono ?_
    rintro e w1 ⟨rfl, hb1⟩
    go_wp2
    go_ret2
    exact RetRp.no HE h1 rfl hb1
end Go.Proofs.Ytegnkmfdchljkaa
