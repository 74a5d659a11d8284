/- The reference's Feed, Text, Lines and Check, walked. Own work. -/
import Derived.Test.YtegnkmfdchljkaaLnRefB
import Derived.Lib.AppendStr
set_option linter.unusedVariables false
set_option linter.unusedSimpArgs false
namespace Go.Proofs.Ytegnkmfdchljkaa
open Go.RowKit

theorem Ln.bad_parts (l : List UInt8) : decide (1 < (Ln.parts l).length) = Ln.bad l := by
  rw [Ln.parts_length]
  by_cases h : 10 ∈ l
  · rw [(Ln.bad_iff l).2 h]
    have := List.count_pos_iff.2 h
    simp; omega
  · rw [Ln.not_bad h, List.count_eq_zero.2 h]
    rfl
set_option maxHeartbeats 4000000 in
theorem rfeed_any (A : Option Addr) (c : Nat) (ps : List ByteArray) (w : World) (hp : SM w A c ps) (hs : ∀ p ∈ ps, p.size ≤ 5000) : Calls Try.prog 17 #[.slice A ps.length c] w fun e w' => e = .returned (.bool ((Ln.L ps).any Ln.bad)) ∧ Ab w w' := by
  have hk := hp.k
  have HP := Lib.hid hp
  have HS := Lib.hid hs
  clear hp hs
  go_enter Try.func17, Try.ntmps17
  go_wp2_with fail
  go_loopw [3] (fun i w' => ∃ k : Nat, k ≤ ps.length ∧ i = .int .i64 k ∧ Hid ((Ln.L (ps.take k)).any Ln.bad = false) ∧ Ab w w') (fun i _ => ps.length - (intOf i).toNat)
  case atStart => exact ⟨0, Nat.zero_le _, rfl, rfl, abA⟩
  case round =>
    obtain ⟨k, hk, rfl, hA, hb⟩ := hrel
    rename World => w1
    by_cases hlt : k < ps.length
    · obtain ⟨g, o, rfl, hR⟩ := HP.out.r (by omega)
      have c0 := hb.at (hR k hlt)
      have hT : (k : Int) < ps.length := by omega
      have hsz : ps[k].size ≤ 5000 := HS.out _ (List.getElem_mem hlt)
      have HN : Hid ((Ln.L (ps.take (k + 1))).any Ln.bad = ((Ln.L (ps.take k)).any Ln.bad || Ln.bad ps[k].data.toList)) := by
        unfold Hid
        rw [List.take_add_one, List.getElem?_eq_getElem hlt]
        simp only [Ln.L, Option.toList_some, List.map_append, List.map_cons, List.map_nil, List.any_append, List.any_cons, List.any_nil, Bool.or_false]
      have HW : Hid (Ln.bad ps[k].data.toList = true → (Ln.L ps).any Ln.bad = true) := fun h => by
        rw [List.any_eq_true]
        exact ⟨ps[k].data.toList, List.mem_map.2 ⟨ps[k], List.getElem_mem hlt, rfl⟩, h⟩
      clear hR
      obtain ⟨t, ht⟩ : ∃ t, ps[k] = ⟨List.toArray t⟩ := ⟨ps[k].data.toList, rfl⟩
      rw [ht] at c0 hsz HN HW
      have hsz : t.length ≤ 5000 := hsz
      have HN : Hid ((Ln.L (ps.take (k + 1))).any Ln.bad = ((Ln.L (ps.take k)).any Ln.bad || Ln.bad t)) := HN
      have HW : Hid (Ln.bad t = true → (Ln.L ps).any Ln.bad = true) := HW
      clear ht
      have hcv := conv_bytes w1 t
      have hge := grownCap_ge w1 t.length 0 5
      have hle := grownCap_le_maxLen w1 t.length 0 5 (by unfold maxLen; omega)
      unfold maxLen at hle
      have hb3 : RB (w1.drew.alloc (.cells (bytesRow ⟨t.toArray⟩ (grownCap w1 t.length 0 5)) 5 ((bytesRow ⟨t.toArray⟩ (grownCap w1 t.length 0 5)).size, (bytesRow ⟨t.toArray⟩ (grownCap w1 t.length 0 5)).size + 1))) 0 (some ⟨w1.heap.size, 0, none⟩) t := rb_row (by (repeat (first | exact new_plain wnA | with_reducible refine old_alloc ?_ | with_reducible refine old_drew ?_ | with_reducible refine old_set ?_ wnA | with_reducible refine old_ab (by assumption) ?_)))
      generalize grownCap w1 t.length 0 5 = cp at *
      have C := rparts_any _ t cp _ hb3 (by omega) (by simp) (by omega) hle
      have HQ := Lib.hid (Ln.bad_parts t)
      cases hq : Ln.bad t with
      | false =>
        rw [hq] at HN HQ
        go_wp2_with (go_at_call 23
                     refine C.mono ?_
                     rintro e w2 ⟨B2, d2, qs, rfl, hL, hS2, hb2⟩
                     have hn : ¬ (1 : Int) < (qs.length : Int) := by
                       have h1 := congrArg List.length hL
                       rw [List.length_map] at h1
                       have h2 := HQ.out
                       rw [← h1] at h2
                       simp at h2
                       omega
                     clear hL hS2)
        have b2 : Ab w w2 := Ab.trans (by exact abA) hb2
        go_roundw
        case rel => exact ⟨k + 1, by omega, by go_num, by rw [HN.out, hA.out]; rfl, b2⟩
        case measure => simp [intOf]; omega
      | true =>
        have HV := Lib.hid (HW.out hq)
        rw [hq] at HN HQ
        go_wp2_with (go_at_call 23
                     refine C.mono ?_
                     rintro e w2 ⟨B2, d2, qs, rfl, hL, hS2, hb2⟩
                     have hn : (1 : Int) < (qs.length : Int) := by
                       have h1 := congrArg List.length hL
                       rw [List.length_map] at h1
                       have h2 := HQ.out
                       rw [← h1] at h2
                       simp at h2
                       omega
                     clear hL hS2)
        have b2 : Ab w w2 := Ab.trans (by exact abA) hb2
        go_ret
        exact ⟨by rw [HV.out]; rfl, b2⟩
    · obtain rfl : k = ps.length := by omega
      have HV := hA.out
      rw [List.take_length] at HV
      have HV := Lib.hid HV
      go_wp2
      go_ret
      exact ⟨by rw [HV.out]; rfl, hb⟩
theorem Ln.text_snoc (l : List (List UInt8)) (x : List UInt8) (h : l ≠ []) : Ln.text (l ++ [x]) = Ln.text l ++ 10 :: x := by
  cases l with
  | nil => exact absurd rfl h
  | cons y r =>
    unfold Ln.text
    rw [List.cons_append, Lib.join_cons, Lib.join_cons]
    simp [Lib.joinTail]
theorem Ln.text_le (l : List (List UInt8)) : (Ln.text l).length ≤ Ln.len l := by
  by_cases h : l = []
  · subst h; simp [Ln.text_nil]
  · have := Ln.text_len l h; omega
/-- A string appended to bytes of the call's own. -/
theorem listStr {lo : Nat} {w : World} {A : Option Addr} {c : Nat} {l : List UInt8} {x : List UInt8} {o : Oper} {a : Act} {ops : Array Oper} {rest : List Oper} {Q : Exit → Act → World → Prop} (hgd : o.guard = none) (s y : Operand)
    (ho : o.op = .call { callee := .builtin .append, args := #[s, y], argTypes := #[41, 9] })
    (hs : a.eval s = .slice A l.length c) (hy : a.eval y = .string ⟨x.toArray⟩) (h : OR 5 lo w A c l) (hlo : lo ≤ w.heap.size) (hlen : l.length + x.length ≤ 70368744177664)
    (hK : ∀ A' c' w' L, Hid (L = l ++ x) → OR 5 lo w' A' c' L → (∀ W : World, Ab W w → W.heap.size ≤ lo → Ab W w') → wpList Try.prog ops Q rest (a.put o.dst (.slice A' L.length c')) w') :
    wpList Try.prog ops Q (o :: rest) a w := by
  obtain ⟨i0, hi0, hz0, hz1, hz2⟩ := info_parts infoU8
  have hx : (⟨x.toArray⟩ : ByteArray).size = x.length := rfl
  have hc : Lib.strCells ⟨x.toArray⟩ = x.map cb := rfl
  refine Lib.wpList_append_own_string (P := Try.prog) w hgd s y _ _ ho lo 5 i0 Try.underlying41 Try.underlying9 hi0 hz0 hz1 hz2 _ l.length (l.map cb) hs h.out ⟨x.toArray⟩ hy (by rw [hx]; unfold maxLen; omega) (by rw [hx]; omega) hlo ?_
  intro v' w' h2 h3 h4
  rw [hx, hc, ← List.map_append] at h2
  have hrow : Value.ownBlock (.slice A l.length c) = A.map (·.block) := by cases A <;> rfl
  rw [hrow] at h3
  have hab : ∀ W : World, Ab W w → W.heap.size ≤ lo → Ab W w' := fun W hW hl => Below.grown hW.out h3 hW.size fun k hk => Nat.le_trans hl (h.out.lt k (by rw [hrow]; exact hk)).1
  rcases h2.2 with ⟨rfl, h0⟩ | ⟨g, cap, cur, rfl, r⟩
  · have hl0 : (l ++ x).length = 0 := by rw [List.length_append]; exact h0
    have := hK none 0 w' (l ++ x) rfl ⟨by simp, .inl ⟨by rw [hl0], hl0⟩⟩ hab
    rwa [hl0] at this
  · have := hK (some ⟨g, 0, none⟩) cap w' (l ++ x) rfl ⟨by simp, .inr ⟨g, cap, cur, by rw [List.length_append], by simpa using r⟩⟩ hab
    rwa [List.length_append] at this
theorem rb_feed {w : World} {g : Nat} {v : Int} {x : UInt8} {fr : Nat × Nat} (hg : w.heap[g]? = some (.cells #[.int .u8 v] 5 fr)) (hv : v = (x.toNat : Int)) : RB w 0 (some ⟨g, 0, none⟩) [x] := by
  subst hv
  intro _
  refine ⟨_, rfl, Nat.zero_le _, fun i hi => ?_⟩
  have : i = 0 := by simp at hi; omega
  subst this
  unfold Addr.add World.cell?
  simp [hg, cb]
def RetTx (w : World) (L : List (List UInt8)) (e : Ending) (w' : World) : Prop := ∃ B d y, e = .returned (.slice B y.length d) ∧ y = Ln.text L ∧ RB w' 0 B y ∧ y.length ≤ d ∧ Ab w w'
set_option maxHeartbeats 4000000 in
theorem rtext_any (A : Option Addr) (c : Nat) (ps : List ByteArray) (w : World) (hp : SM w A c ps) : Calls Try.prog 19 #[.slice A ps.length c] w (RetTx w (Ln.L ps)) := by
  have hk := hp.k
  have HP := Lib.hid hp
  clear hp
  go_enter Try.func19, Try.ntmps19
  go_wp2_with fail
  go_loopw [3, 4] (fun s i w' => ∃ (k : Nat) (B : Option Addr) (d : Nat) (y : List UInt8), k ≤ ps.length ∧ i = .int .i64 k ∧ s = .slice B y.length d ∧ Hid (y = Ln.text (Ln.L (ps.take k))) ∧ OR 5 w.heap.size w' B d y ∧ Ab w w') (fun _ i _ => ps.length - (intOf i).toNat)
  case atStart => exact ⟨0, none, 0, [], Nat.zero_le _, rfl, rfl, rfl, OR.none_, abA⟩
  case round =>
    obtain ⟨k, B, d, y, hk, rfl, rfl, hY, ho, hb⟩ := hrel
    rename World => w1
    by_cases hlt : k < ps.length
    · obtain ⟨g, o, rfl, hR⟩ := HP.out.r (by omega)
      have cw := hR k hlt
      have c0 := hb.at cw
      have hT : (k : Int) < ps.length := by omega
      have hsz : ps[k].size ≤ 100000 := HP.out.s _ (List.getElem_mem hlt)
      have hyl : y.length ≤ 100000 * 100000 + 100000 := by
        rw [hY.out]
        have h1 := Ln.text_le (Ln.L (ps.take k))
        have h2 := Ln.lens_le (ps.take k) (fun p hp => HP.out.s p (List.mem_of_mem_take hp))
        have h3 : (ps.take k).length ≤ 100000 := by simp; omega
        unfold Ln.len at h1
        rw [List.length_map] at h1
        have := Nat.mul_le_mul_right 100000 h3
        omega
      obtain ⟨t, ht⟩ : ∃ t, ps[k] = ⟨List.toArray t⟩ := ⟨ps[k].data.toList, rfl⟩
      have HE : Hid (Ln.L (ps.take (k + 1)) = Ln.L (ps.take k) ++ [t]) := by
        unfold Hid Ln.L
        rw [List.take_add_one, List.getElem?_eq_getElem hlt, ht]
        simp
      rw [ht] at c0 hsz cw
      have hsz : t.length ≤ 100000 := hsz
      clear hR ht
      by_cases h0 : k = 0
      · subst h0
        rw [Nat.add_zero] at c0
        clear cw
        have HY : Hid (y = []) := hY.out
        go_wp2_with (first
          | (at_builtin
             refine listStr (x := t) rfl _ _ rfl rfl rfl ho hb.size (by omega) ?_
             intro A6 c6 w6 y6 e6 o6 f6
             have b6 := f6 w (by exact abA) (Nat.le_refl _)
             clear f6))
        go_roundw
        case rel => exact ⟨1, A6, c6, y6, by omega, by go_num, rfl, by rw [HE.out, e6.out, HY.out]; exact (Ln.text_one t).symm, o6, b6⟩
        case measure => simp [intOf]; omega
      · have h1 : (0 : Int) < k := by omega
        have hne : Ln.L (ps.take k) ≠ [] := by
          intro e
          have := congrArg List.length e
          rw [List.length_map, List.length_take, List.length_nil] at this
          omega
        have h1' : 0 < k := by omega
        have HN := Lib.hid hne
        clear hne
        go_wp2_with (first
          | (at_builtin
             refine listApp (m := [10]) (n := 1) (lb := 0) rfl _ _ rfl rfl rfl rfl (ho.alloc _) (by have := hb.size; simp; omega) (rb_feed (by (repeat (first | exact new_plain wnA | with_reducible refine old_alloc ?_ | with_reducible refine old_drew ?_ | with_reducible refine old_set ?_ wnA | with_reducible refine old_ab (by assumption) ?_))) rfl) (by simp) (by simp; omega) ?_
             intro A5 c5 w5 y5 e5 o5 _ f5
             have b5 := f5 w (by exact abA) (Nat.le_refl _)
             have l5 : y5.length ≤ 10000200000 := by rw [e5.out]; simp; omega
             have c5' := b5.at cw
             clear f5)
          | (at_builtin
             refine listStr (x := t) rfl _ _ rfl rfl rfl o5 b5.size (by omega) ?_
             intro A6 c6 w6 y6 e6 o6 f6
             have b6 := f6 w (by exact abA) (Nat.le_refl _)
             clear f6))
        go_roundw
        case rel => exact ⟨k + 1, A6, c6, y6, by omega, by go_num, rfl, by rw [HE.out, e6.out, e5.out, hY.out, Ln.text_snoc _ _ HN.out]; show _ = _; simp, o6, b6⟩
        case measure => simp [intOf]; omega
    · obtain rfl : k = ps.length := by omega
      have HV := hY.out
      rw [List.take_length] at HV
      have HV := Lib.hid HV
      go_wp2
      go_ret
      exact ⟨B, d, y, rfl, HV.out, ho.rb.zero, ho.le, hb⟩
set_option maxHeartbeats 4000000 in
/-- The reference's error of a list of lines. -/
theorem rlines_any (A : Option Addr) (c : Nat) (ps : List ByteArray) (w : World) (hp : SM w A c ps) (hs : ∀ p ∈ ps, p.size ≤ 5000) : Calls Try.prog 11 #[.slice A ps.length c] w fun e w' => e = .returned (.int .i64 (Ln.err (Ln.L ps) : Nat)) ∧ Ab w w' := by
  have hk := hp.k
  have C := fun w' (hk : Ab w w') => rtext_any A c ps w' (hp.ab hk)
  have D := fun w' (hk : Ab w w') => rfeed_any A c ps w' (hp.ab hk) hs
  have hL : (Ln.L ps).length = ps.length := by simp
  have hN : (Ln.L ps = []) = (ps.length = 0) := by simp
  have HE : Hid (Ln.err (Ln.L ps) = if 60 < ps.length ∨ 2000 < (Ln.text (Ln.L ps)).length then 4 else if ps.length = 0 ∨ (Ln.L ps).any Ln.bad = true then 8 else 0) := by
    unfold Hid Ln.err
    simp only [hL, hN]
    by_cases h0 : Ln.L ps = []
    · have : ps = [] := List.map_eq_nil_iff.1 h0
      subst this
      rfl
    · have := Ln.text_len _ h0
      by_cases h : 60 < ps.length ∨ 2000 < (Ln.text (Ln.L ps)).length
      · rw [if_pos h, if_pos (by omega)]
      · rw [if_neg h, if_neg (by omega)]
  clear hp hs hL hN
  generalize Ln.err (Ln.L ps) = E at *
  generalize (Ln.L ps).any Ln.bad = q at *
  unfold RetTx at C
  generalize Ln.text (Ln.L ps) = t at *
  generalize ps.length = k at *
  by_cases h60 : 60 < k
  · have hT : (60 : Int) < k := by omega
    go_enter Try.func11, Try.ntmps11
    go_wp2
    go_ret
    exact ⟨congrArg (fun b => Ending.returned (Value.int .i64 b)) (by rw [HE.out, if_pos (Or.inl h60)]; rfl), abA⟩
  · have hT : ¬ (60 : Int) < k := by omega
    by_cases h20 : 2000 < t.length
    · have hT2 : (2000 : Int) < (t.length : Int) := by omega
      go_enter Try.func11, Try.ntmps11
      go_wp2_with fail
      refine (C _ abA).mono ?_
      rintro e w1 ⟨B1, d1, y1, rfl, rfl, _, _, hb1⟩
      go_wp2
      go_ret
      exact ⟨congrArg (fun b => Ending.returned (Value.int .i64 b)) (by rw [HE.out, if_pos (Or.inr h20)]; rfl), hb1⟩
    · have hT2 : ¬ (2000 : Int) < (t.length : Int) := by omega
      by_cases h0 : k = 0
      · subst h0
        go_enter Try.func11, Try.ntmps11
        go_wp2_with fail
        refine (C _ abA).mono ?_
        rintro e w1 ⟨B1, d1, y1, rfl, rfl, _, _, hb1⟩
        go_wp2
        go_ret
        exact ⟨congrArg (fun b => Ending.returned (Value.int .i64 b)) (by rw [HE.out, if_neg (by omega)]; simp), hb1⟩
      · have hT3 : ¬ (k : Int) = 0 := by omega
        go_enter Try.func11, Try.ntmps11
        go_wp2_with fail
        refine (C _ abA).mono ?_
        rintro e w1 ⟨B1, d1, y1, rfl, rfl, _, _, hb1⟩
        go_wp2_with fail
        refine (D _ abA).mono ?_
        rintro e w2 ⟨rfl, hb2⟩
        cases q with
        | true =>
          go_wp2
          go_ret
          exact ⟨congrArg (fun b => Ending.returned (Value.int .i64 b)) (by rw [HE.out, if_neg (by omega)]; simp), hb1.trans hb2⟩
        | false =>
          go_wp2
          go_ret
          exact ⟨congrArg (fun b => Ending.returned (Value.int .i64 b)) (by rw [HE.out, if_neg (by omega)]; simp [h0]), hb1.trans hb2⟩
end Go.Proofs.Ytegnkmfdchljkaa
