/- What a delta makes of a base, walked. Own work. -/
import Derived.Test.YtjgijpfknhfnjaaDlFunB
set_option linter.unusedVariables false
set_option linter.unusedSimpArgs false
namespace Go.Proofs.Ytjgijpfknhfnjaa
open Go.RowKit

theorem VB.grd {w w' : World} {b : Nat} {vs : List Value} {r : Option Nat} (h : VB w b vs) (k : w.grownBy w' r) (hr : r ≠ some b) : VB w' b vs :=
  ⟨Nat.lt_of_lt_of_le h.lt k.size, fun i v hv => grown_at k (by simpa using Ne.symm hr) (h.q i v hv), fun i => by
    have e : w'.heap[b]? = w.heap[b]? := k.block b h.lt (fun e => hr e.symm)
    have := h.g i
    unfold World.frozen? at this ⊢
    simp only [e]
    exact this⟩
theorem Dl.fit {s : List UInt8} {x : Dl.Part} (hf : Dl.fine x = true) (ho : Dl.over s.length x = false) : ∃ pk nk : Nat, x.p = pk ∧ x.n = nk ∧ pk + nk ≤ s.length ∧ nk ≤ 2000 ∧ pk ≤ 2000 ∧ x.b.length ≤ 2000 ∧ Dl.app1 s x = (s.drop pk).take nk ++ x.b ∧ (Dl.copies x = true → x.b = []) ∧ (Dl.copies x = false → nk = 0) := by
  cases hc : Dl.copies x with
  | true =>
    obtain ⟨c1, c2, c3, c4, c5⟩ := Dl.copies_iff.1 hc
    unfold Dl.over at ho
    rw [hc, Bool.true_and, decide_eq_false_iff_not] at ho
    have hb : x.b = [] := List.eq_nil_of_length_eq_zero c5
    refine ⟨x.p.toNat, x.n.toNat, by omega, by omega, by omega, by omega, by omega, by omega, ?_, fun _ => hb, fun h => (by cases h)⟩
    unfold Dl.app1
    rw [hc, if_pos rfl, hb, List.append_nil]
  | false =>
    unfold Dl.fine at hf
    rw [hc, Bool.false_or] at hf
    obtain ⟨c1, c2, c3, c4⟩ := Dl.inserts_iff.1 hf
    refine ⟨0, 0, by rw [c2]; rfl, by rw [c1]; rfl, by omega, by omega, by omega, c4, ?_, fun h => (by cases h), fun _ => rfl⟩
    unfold Dl.app1
    rw [hc, if_neg (by simp), List.take_zero, List.nil_append]
/-- What Apply returns. -/
def RetAp (w : World) (m : List UInt8 × Int) (e : Ending) (w' : World) : Prop := ∃ (D : Option Addr) (cd : Nat) (L : List UInt8), Hid (L = m.1) ∧ e = .returned (.tuple #[.slice D L.length cd, .int .i64 m.2]) ∧ OR 5 w.heap.size w' D cd L ∧ Ab w w'
theorem apply_facts {s : List UInt8} {xs : List PM} (hs : s.length ≤ 2000) (hv : Dl.check (xs.map PM.d) s.length = 0) :
    Dl.apply s (xs.map PM.d) = (if 2000 < (Dl.out s ((xs.map PM.d).take xs.length)).length then ([], 4) else (Dl.out s ((xs.map PM.d).take xs.length), 0)) ∧
    (∀ k, 2000 < (Dl.out s ((xs.map PM.d).take k)).length → Dl.apply s (xs.map PM.d) = ([], 4)) ∧
    (∀ k (h : k < xs.length), Dl.out s ((xs.map PM.d).take (k + 1)) = Dl.out s ((xs.map PM.d).take k) ++ Dl.app1 s xs[k].d) ∧
    (∀ k (h : k < xs.length), Dl.fine xs[k].d = true ∧ Dl.over s.length xs[k].d = false) := by
  have e1 : (xs.map PM.d).take xs.length = xs.map PM.d := List.take_of_length_le (by simp)
  have ha : Dl.apply s (xs.map PM.d) = if 2000 < (Dl.out s (xs.map PM.d)).length then ([], 4) else (Dl.out s (xs.map PM.d), 0) := by
    unfold Dl.apply
    rw [if_neg (by omega), if_pos hv]
  refine ⟨by rw [e1]; exact ha, fun k hk => ?_, fun k h => ?_, fun k h => ?_⟩
  · have := Dl.out_le s (xs.map PM.d) k
    rw [ha, if_pos (by omega)]
  · have := Dl.out_take_succ s (xs.map PM.d) k (by simpa using h)
    simpa using this
  · have hc := Dl.check_zero.1 hv
    have hm : xs[k].d ∈ xs.map PM.d := List.mem_map.2 ⟨_, List.getElem_mem h, rfl⟩
    exact ⟨(Dl.valid_zero.1 hc.1).2 _ hm, hc.2 _ hm⟩
set_option maxRecDepth 100000 in
set_option maxHeartbeats 2000000 in
theorem dapply_any (B : Option Addr) (cb_ : Nat) (s : List UInt8) (A : Option Addr) (c : Nat) (xs : List PM) (w : World) (hb0 : RB w 0 B s) (hcb : s.length ≤ cb_) (hsl : s.length ≤ 9223372036854775807) (h : Pts w A c xs) : Calls Try.prog 11 #[.slice B s.length cb_, .slice A xs.length c] w (RetAp w (Dl.apply s (xs.map PM.d))) := by
  have TV := fun w' (k : Ab w w') => dcheck_any A c xs s.length w' (h.ab k)
  have hn' := h.n'
  have HB := Lib.hid hb0
  clear hb0
  by_cases hs : s.length ≤ 2000
  · have ks : ¬ (2000 : Int) < (s.length : Int) := by omega
    by_cases hv : Dl.check (xs.map PM.d) s.length = 0
    · obtain ⟨ha1, ha2, ha3, ha4⟩ := apply_facts hs hv
      have HA := Lib.hid ha1
      have HL := Lib.hid ha2
      have HN := Lib.hid ha3
      have HX := Lib.hid ha4
      have H := Lib.hid h
      rw [hv] at TV
      clear h hv ha1 ha2 ha3 ha4
      generalize Dl.apply s _ = q at *
      go_enter Try.func11, Try.ntmps11
      go_wp2_with fail
      refine (TV _ abA).mono ?_
      rintro e w0 ⟨rfl, hb0⟩
      have b0 : Ab w w0 := Ab.trans abA hb0
      go_wp2_with fail
      go_loopw [7, 22] (fun d i w' => ∃ (k : Nat) (D : Option Addr) (cd : Nat) (t : List UInt8), k ≤ xs.length ∧ d = .slice D t.length cd ∧ i = .int .i64 k ∧ Hid (t = Dl.out s ((xs.map PM.d).take k)) ∧ t.length ≤ 2000 ∧ OR 5 w.heap.size w' D cd t ∧ Ab w w') (fun _ i _ => xs.length - (intOf i).toNat)
      case atStart => exact ⟨0, none, 0, [], Nat.zero_le _, rfl, rfl, Lib.hid (by simp [Dl.out]), by simp, OR.none_, b0⟩
      case round =>
        obtain ⟨k, D, cd, t, hk, rfl, rfl, hA, ht, oD, hb⟩ := hrel
        rename World => w1
        by_cases hlt : k < xs.length
        · have hT : (k : Int) < xs.length := by omega
          obtain ⟨g, o, rfl, hR0, hPL⟩ := pts_at H.out hlt
          have hRw : w.rangeAt g (o + k * 3) xs[k].cells := hR0
          have hR : w1.rangeAt g (o + k * 3) xs[k].cells := fun j u hu => hb.at (hR0 j u hu)
          have hxb := hPL.b
          have hxc := hPL.c
          obtain ⟨pk, nk, hp, hn, hpn, hn2, hp2, hbl, happ, hcp, hci⟩ := Dl.fit (HX.out k hlt).1 (HX.out k hlt).2
          have hS : Hid (Dl.out s ((xs.map PM.d).take (k + 1)) = t ++ ((s.drop pk).take nk ++ xs[k].d.b)) := by unfold Hid; rw [HN.out k hlt, ← hA.out, happ]
          have hO : Hid (Dl.copies xs[k].d = true → xs[k].d.b = []) := Lib.hid hcp
          have hI : Hid (Dl.copies xs[k].d = false → nk = 0) := Lib.hid hci
          have TC := Lib.hid (fun w' => iscopy_any xs[k] w')
          generalize Dl.copies xs[k].d = fc at *
          generalize xs[k] = x at *
          obtain ⟨xp, xn, xA, xm, xc⟩ := x
          have hp' : xp = (pk : Int) := hp
          have hn' : xn = (nk : Int) := hn
          subst hp' hn'
          have hbl' : xm.length ≤ 2000 := hbl
          have hS : Hid (Dl.out s ((xs.map PM.d).take (k + 1)) = t ++ ((s.drop pk).take nk ++ xm)) := hS
          have hxb : RB w 0 xA xm := hxb
          have hxc : xm.length ≤ xc := hxc
          have hO : Hid (fc = true → xm = []) := hO
          obtain ⟨pn, hpe⟩ : ∃ pn : Nat, pn = pk + nk := ⟨_, rfl⟩
          have hw : IntKind.i64.wrap ((pk : Int) + (nk : Int)) = (pn : Int) := by rw [show (pn : Int) = (pk : Int) + (nk : Int) by omega]; exact IntWalk.i64_in _ (by omega)
          have M : ∀ w0, (Instr.slice 22 (.slice B s.length cb_) (some (.int .i64 (pk : Int))) (some (.int .i64 (pn : Int))) none).run Try.prog w0 = .ok (.slice (cutA B cb_ pk) nk (cb_ - pk)) w0 := fun w0 => by
            have := run_cuts pk pn .i64 .i64 B s.length cb_ w0 (by omega) (by omega)
            rwa [show pn - pk = nk by omega] at this
          have hm2 : ((s.drop pk).take nk).length = pn - pk := by simp; omega
          have HPE := Lib.hid hpe
          clear hpe
          have hm1 : ((s.drop pk).take nk).length = nk := by simp; omega
          have hrb1 : RB w 0 (cutA B cb_ pk) ((s.drop pk).take nk) := (HB.out.cut pk cb_ hcb).take nk
          generalize (s.drop pk).take nk = m1 at *
          clear hR0 hPL hp hn happ hcp hci hA
          have hsz := hb.size
          have hDr := oD.rng
          have Z1 : VB (w1.alloc (.cells #[.int .i64 0, .int .i64 0, .slice none 0 0] 24)) w1.heap.size PM.zero.cells := VB.box (xs := #[.int .i64 0, .int .i64 0, .slice none 0 0]) (T := 24) (by (repeat (first | exact new_plain wnA | with_reducible refine old_alloc ?_ | with_reducible refine old_drew ?_ | with_reducible refine old_set ?_ wnA | with_reducible refine old_ab (by assumption) ?_)))
          go_upto_region 10 with (first
            | (refine list_ldP (o := ⟨some 25, _, _, _, _, _⟩) (o + k * 3) ⟨(pk : Int), (nk : Int), xA, xm, xc⟩ hR (by kernel_rfl) _ rfl rfl ?_)
            | (refine list_stV (o := ⟨none, _, _, _, _, _⟩) (us := PM.cells ⟨(pk : Int), (nk : Int), xA, xm, xc⟩) _ infoP rfl _ _ rfl rfl rfl Z1 rfl rfl (PM.one _) ?_
               intro w2 h2))
          have b2 : Ab w1 w2 := h2.ab w1 abA (Nat.le_refl _)
          have V2 : VB w2 w1.heap.size [.int .i64 (pk : Int), .int .i64 (nk : Int), .slice xA xm.length xc] := h2.v
          clear Z1 h2 hR
          have oD2 := oD.keep b2
          have hDx : ∀ a, D = some a → a.block ≠ w1.heap.size := fun a e => by have := (hDr a e).2; omega
          have z2 := b2.size
          have b12 := hb.trans b2
          generalize w1.heap.size = xb at *
          have c0 := V2.at 0 (v := .int .i64 (pk : Int)) rfl
          have c1 := V2.at 1 (v := .int .i64 (nk : Int)) rfl
          have c2 := V2.at 2 (v := .slice xA xm.length xc) rfl
          go_upto_region 11 with (first
            | ((at_builtin
                refine listApp rfl _ _ rfl rfl rfl (m := m1) (by first | exact hm1 | exact hm2) oD2 (by omega) (hrb1.ab b12) (by rw [hm1]; omega) (by omega) ?_
                intro D3 cd3 w3 t3 e3 oD3 g3 k3)))
          have b13 : Ab w w3 := k3 w b12 (Nat.le_refl _)
          have V3 := V2.grd g3 (fun e => by cases D with | none => cases e | some a => exact hDx a rfl (by simpa using e))
          have c23 := V3.at 2 (v := .slice xA xm.length xc) rfl
          have l3 : t3.length = t.length + nk := by rw [e3.out, List.length_append, hm1]
          have z3 := g3.size
          go_upto_region 12 with (first
            | ((at_builtin
                refine listApp rfl _ _ rfl rfl rfl (m := xm) rfl oD3 (by omega) (hxb.ab b13) hxc (by omega) ?_
                intro D4 cd4 w4 t4 e4 oD4 g4 k4)))
          have b14 : Ab w w4 := k4 w b13 (Nat.le_refl _)
          have l4 : t4.length = t.length + nk + xm.length := by rw [e4.out, List.length_append, l3]
          have hG : t4 = Dl.out s ((xs.map PM.d).take (k + 1)) := by rw [hS.out, e4.out, e3.out, List.append_assoc]
          have HG := Lib.hid hG
          clear hG
          by_cases h4 : t4.length ≤ 2000
          · have k4' : ¬ (2000 : Int) < (t4.length : Int) := by omega
            go_wp2
            go_roundw
            case rel => exact ⟨k + 1, D4, cd4, t4, by omega, rfl, by go_num, HG, h4, oD4, b14⟩
            case measure => simp [intOf] <;> omega
          · have k4' : (2000 : Int) < (t4.length : Int) := by omega
            have hQ := Lib.hid (HL.out (k + 1) (by rw [← HG.out]; omega))
            go_wp2
            go_ret2
            exact ⟨none, 0, [], Lib.hid (by rw [hQ.out]), by rw [hQ.out]; rfl, OR.none_, b14⟩
        · obtain rfl : k = xs.length := by omega
          have hQ : Hid (q = (t, 0)) := Lib.hid (by rw [HA.out, ← hA.out, if_neg (by omega)])
          go_wp2
          go_ret2
          exact ⟨D, cd, t, Lib.hid (by rw [hQ.out]), by rw [hQ.out]; rfl, oD, hb⟩
    · have hQ : Hid (Dl.apply s (xs.map PM.d) = ([], Dl.check (xs.map PM.d) s.length)) := by unfold Hid Dl.apply; rw [if_neg (by omega), if_neg hv]
      generalize Dl.apply s _ = q at *
      generalize Dl.check _ _ = v at *
      have hne : (v != 0) = true := by simpa using hv
      have HV := Lib.hid hv
      clear hv h
      go_enter Try.func11, Try.ntmps11
      go_wp2_with fail
      refine (TV _ abA).mono ?_
      rintro e w0 ⟨rfl, hb0⟩
      have b0 : Ab w w0 := Ab.trans abA hb0
      go_wp2
      go_ret2
      exact ⟨none, 0, [], Lib.hid (by rw [hQ.out]), by rw [hQ.out]; rfl, OR.none_, b0⟩
  · have ks : (2000 : Int) < (s.length : Int) := by omega
    have hQ : Hid (Dl.apply s (xs.map PM.d) = ([], 4)) := by unfold Hid Dl.apply; rw [if_pos (by omega)]
    generalize Dl.apply s _ = q at *
    clear h
    go_enter Try.func11, Try.ntmps11
    go_wp2
    go_ret2
    exact ⟨none, 0, [], Lib.hid (by rw [hQ.out]), by rw [hQ.out]; rfl, OR.none_, abA⟩
set_option maxRecDepth 100000 in
set_option maxHeartbeats 2000000 in
theorem rapply_any (B : Option Addr) (cb_ : Nat) (s : List UInt8) (A : Option Addr) (c : Nat) (xs : List PM) (w : World) (hb0 : RB w 0 B s) (hcb : s.length ≤ cb_) (hsl : s.length ≤ 9223372036854775807) (h : Pts w A c xs) : Calls Try.prog 20 #[.slice B s.length cb_, .slice A xs.length c] w (RetAp w (Dl.apply s (xs.map PM.d))) := by
  have TV := fun w' (k : Ab w w') => rdcheck_any A c xs s.length w' (h.ab k)
  have hn' := h.n'
  have HB := Lib.hid hb0
  clear hb0
  by_cases hs : s.length ≤ 2000
  · have ks : ¬ (2000 : Int) < (s.length : Int) := by omega
    by_cases hv : Dl.check (xs.map PM.d) s.length = 0
    · obtain ⟨ha1, ha2, ha3, ha4⟩ := apply_facts hs hv
      have HA := Lib.hid ha1
      have HL := Lib.hid ha2
      have HN := Lib.hid ha3
      have HX := Lib.hid ha4
      have H := Lib.hid h
      rw [hv] at TV
      clear h hv ha1 ha2 ha3 ha4
      generalize Dl.apply s _ = q at *
      go_enter Try.func20, Try.ntmps20
      go_wp2_with fail
      refine (TV _ abA).mono ?_
      rintro e w0 ⟨rfl, hb0⟩
      have b0 : Ab w w0 := Ab.trans abA hb0
      go_wp2_with fail
      go_loopw [6, 7] (fun d i w' => ∃ (k : Nat) (D : Option Addr) (cd : Nat) (t : List UInt8), k ≤ xs.length ∧ d = .slice D t.length cd ∧ i = .int .i64 k ∧ Hid (t = Dl.out s ((xs.map PM.d).take k)) ∧ t.length ≤ 6000 ∧ OR 5 w.heap.size w' D cd t ∧ Ab w w') (fun _ i _ => xs.length - (intOf i).toNat)
      case atStart => exact ⟨0, none, 0, [], Nat.zero_le _, rfl, rfl, Lib.hid (by simp [Dl.out]), by simp, OR.none_, b0⟩
      case round =>
        obtain ⟨k, D, cd, t, hk, rfl, rfl, hA, ht, oD, hb⟩ := hrel
        rename World => w1
        by_cases h4 : t.length ≤ 2000
        · have k4 : (t.length : Int) ≤ 2000 := by omega
          have k4' : ¬ (2000 : Int) < (t.length : Int) := by omega
          by_cases hlt : k < xs.length
          · have hT : (k : Int) < xs.length := by omega
            obtain ⟨g, o, rfl, hR0, hPL⟩ := pts_at H.out hlt
            have hRw : w.rangeAt g (o + k * 3) xs[k].cells := hR0
            have hR : w1.rangeAt g (o + k * 3) xs[k].cells := fun j u hu => hb.at (hR0 j u hu)
            have hxb := hPL.b
            have hxc := hPL.c
            obtain ⟨pk, nk, hp, hn, hpn, hn2, hp2, hbl, happ, hcp, hci⟩ := Dl.fit (HX.out k hlt).1 (HX.out k hlt).2
            have hS : Hid (Dl.out s ((xs.map PM.d).take (k + 1)) = t ++ ((s.drop pk).take nk ++ xs[k].d.b)) := by unfold Hid; rw [HN.out k hlt, ← hA.out, happ]
            have hO : Hid (Dl.copies xs[k].d = true → xs[k].d.b = []) := Lib.hid hcp
            have hI : Hid (Dl.copies xs[k].d = false → nk = 0) := Lib.hid hci
            have TC := Lib.hid (fun w' => rcopies_any xs[k] w')
            generalize Dl.copies xs[k].d = fc at *
            generalize xs[k] = x at *
            obtain ⟨xp, xn, xA, xm, xc⟩ := x
            have hp' : xp = (pk : Int) := hp
            have hn' : xn = (nk : Int) := hn
            subst hp' hn'
            have hbl' : xm.length ≤ 2000 := hbl
            have hS : Hid (Dl.out s ((xs.map PM.d).take (k + 1)) = t ++ ((s.drop pk).take nk ++ xm)) := hS
            have hxb : RB w 0 xA xm := hxb
            have hxc : xm.length ≤ xc := hxc
            have hO : Hid (fc = true → xm = []) := hO
            obtain ⟨pn, hpe⟩ : ∃ pn : Nat, pn = pk + nk := ⟨_, rfl⟩
            have hw : IntKind.i64.wrap ((pk : Int) + (nk : Int)) = (pn : Int) := by rw [show (pn : Int) = (pk : Int) + (nk : Int) by omega]; exact IntWalk.i64_in _ (by omega)
            have M : ∀ w0, (Instr.slice 22 (.slice B s.length cb_) (some (.int .i64 (pk : Int))) (some (.int .i64 (pn : Int))) none).run Try.prog w0 = .ok (.slice (cutA B cb_ pk) nk (cb_ - pk)) w0 := fun w0 => by
              have := run_cuts pk pn .i64 .i64 B s.length cb_ w0 (by omega) (by omega)
              rwa [show pn - pk = nk by omega] at this
            have hm2 : ((s.drop pk).take nk).length = pn - pk := by simp; omega
            have HPE := Lib.hid hpe
            clear hpe
            have hm1 : ((s.drop pk).take nk).length = nk := by simp; omega
            have hrb1 : RB w 0 (cutA B cb_ pk) ((s.drop pk).take nk) := (HB.out.cut pk cb_ hcb).take nk
            generalize (s.drop pk).take nk = m1 at *
            clear hR0 hPL hp hn happ hcp hci hA
            have cP : w1.cell? ⟨g, o + k * 3, none⟩ = some (.int .i64 (pk : Int)) := hR 0 _ rfl
            have cN : w1.cell? ⟨g, o + k * 3 + 1, none⟩ = some (.int .i64 (nk : Int)) := hR 1 _ rfl
            have cX : w1.cell? ⟨g, o + k * 3 + 2, none⟩ = some (.slice xA xm.length xc) := hR 2 _ rfl
            go_wp2_with (refine list_ldP (o := ⟨some 34, _, _, _, _, _⟩) (o + k * 3) ⟨(pk : Int), (nk : Int), xA, xm, xc⟩ hR (by kernel_rfl) _ rfl rfl ?_)
            refine (TC.out _).mono ?_
            rintro e w2 ⟨rfl, hb2⟩
            have b12 := hb.trans hb2
            have oD2 := oD.keep hb2
            have z2 := b12.size
            replace cP := hb2.at cP
            replace cN := hb2.at cN
            replace cX := hb2.at cX
            clear hR
            cases fc with
            | true =>
              have hx0 := hO.out rfl
              subst hx0
              go_upto_region 10 with fail
              refine wp_region_held_drew (by kernel_rfl) (S := fun w' => w'.cell? ⟨g, o + k * 3, none⟩ = some (.int .i64 (pk : Int)) ∧ w'.cell? ⟨g, o + k * 3 + 1, none⟩ = some (.int .i64 (nk : Int))) ?_ (fun hHeld => ?_)
              · exact ⟨cell_drew cP, cell_drew cN⟩
              (refine rtA 0 ?_ ?_
               (try simp only [Act.put, stA, st0, st1]))
              (refine rtA 1 ?_ ?_
               (try simp only [Act.put, stA, st0, st1]))
              (refine rtA 2 ?_ ?_
               (try simp only [Act.put, stA, st0, st1]))
              (refine rtA 3 ?_ ?_
               (try simp only [Act.put, stA, st0, st1]))
              (refine rtA 4 ?_ ?_
               (try simp only [Act.put, stA, st0, st1]))
              (refine rtA 5 ?_ ?_
               (try simp only [Act.put, stA, st0, st1]))
              (try simp only [Act.put, List.getElem_toArray, List.getElem_cons_succ, List.getElem_cons_zero, stA, st0, st1])
              (refine rtA 6 (.int .i64 (pk : Int)) ?_ (hy := by intro w hSw; have z0 := hSw.1; go_simp; (try with_reducible rfl)); (try simp only [Act.put, stA, st0, st1]))
              (refine rtA 7 ?_ ?_
               (try simp only [Act.put, stA, st0, st1]))
              (refine rtA 8 ?_ ?_
               (try simp only [Act.put, stA, st0, st1]))
              (refine rtA 9 ?_ ?_
               (try simp only [Act.put, stA, st0, st1]))
              (refine rtA 10 ?_ ?_
               (try simp only [Act.put, stA, st0, st1]))
              (try simp only [Act.put, List.getElem_toArray, List.getElem_cons_succ, List.getElem_cons_zero, stA, st0, st1])
              (refine rtA 11 (.int .i64 (pk : Int)) ?_ (hy := by intro w hSw; have z0 := hSw.1; go_simp; (try with_reducible rfl)); (try simp only [Act.put, stA, st0, st1]))
              (refine rtA 12 ?_ ?_
               (try simp only [Act.put, stA, st0, st1]))
              (refine rtA 13 ?_ ?_
               (try simp only [Act.put, stA, st0, st1]))
              (refine rtA 14 ?_ ?_
               (try simp only [Act.put, stA, st0, st1]))
              (refine rtA 15 ?_ ?_
               (try simp only [Act.put, stA, st0, st1]))
              (try simp only [Act.put, List.getElem_toArray, List.getElem_cons_succ, List.getElem_cons_zero, stA, st0, st1])
              (refine rtA 16 (.int .i64 (nk : Int)) ?_ (hy := by intro w hSw; have z0 := hSw.2; go_simp; (try with_reducible rfl)); (try simp only [Act.put, stA, st0, st1]))
              (try simp only [Act.put, List.getElem_toArray, List.getElem_cons_succ, List.getElem_cons_zero, stA, st0, st1])
              (refine rtA 17 (.int .i64 (pn : Int)) ?_ (hy := by intro w hSw; go_simp; (try rw [hw]); (try with_reducible rfl)); (try simp only [Act.put, stA, st0, st1]))
              (refine rtA 18 (.slice (cutA B cb_ pk) nk (cb_ - pk)) ?_ (hy := by intro w hSw; have z0 := M w; go_simp; (try with_reducible rfl)); (try simp only [Act.put, stA, st0, st1]))
              (try simp only [Act.put, List.getElem_toArray, List.getElem_cons_succ, List.getElem_cons_zero, stA, st0, st1])
              refine r1A 19 (fun K hK => ?_)
              refine stepApp (by rfl) _ _ (by rfl) (by rfl) (by rfl) (m := m1) hm1 (show OR 5 w.heap.size w2.drew D cd t from oD2) (show w.heap.size ≤ w2.drew.heap.size from z2) (hrb1.ab (Ab.drew b12)) (by rw [hm1]; omega) (by omega) ?_
              intro D3 cd3 w3 t3 e3 oD3 g3 k3
              have b13 : Ab w w3 := k3 w (Ab.drew b12) (Nat.le_refl _)
              (refine hK.out _ _ ?_ (fun hHeld => ?_)
               · (try dsimp only); exact ⟨b13.at (hRw 0 _ rfl), b13.at (hRw 1 _ rfl)⟩
               clear hK K
               (try simp only [Act.put, stA, st0, st1]))
              refine r1A 20 (fun K hK => ?_)
              (go_simp
               (refine hK.out _ _ ?_ (fun hHeld => ?_)
                · (try dsimp only); exact hHeld
                clear hK K
                (try simp only [Act.put, stA, st0, st1])))
              refine wpAnyH_done (by kernel_rfl) ?_ _
              have hG : t3 = Dl.out s ((xs.map PM.d).take (k + 1)) := by rw [hS.out, e3.out]; (try rw [List.append_nil]); (try rfl)
              have l3 : t3.length = t.length + nk := by rw [e3.out, List.length_append, hm1]
              have HG := Lib.hid hG
              clear hG
              go_wp2
              go_roundw
              case rel => exact ⟨k + 1, D3, cd3, t3, by omega, rfl, by go_num, HG, by omega, oD3, b13⟩
              case measure => simp [intOf] <;> omega
            | false =>
              have hn0 := hI.out rfl
              subst hn0
              have hm0 : m1 = [] := List.eq_nil_of_length_eq_zero hm1
              subst hm0
              go_wp2_with (first
                | ((at_builtin
                    refine listApp rfl _ _ rfl rfl rfl (m := xm) rfl oD2 (by omega) (hxb.ab b12) hxc (by omega) ?_
                    intro D3 cd3 w3 t3 e3 oD3 g3 k3
                    have b13 : Ab w w3 := k3 w b12 (Nat.le_refl _))))
              have hG : t3 = Dl.out s ((xs.map PM.d).take (k + 1)) := by rw [hS.out, e3.out, List.nil_append]; (try rfl)
              have l3 : t3.length = t.length + xm.length := by rw [e3.out, List.length_append]
              have HG := Lib.hid hG
              clear hG
              go_roundw
              case rel => exact ⟨k + 1, D3, cd3, t3, by omega, rfl, by go_num, HG, by omega, oD3, b13⟩
              case measure => simp [intOf] <;> omega
          · obtain rfl : k = xs.length := by omega
            have hQ : Hid (q = (t, 0)) := Lib.hid (by rw [HA.out, ← hA.out, if_neg (by omega)])
            go_wp2
            go_ret2
            exact ⟨D, cd, t, Lib.hid (by rw [hQ.out]), by rw [hQ.out]; rfl, oD, hb⟩
        · have k4 : ¬ (t.length : Int) ≤ 2000 := by omega
          have k4' : (2000 : Int) < (t.length : Int) := by omega
          have hQ := Lib.hid (HL.out k (by rw [← hA.out]; omega))
          by_cases hlt : k < xs.length
          · have hT : (k : Int) < xs.length := by omega
            go_wp2
            go_ret2
            exact ⟨none, 0, [], Lib.hid (by rw [hQ.out]), by rw [hQ.out]; rfl, OR.none_, hb⟩
          · have hT : ¬ (k : Int) < xs.length := by omega
            go_wp2
            go_ret2
            exact ⟨none, 0, [], Lib.hid (by rw [hQ.out]), by rw [hQ.out]; rfl, OR.none_, hb⟩
    · have hQ : Hid (Dl.apply s (xs.map PM.d) = ([], Dl.check (xs.map PM.d) s.length)) := by unfold Hid Dl.apply; rw [if_neg (by omega), if_neg hv]
      generalize Dl.apply s _ = q at *
      generalize Dl.check _ _ = v at *
      have hne : (v != 0) = true := by simpa using hv
      have HV := Lib.hid hv
      clear hv h
      go_enter Try.func20, Try.ntmps20
      go_wp2_with fail
      refine (TV _ abA).mono ?_
      rintro e w0 ⟨rfl, hb0⟩
      have b0 : Ab w w0 := Ab.trans abA hb0
      go_wp2_with fail
      refine (TV _ b0).mono ?_
      rintro e w1 ⟨rfl, hb1⟩
      have b0 := b0.trans hb1
      go_wp2
      go_ret2
      exact ⟨none, 0, [], Lib.hid (by rw [hQ.out]), by rw [hQ.out]; rfl, OR.none_, b0⟩
  · have ks : (2000 : Int) < (s.length : Int) := by omega
    have hQ : Hid (Dl.apply s (xs.map PM.d) = ([], 4)) := by unfold Hid Dl.apply; rw [if_pos (by omega)]
    generalize Dl.apply s _ = q at *
    clear h
    go_enter Try.func20, Try.ntmps20
    go_wp2
    go_ret2
    exact ⟨none, 0, [], Lib.hid (by rw [hQ.out]), by rw [hQ.out]; rfl, OR.none_, abA⟩
end Go.Proofs.Ytjgijpfknhfnjaa
