/- The least delta, walked. Own work. -/
import Derived.Test.YtjgijpfknhfnjaaDlStart
import Derived.Test.YtjgijpfknhfnjaaDlOwn
import Derived.Test.YtjgijpfknhfnjaaDlFunC
set_option linter.unusedVariables false
set_option linter.unusedSimpArgs false
namespace Go.Proofs.Ytjgijpfknhfnjaa
open Go.RowKit

/-- What Make returns. -/
def RetMk (s T : List UInt8) (w : World) (e : Ending) (w' : World) : Prop := ∃ (P : Option Addr) (cp : Nat) (ps : List PM) (er : Int), e = .returned (.tuple #[.slice P ps.length cp, .int .i64 er]) ∧ OwnPts w.heap.size w' P cp ps ∧ Ab w w' ∧
  Hid (if 300 < s.length ∨ 300 < T.length then er = 4 ∧ ps = [] else er = 0 ∧ ∃ (f : Nat → Int) (gf : Nat → Nat), Dl.Tab s T f gf 0 ∧ Dl.Mk s T f gf 0 (ps.map PM.d))
set_option maxRecDepth 100000 in
set_option maxHeartbeats 4000000 in
theorem make_any (A D : Option Addr) (c d : Nat) (s T : List UInt8) (w : World) (hM : MaxL w) (hs : RB w 0 A s) (ht : RB w 0 D T) (hc : s.length ≤ c) (hd : T.length ≤ d) (hA : A = none → c = 0) (hsl : s.length ≤ 9223372036854775807) (htl : T.length ≤ 9223372036854775807) :
    Calls Try.prog 13 #[.slice A s.length c, .slice D T.length d] w (RetMk s T w) := by
  by_cases h1 : s.length ≤ 300
  · have k1 : ¬ (300 : Int) < (s.length : Int) := by omega
    by_cases h2 : T.length ≤ 300
    · have k2 : ¬ (300 : Int) < (T.length : Int) := by omega
      have TS := fun w' (k : Ab w w') => starts_any A D c d s T w' (hM.ab k) (hs.ab k) (ht.ab k) hc hd hA h1 h2
      have HX := Lib.hid (⟨hM, hs, ht⟩ : MaxL w ∧ RB w 0 A s ∧ RB w 0 D T)
      obtain ⟨N1, hN1⟩ : ∃ N1 : Nat, N1 = T.length + 1 := ⟨_, rfl⟩
      rw [← hN1] at TS
      have HN1 := Lib.hid hN1
      have HO : Hid (¬ (300 < s.length ∨ 300 < T.length)) := Lib.hid (by omega)
      clear hM hs ht hN1
      go_enter Try.func13, Try.ntmps13
      go_wp2_with fail
      refine (TS _ abA).mono ?_
      rintro e w0 ⟨g, ss, rfl, R0, hg, hD, hb0⟩
      have b0 : Ab w w0 := Ab.trans (by exact abA) hb0
      have hlo : w.heap.size ≤ g := by have : w.heap.size ≤ _ := hg; simpa using this
      have hlt0 := R0.lt
      have hww := b0.size
      obtain ⟨gf, hTab0, hSt0⟩ := hD.out.tab
      have hssl : ss.length = T.length + 1 := hD.out.len
      have HT := Lib.hid hTab0
      have HS := Lib.hid hSt0
      have HB := Lib.hid (fun i h => hD.out.bound i (Nat.zero_le _) h)
      clear TS hTab0 hSt0 hD hg hb0
      go_wp2_with fail
      go_loopw [7, 8] (fun l n w' => ∃ (i : Nat) (P : Option Addr) (cp : Nat) (ps : List PM), i ≤ T.length ∧ l = .slice P ps.length cp ∧ n = .int .i64 (i : Int) ∧ ps.length ≤ i ∧ Hid (Dl.Path s T (fun i => (ss.getD i SM.zero).c) gf i (ps.map PM.d)) ∧ OwnPts w0.heap.size w' P cp ps ∧ VB w' g (scells ss) ∧ Ab w w' ∧ w0.heap.size ≤ w'.heap.size) (fun _ n _ => T.length - (intOf n).toNat)
      case atStart => exact ⟨0, none, 0, [], Nat.zero_le _, rfl, rfl, Nat.le_refl _, Lib.hid .nil, OwnPts.nil, R0, b0, Nat.le_refl _⟩
      case round =>
        obtain ⟨i, P, cpp, ps, hi, rfl, rfl, hpi, hP, oP, R1, hb, z1⟩ := hrel
        rename World => w1
        by_cases hlt : i < T.length
        · have hT : (i : Int) < T.length := by omega
          have hSt := HS.out i (Nat.zero_le _) hlt
          have hone := hSt.one
          have hroom := hSt.room
          have hiss : i < ss.length := by omega
          have q1 := R1.at (i * 3 + 1) ((scells_at ss i hiss 1 (by omega)).trans rfl)
          have q2 := R1.at (i * 3 + 2) ((scells_at ss i hiss 2 (by omega)).trans rfl)
          have hPart : Hid (Dl.Path s T (fun i => (ss.getD i SM.zero).c) gf (i + (ss.getD i SM.zero).k) (ps.map PM.d ++ [Dl.part s T i (ss.getD i SM.zero).k (ss.getD i SM.zero).cp])) := Lib.hid (.snoc hP.out hSt)
          have hHas : Hid ((ss.getD i SM.zero).cp = true → Dl.has s ((T.drop i).take (ss.getD i SM.zero).k) = true) := Lib.hid (fun h => (HT.out.long i (Nat.zero_le _) hlt).fits (hSt.c h).1)
          have e1 := scells_at ss i hiss 1 (by omega)
          have eg : ss.getD i SM.zero = ss[i] := by simp [hiss]
          rw [eg] at hone hroom hPart hHas
          generalize ss[i] = y at *
          obtain ⟨yc, k, ycp⟩ := y
          simp only at hone hroom hPart hHas
          have e1 : (scells ss)[i * 3 + 1]? = some (.int .i64 (k : Int)) := e1
          have q1 : w1.cell? ⟨g, i * 3 + 1, none⟩ = some (.int .i64 (k : Int)) := q1
          have q2 : w1.cell? ⟨g, i * 3 + 2, none⟩ = some (.bool ycp) := q2
          have hiN : (i : Int) < (N1 : Int) := by have := HN1.out; omega
          obtain ⟨pn, hpn⟩ : ∃ pn : Nat, pn = i + k := ⟨_, rfl⟩
          have hw : IntKind.i64.wrap ((i : Int) + (k : Int)) = (pn : Int) := by rw [show (pn : Int) = (i : Int) + (k : Int) by omega]; exact IntWalk.i64_in _ (by omega)
          have M : ∀ w0, (Instr.slice 22 (.slice D T.length d) (some (.int .i64 (i : Int))) (some (.int .i64 (pn : Int))) none).run Try.prog w0 = .ok (.slice (cutA D d i) k (d - i)) w0 := fun w0 => by
            have := run_cuts i pn .i64 .i64 D T.length d w0 (by omega) (by omega)
            rwa [show pn - i = k by omega] at this
          have hml : ((T.drop i).take k).length = k := by simp; omega
          have hrb : RB w 0 (cutA D d i) ((T.drop i).take k) := (HX.out.2.2.cut i d hd).take k
          have HPN := Lib.hid hpn
          have hk3 : k ≤ 300 := by omega
          have hk0 : 0 < k := by omega
          have hpT : pn ≤ T.length := by omega
          have hip : i < pn := by omega
          have hDl : ∀ r, P.map (·.block) = some r → w0.heap.size ≤ r ∧ r < w1.heap.size := fun r e => oP.lt e
          clear hpn eg hP
          cases ycp with
          | true =>
            have hh := hHas.out rfl
            have hs0 : 0 < s.length := by
              obtain ⟨j, _, r, hr⟩ := Dl.has_iff.1 hh
              have := congrArg List.length hr
              simp at this
              omega
            have hx0 : 0 ≤ Lib.index s ((T.drop i).take k) := by simpa [Dl.has, Lib.contains] using hh
            have hx1 := Lib.index_room s ((T.drop i).take k) hx0
            have TX := bindex_any A (cutA D d i) c (d - i) s ((T.drop i).take k) w1 (HX.out.1.ab hb) (HX.out.2.1.ab hb) (hrb.ab hb) hc (by omega) (by omega) hs0 (by omega)
            rw [hml] at TX
            have hPart2 : Hid (Dl.Path s T (fun i => (ss.getD i SM.zero).c) gf pn (ps.map PM.d ++ [⟨Lib.index s ((T.drop i).take k), (k : Int), []⟩])) := by
              have := hPart.out
              rw [← HPN.out] at this
              exact Lib.hid this
            generalize Lib.index s ((T.drop i).take k) = ix at *
            clear hPart hHas hh
            go_wp2_with fail
            refine TX.mono ?_
            rintro e w2 ⟨rfl, hb2⟩
            have b2 := hb.trans hb2
            have oP2 := oP.ab hb2
            have R2 := R1.ab hb2
            have z2 := hb2.size
            have hxp : PO w2 (fun g => w0.heap.size ≤ g ∧ P.map (·.block) ≠ some g) ⟨ix, (k : Int), none, [], 0⟩ := ⟨RS.nil, Nat.le_refl _, by simp, by show _ ≤ ix; omega, by show ix ≤ _; omega, by show _ ≤ (k : Int); omega, by show (k : Int) ≤ _; omega⟩
            clear q1 q2 oP R1
            go_wp2_with (first
              | ((at_builtin
                  refine listAppP (x := ⟨ix, (k : Int), none, [], 0⟩) rfl _ _ rfl rfl rfl (oP2.ab (w' := _) abA) (by simp; omega) (by (repeat (first | exact new_plain wnA | with_reducible refine old_alloc ?_ | with_reducible refine old_drew ?_ | with_reducible refine old_set ?_ wnA | with_reducible refine old_ab (by assumption) ?_))) (hxp.ab abA) (by omega) ?_
                  intro g3 c3 w3 zs hzs o3 g3_ k3
                  have A3 : Ab w (w2.alloc (.cells #[.int .i64 ix, .int .i64 (k : Int), .slice none 0 0] 24)) := Ab.trans b2 abA
                  have b3 : Ab w w3 := k3 w A3 hww
                  have R3 : VB w3 g (scells ss) := (R2.ab (w' := w2.alloc _) abA).grd g3_ (fun e => by have := (hDl g e).1; omega)
                  have z3 : w0.heap.size ≤ w3.heap.size := by have := g3_.size; simp at this; omega
                  have l3 : zs.length = ps.length + 1 := by rw [hzs.out]; simp
                  have q3 := R3.at (i * 3 + 1) e1
                  have hP3 : Hid (Dl.Path s T (fun i => (ss.getD i SM.zero).c) gf pn (zs.map PM.d)) := Lib.hid (by rw [hzs.out, List.map_append]; exact hPart2.out)
                  clear g3_ k3 A3 oP2 R2 hzs hxp)))
            go_roundw
            case rel => exact ⟨pn, some ⟨g3, 0, none⟩, c3, zs, hpT, by rw [l3], by go_num, by omega, hP3, o3, R3, b3, z3⟩
            case measure => simp [intOf] <;> omega
          | false =>
            have TX := dlclone_any (cutA D d i) (d - i) ((T.drop i).take k) w1 (hrb.ab hb) (by omega) (by omega)
            rw [hml] at TX
            have hPart2 : Hid (Dl.Path s T (fun i => (ss.getD i SM.zero).c) gf pn (ps.map PM.d ++ [⟨0, 0, (T.drop i).take k⟩])) := by
              have := hPart.out
              rw [← HPN.out] at this
              exact Lib.hid this
            generalize (T.drop i).take k = t at *
            clear hPart hHas
            go_wp2_with fail
            refine TX.mono ?_
            rintro e w2 ⟨E, ce, rfl, oE, hb2⟩
            have b2 := hb.trans hb2
            have oP2 := oP.ab hb2
            have R2 := R1.ab hb2
            have z2 := hb2.size
            have hce := oE.le
            have hxp : PO w2 (fun g => w0.heap.size ≤ g ∧ P.map (·.block) ≠ some g) ⟨0, 0, E, t, ce⟩ := ⟨(oE.rb.rs (S := fun g => w1.heap.size ≤ g) (fun _ h => h)).mono fun g hg => ⟨by omega, fun e => by have := (hDl g e).2; omega⟩, hce, by show t.length ≤ _; omega, by simp, by simp, by simp, by simp⟩
            have hcl : (PM.cells ⟨0, 0, E, t, ce⟩).toArray = #[.int .i64 0, .int .i64 0, .slice E k ce] := by simp [PM.cells, hml]
            clear q1 q2 oP R1 oE
            go_wp2_with (first
              | ((at_builtin
                  refine listAppP (x := ⟨0, 0, E, t, ce⟩) rfl _ _ rfl rfl rfl (oP2.ab (w' := _) abA) (by simp; omega) (by rw [hcl]; (repeat (first | exact new_plain wnA | with_reducible refine old_alloc ?_ | with_reducible refine old_drew ?_ | with_reducible refine old_set ?_ wnA | with_reducible refine old_ab (by assumption) ?_))) (hxp.ab abA) (by omega) ?_
                  intro g3 c3 w3 zs hzs o3 g3_ k3
                  have A3 : Ab w (w2.alloc (.cells #[.int .i64 0, .int .i64 0, .slice E k ce] 24)) := Ab.trans b2 abA
                  have b3 : Ab w w3 := k3 w A3 hww
                  have R3 : VB w3 g (scells ss) := (R2.ab (w' := w2.alloc _) abA).grd g3_ (fun e => by have := (hDl g e).1; omega)
                  have z3 : w0.heap.size ≤ w3.heap.size := by have := g3_.size; simp at this; omega
                  have l3 : zs.length = ps.length + 1 := by rw [hzs.out]; simp
                  have q3 := R3.at (i * 3 + 1) e1
                  have hP3 : Hid (Dl.Path s T (fun i => (ss.getD i SM.zero).c) gf pn (zs.map PM.d)) := Lib.hid (by rw [hzs.out, List.map_append]; exact hPart2.out)
                  clear g3_ k3 A3 oP2 R2 hzs hxp)))
            go_roundw
            case rel => exact ⟨pn, some ⟨g3, 0, none⟩, c3, zs, hpT, by rw [l3], by go_num, by omega, hP3, o3, R3, b3, z3⟩
            case measure => simp [intOf] <;> omega
        · obtain rfl : i = T.length := by omega
          have hMk := hP.out.all
          have HMk := Lib.hid hMk
          clear hMk hP
          go_wp2
          go_ret2
          exact ⟨P, cpp, ps, 0, rfl, oP.mono hww, hb, Lib.hid (by rw [if_neg HO.out]; exact ⟨rfl, _, gf, HT.out, HMk.out⟩)⟩
    · have k2 : (300 : Int) < (T.length : Int) := by omega
      clear hs ht hM
      go_enter Try.func13, Try.ntmps13
      go_wp2
      go_ret2
      exact ⟨none, 0, [], 4, rfl, OwnPts.nil, abA, Lib.hid (by rw [if_pos (.inr (by omega))]; exact ⟨rfl, rfl⟩)⟩
  · have k1 : (300 : Int) < (s.length : Int) := by omega
    clear hs ht hM
    go_enter Try.func13, Try.ntmps13
    go_wp2
    go_ret2
    exact ⟨none, 0, [], 4, rfl, OwnPts.nil, abA, Lib.hid (by rw [if_pos (.inl (by omega))]; exact ⟨rfl, rfl⟩)⟩
end Go.Proofs.Ytjgijpfknhfnjaa
