/- The reference's Make, walked. Own work. -/
import Derived.Test.YtbhhjbmpcpjcnaaDlLeast
import Derived.Test.YtbhhjbmpcpjcnaaDlPlace
import Derived.Test.YtbhhjbmpcpjcnaaPostB
set_option linter.unusedVariables false
set_option linter.unusedSimpArgs false
namespace Go.Proofs.Ytbhhjbmpcpjcnaa
open Go.RowKit

set_option maxRecDepth 100000 in
set_option maxHeartbeats 8000000 in
theorem rmake_any (A D : Option Addr) (c d : Nat) (s T : List UInt8) (w : World) (hs : RB w 0 A s) (ht : RB w 0 D T) (hc : s.length ≤ c) (hd : T.length ≤ d) (hsl : s.length ≤ 9223372036854775807) (htl : T.length ≤ 9223372036854775807) :
    Calls Try.prog 23 #[.slice A s.length c, .slice D T.length d] w (RetMk s T w) := by
  by_cases h1 : s.length ≤ 300
  · have k1 : ¬ (300 : Int) < (s.length : Int) := by omega
    by_cases h2 : T.length ≤ 300
    · have k2 : ¬ (300 : Int) < (T.length : Int) := by omega
      have TS := fun w' (k : Ab w w') => rleast_any A D c d s T w' (hs.ab k) (ht.ab k) h1 h2
      have HX := Lib.hid (⟨hs, ht⟩ : RB w 0 A s ∧ RB w 0 D T)
      obtain ⟨N1, hN1⟩ : ∃ N1 : Nat, N1 = T.length + 1 := ⟨_, rfl⟩
      rw [← hN1] at TS
      have hN2 : T.length < N1 := by omega
      have hN3 : N1 ≤ 301 := by omega
      have HO : Hid (¬ (300 < s.length ∨ 300 < T.length)) := Lib.hid (by omega)
      clear hs ht hN1
      go_enter Try.func23, Try.ntmps23
      go_wp2_with fail
      refine (TS _ abA).mono ?_
      rintro e w0 ⟨bf, bg, F, G, S, rfl, VF0, VG0, hR, hb0⟩
      have b0 : Ab w w0 := Ab.trans (by exact abA) hb0
      have hww := b0.size
      have zf := VF0.lt
      have zg := VG0.lt
      have HF : Hid (∀ w', VB w' bf (icells F) → ∀ q, q ≤ T.length → w'.cell? ⟨bf, q, none⟩ = some (.int .i64 (F.getD q 0))) := Lib.hid fun w' h q hq => h.at q (icells_at (by have := hR.out.fl; omega))
      have HG : Hid (∀ w', VB w' bg (ncells G) → ∀ q, q ≤ T.length → w'.cell? ⟨bg, q, none⟩ = some (.int .i64 (G.getD q 0 : Nat))) := Lib.hid fun w' h q hq => h.at q (ncells_at (by have := hR.out.gl; omega))
      have HB := Lib.hid (fun q (hq : q ≤ T.length) => hR.out.bound h2 q (Nat.zero_le _) hq)
      have HT := Lib.hid hR.out.tab
      obtain ⟨f, hf⟩ : ∃ f : Nat → Int, f = fun i => F.getD i 0 := ⟨_, rfl⟩
      obtain ⟨gf, hg⟩ : ∃ gf : Nat → Nat, gf = fun i => G.getD i 0 := ⟨_, rfl⟩
      rw [← hf, ← hg] at HT
      have HF : Hid (∀ w', VB w' bf (icells F) → ∀ q, q ≤ T.length → w'.cell? ⟨bf, q, none⟩ = some (.int .i64 (f q))) := by rw [hf]; exact HF
      have HG : Hid (∀ w', VB w' bg (ncells G) → ∀ q, q ≤ T.length → w'.cell? ⟨bg, q, none⟩ = some (.int .i64 (gf q : Nat))) := by rw [hg]; exact HG
      have HB : Hid (∀ q, q ≤ T.length → 0 ≤ f q ∧ f q ≤ 301) := by rw [hf]; exact HB
      clear TS hR hb0 hf hg
      generalize icells F = cF at *
      generalize ncells G = cG at *
      go_wp2_with fail
      go_loopw [8, 9] (fun l n w' => ∃ (i : Nat) (P : Option Addr) (cp : Nat) (ps : List PM), i ≤ T.length ∧ l = .slice P ps.length cp ∧ n = .int .i64 (i : Int) ∧ ps.length ≤ i ∧ Hid (Dl.Path s T f gf i (ps.map PM.d)) ∧ OwnPts w0.heap.size w' P cp ps ∧ VB w' bf cF ∧ VB w' bg cG ∧ Ab w w' ∧ w0.heap.size ≤ w'.heap.size) (fun _ n _ => T.length - (intOf n).toNat)
      case atStart => exact ⟨0, none, 0, [], Nat.zero_le _, rfl, rfl, Nat.le_refl _, Lib.hid .nil, OwnPts.nil, VF0, VG0, b0, Nat.le_refl _⟩
      case round =>
        clear VF0 VG0 b0
        obtain ⟨i, P, cpp, ps, hi, rfl, rfl, hpi, hP, oP, VF, VG, hb, z1⟩ := hrel
        rename World => w1
        by_cases hlt : i < T.length
        · have hT : (i : Int) < T.length := by omega
          have hiN : (i : Int) < (N1 : Int) := by omega
          have gI := HG.out w1 VG i hi
          have hroom := HT.out.room (Nat.zero_le _) hlt
          have HAT := Lib.hid (HT.out.att i (Nat.zero_le _) hlt)
          have HLG := Lib.hid (HT.out.long i (Nat.zero_le _) hlt)
          have hDl : ∀ r, P.map (·.block) = some r → w0.heap.size ≤ r ∧ r < w1.heap.size := fun r e => oP.lt e
          have hSn : Hid (∀ k cp, Dl.Start T.length f gf i k cp → Dl.Path s T f gf (i + k) (ps.map PM.d ++ [Dl.part s T i k cp])) := Lib.hid fun k cp h => .snoc hP.out h
          have hSt1 : Hid (∀ n, 1 ≤ n → n ≤ gf i → 3 + f (i + n) = f i → (∀ m, n < m → m ≤ gf i → f i ≠ 3 + f (i + m)) → Dl.Start T.length f gf i n true) := Lib.hid fun n a1 a2 a3 a4 => ⟨a1, by omega, fun _ => ⟨a2, a3.symm, a4⟩, fun h => (by cases h)⟩
          have hSt2 : Hid (∀ n, 1 ≤ n → i + n ≤ T.length → 1 + n + f (i + n) = f i → (∀ m, 1 ≤ m → m ≤ gf i → f i ≠ 3 + f (i + m)) → (∀ m, 1 ≤ m → m < n → f i ≠ 1 + m + f (i + m)) → Dl.Start T.length f gf i n false) := Lib.hid fun n a1 a2 a3 a4 a5 => ⟨a1, a2, fun h => (by cases h), fun _ => ⟨a4, a3.symm, a5⟩⟩
          generalize hgi : gf i = gi at *
          generalize hfi : f i = fi at *
          have HFI := Lib.hid hfi
          have HGI := Lib.hid hgi
          clear hP hfi hgi
          go_wp2_with fail
          go_loopw [10] (fun nv w' => ∃ n : Nat, n ≤ gi ∧ nv = .int .i64 (n : Int) ∧ Hid (∀ m, n < m → m ≤ gi → fi ≠ 3 + f (i + m)) ∧ ∃ q, w' = w1.drewN q) (fun nv _ => (intOf nv).toNat)
          case atStart => exact ⟨gi, Nat.le_refl _, rfl, Lib.hid (fun m h1 h2 => by omega), 0, rfl⟩
          case round =>
            clear gI
            obtain ⟨n, hn, rfl, hA, q0, rfl⟩ := hrel
            have fI := HF.out w1 VF i hi
            rw [HFI.out] at fI
            by_cases hn0 : n = 0
            · subst hn0
              have HNo : Hid (∀ m, 1 ≤ m → m ≤ gi → fi ≠ 3 + f (i + m)) := Lib.hid fun m a b => hA.out m (by omega) b
              clear hA
              go_wp2
              go_quiet (fail)
              go_wp2_with fail
              go_loopw [11] (fun nv w' => ∃ m : Nat, 1 ≤ m ∧ i + m ≤ T.length ∧ nv = .int .i64 (m : Int) ∧ Hid (∀ k, 1 ≤ k → k < m → fi ≠ 1 + k + f (i + k)) ∧ ∃ q, w' = w1.drewN q) (fun nv _ => T.length - (intOf nv).toNat)
              case atStart => exact ⟨1, Nat.le_refl _, by omega, rfl, Lib.hid (fun k a b => by omega), _, rfl⟩
              case round =>
                obtain ⟨m, hm1, hm2, rfl, hA, q1, rfl⟩ := hrel
                obtain ⟨pn, hpn⟩ : ∃ pn : Nat, pn = i + m := ⟨_, rfl⟩
                have hw : IntKind.i64.wrap ((i : Int) + (m : Int)) = (pn : Int) := by rw [show (pn : Int) = (i : Int) + (m : Int) by omega]; exact IntWalk.i64_in _ (by omega)
                have hpT : pn ≤ T.length := by omega
                have hpN : (pn : Int) < (N1 : Int) := by omega
                have fQ := HF.out w1 VF pn hpT
                have hbq := HB.out pn hpT
                have HPN := Lib.hid hpn
                have hfq : Hid (f (i + m) = f pn) := by rw [hpn]; exact Lib.hid rfl
                clear hpn
                generalize f pn = fq at *
                have hw1m : IntKind.i64.wrap (1 + (m : Int)) = 1 + (m : Int) := IntWalk.i64_in _ (by omega)
                have hw3 : IntKind.i64.wrap (1 + (m : Int) + fq) = 1 + (m : Int) + fq := IntWalk.i64_in _ (by omega)
                by_cases heq : 1 + (m : Int) + fq = fi
                · have hcmp : ((1 + (m : Int) + fq) != fi) = false := by simpa using heq
                  have hS := Lib.hid (hSn.out m false (hSt2.out m hm1 hm2 (by rw [hfq.out]; exact heq) HNo.out hA.out))
                  clear heq hA
                  go_wp2
                  go_quiet (fail)
                  have hip : i < pn := by have := HPN.out; omega
                  have M : ∀ w0, (Instr.slice 22 (.slice D T.length d) (some (.int .i64 (i : Int))) (some (.int .i64 (pn : Int))) none).run Try.prog w0 = .ok (.slice (cutA D d i) m (d - i)) w0 := fun w0 => by
                    have := run_cuts i pn .i64 .i64 D T.length d w0 (by omega) (by omega)
                    rwa [show pn - i = m by have := HPN.out; omega] at this
                  have hml : ((T.drop i).take m).length = m := by simp; omega
                  have hrb : RB w 0 (cutA D d i) ((T.drop i).take m) := (HX.out.2.cut i d hd).take m
                  have hPart2 : Hid (Dl.Path s T f gf pn (ps.map PM.d ++ [⟨0, 0, (T.drop i).take m⟩])) := by
                    have := hS.out
                    rw [← HPN.out] at this
                    exact Lib.hid this
                  generalize (T.drop i).take m = t at *
                  clear hS
                  go_wp2_with (first
                    | (at_builtin
                       refine listLit rfl _ _ rfl rfl rfl (m := t) hml (by (repeat (first | exact new_plain wnA | with_reducible refine old_alloc ?_ | with_reducible refine old_drew ?_ | with_reducible refine old_set ?_ wnA | with_reducible refine old_ab (by assumption) ?_))) (hrb.ab (Ab.trans hb abA)) (by omega) (by omega) ?_
                       intro E ce w2 L1 e1 a1 o1
                       have z2 := a1.size; simp at z2
                       have oE := o1 w1.heap.size (by simp) (by simp)
                       have b12 : Ab w1 w2 := abA
                       have b2 : Ab w w2 := hb.trans b12
                       have e1' := e1.out
                       subst e1'
                       have oP2 := oP.ab b12
                       have VF2 := VF.ab b12
                       have VG2 := VG.ab b12
                       have hce := oE.le
                       have hxp : PO w2 (fun g => w0.heap.size ≤ g ∧ P.map (·.block) ≠ some g) ⟨0, 0, E, L1, ce⟩ := ⟨(oE.rb.rs (S := fun g => w1.heap.size ≤ g) (fun _ h => h)).mono fun g hg => ⟨by omega, fun e => by have := (hDl g e).2; omega⟩, hce, by show L1.length ≤ _; omega, by simp, by simp, by simp, by simp⟩
                       have hcl : (PM.cells ⟨0, 0, E, L1, ce⟩).toArray = #[.int .i64 0, .int .i64 0, .slice E m ce] := by simp [PM.cells, hml]
                       clear e1 a1 o1 oE)
                    | (at_builtin
                       refine listAppP (x := ⟨0, 0, E, L1, ce⟩) rfl _ _ rfl rfl rfl (oP2.ab (w' := _) abA) (by simp; omega) (by rw [hcl]; (repeat (first | exact new_plain wnA | with_reducible refine old_alloc ?_ | with_reducible refine old_drew ?_ | with_reducible refine old_set ?_ wnA | with_reducible refine old_ab (by assumption) ?_))) (hxp.ab abA) (by omega) ?_
                       intro g3 c3 w3 zs hzs o3 g3_ k3
                       have A3 : Ab w (w2.alloc (.cells #[.int .i64 0, .int .i64 0, .slice E m ce] 24)) := Ab.trans b2 abA
                       have b3 : Ab w w3 := k3 w A3 hww
                       have VF3 : VB w3 bf cF := (VF2.ab (w' := w2.alloc _) abA).grd g3_ (fun e => by have := (hDl bf e).1; omega)
                       have VG3 : VB w3 bg cG := (VG2.ab (w' := w2.alloc _) abA).grd g3_ (fun e => by have := (hDl bg e).1; omega)
                       have z3 : w0.heap.size ≤ w3.heap.size := by have := g3_.size; simp at this; omega
                       have l3 : zs.length = ps.length + 1 := by rw [hzs.out]; simp
                       have hP3 : Hid (Dl.Path s T f gf pn (zs.map PM.d)) := Lib.hid (by rw [hzs.out, List.map_append]; exact hPart2.out)
                       clear g3_ k3 A3 oP2 VF2 VG2 hzs hxp))
                  go_roundw
                  case rel => exact ⟨pn, some ⟨g3, 0, none⟩, c3, zs, hpT, by rw [l3], by go_num, by omega, hP3, o3, VF3, VG3, b3, z3⟩
                  case measure => simp [intOf] <;> omega
                · have hcmp : ((1 + (m : Int) + fq) != fi) = true := by simpa using heq
                  have hA2 : Hid (∀ k, 1 ≤ k → k < m + 1 → fi ≠ 1 + k + f (i + k)) := Lib.hid fun k a b => by
                    by_cases e : k = m
                    · subst e; rw [hfq.out]; exact fun h => heq h.symm
                    · exact hA.out k a (by omega)
                  have hmr : i + (m + 1) ≤ T.length := by
                    obtain ⟨k, a1, a2, a3⟩ := HAT.out
                    rcases a3 with ⟨b1, b2⟩ | b2
                    · exact absurd b2 (HNo.out k a1 b1)
                    · have : m < k := by
                        rcases Nat.lt_or_ge m k with h | h
                        · exact h
                        · exact absurd b2 (hA2.out k a1 (by omega))
                      omega
                  clear heq hA
                  go_wp2
                  go_quiet (fail)
                  go_wp2
                  go_roundw
                  case rel => exact ⟨m + 1, by omega, hmr, by go_num, hA2, _, rfl⟩
                  case measure => simp [intOf] <;> omega
            · have hnp : (0 : Int) < (n : Int) := by omega
              have hnpN : 0 < n := by omega
              obtain ⟨pn, hpn⟩ : ∃ pn : Nat, pn = i + n := ⟨_, rfl⟩
              have hw : IntKind.i64.wrap ((i : Int) + (n : Int)) = (pn : Int) := by rw [show (pn : Int) = (i : Int) + (n : Int) by omega]; exact IntWalk.i64_in _ (by omega)
              have hpT : pn ≤ T.length := by omega
              have hpN : (pn : Int) < (N1 : Int) := by omega
              have fQ := HF.out w1 VF pn hpT
              have hbq := HB.out pn hpT
              have HPN := Lib.hid hpn
              have hfq : Hid (f (i + n) = f pn) := by rw [hpn]; exact Lib.hid rfl
              clear hpn
              generalize f pn = fq at *
              have hw3 : IntKind.i64.wrap (3 + fq) = 3 + fq := IntWalk.i64_in _ (by omega)
              by_cases heq : 3 + fq = fi
              · have hcmp : ((3 + fq) != fi) = false := by simpa using heq
                have HEQ := Lib.hid heq
                clear heq
                go_wp2
                go_quiet (fail)
                have hip : i < pn := by have := HPN.out; omega
                have M : ∀ w0, (Instr.slice 22 (.slice D T.length d) (some (.int .i64 (i : Int))) (some (.int .i64 (pn : Int))) none).run Try.prog w0 = .ok (.slice (cutA D d i) n (d - i)) w0 := fun w0 => by
                  have := run_cuts i pn .i64 .i64 D T.length d w0 (by omega) (by omega)
                  rwa [show pn - i = n by have := HPN.out; omega] at this
                have hml : ((T.drop i).take n).length = n := by simp; omega
                have hrb : RB w 0 (cutA D d i) ((T.drop i).take n) := (HX.out.2.cut i d hd).take n
                have hh := HLG.out.fits hn
                have hx0 : 0 ≤ Lib.index s ((T.drop i).take n) := by simpa [Dl.has, Lib.contains] using hh
                obtain ⟨p, hp⟩ : ∃ p : Nat, Lib.index s ((T.drop i).take n) = (p : Int) := ⟨(Lib.index s ((T.drop i).take n)).toNat, by omega⟩
                have hx1 := Lib.index_room s ((T.drop i).take n) hx0
                have TX : ∀ w', Ab w w' → Calls Try.prog 40 #[.slice A s.length c, .slice (cutA D d i) n (d - i)] w' (fun e w'' => e = .returned (.int .i64 (p : Int)) ∧ Ab w' w'') := fun w' k => by
                  have := place_any A (cutA D d i) c (d - i) s ((T.drop i).take n) p w' (HX.out.1.ab k) (hrb.ab k) hp (by omega) h1 (by omega)
                  rwa [hml] at this
                have hS := Lib.hid (hSn.out n true (hSt1.out n hnpN hn (by rw [hfq.out]; exact HEQ.out) hA.out))
                have hPart2 : Hid (Dl.Path s T f gf pn (ps.map PM.d ++ [⟨(p : Int), (n : Int), []⟩])) := by
                  have := hS.out
                  rw [← HPN.out, show Dl.part s T i n true = ⟨Lib.index s ((T.drop i).take n), (n : Int), []⟩ from rfl, hp] at this
                  exact Lib.hid this
                have hp3 : p ≤ 300 := by omega
                have hn3 : n ≤ 300 := by omega
                clear hS hx0 hx1 hp hh hml hrb hA
                go_wp2_with fail
                refine (TX _ (Ab.trans hb (by exact abA))).mono ?_
                rintro e w2 ⟨rfl, hb2⟩
                have b12 : Ab w1 w2 := Ab.trans (by exact abA) hb2
                have b2 := hb.trans b12
                have oP2 := oP.ab b12
                have VF2 := VF.ab b12
                have VG2 := VG.ab b12
                have z2 := b12.size
                have hxp : PO w2 (fun g => w0.heap.size ≤ g ∧ P.map (·.block) ≠ some g) ⟨(p : Int), (n : Int), none, [], 0⟩ := ⟨RS.nil, Nat.le_refl _, by simp, by show _ ≤ (p : Int); omega, by show (p : Int) ≤ _; omega, by show _ ≤ (n : Int); omega, by show (n : Int) ≤ _; omega⟩
                clear TX hb2
                go_wp2_with (first
                  | (at_builtin
                     refine listAppP (x := ⟨(p : Int), (n : Int), none, [], 0⟩) rfl _ _ rfl rfl rfl (oP2.ab (w' := _) abA) (by simp; omega) (by (repeat (first | exact new_plain wnA | with_reducible refine old_alloc ?_ | with_reducible refine old_drew ?_ | with_reducible refine old_set ?_ wnA | with_reducible refine old_ab (by assumption) ?_))) (hxp.ab abA) (by omega) ?_
                     intro g3 c3 w3 zs hzs o3 g3_ k3
                     have A3 : Ab w (w2.alloc (.cells #[.int .i64 (p : Int), .int .i64 (n : Int), .slice none 0 0] 24)) := Ab.trans b2 abA
                     have b3 : Ab w w3 := k3 w A3 hww
                     have VF3 : VB w3 bf cF := (VF2.ab (w' := w2.alloc _) abA).grd g3_ (fun e => by have := (hDl bf e).1; omega)
                     have VG3 : VB w3 bg cG := (VG2.ab (w' := w2.alloc _) abA).grd g3_ (fun e => by have := (hDl bg e).1; omega)
                     have z3 : w0.heap.size ≤ w3.heap.size := by have := g3_.size; simp at this; omega
                     have l3 : zs.length = ps.length + 1 := by rw [hzs.out]; simp
                     have hP3 : Hid (Dl.Path s T f gf pn (zs.map PM.d)) := Lib.hid (by rw [hzs.out, List.map_append]; exact hPart2.out)
                     clear g3_ k3 A3 oP2 VF2 VG2 hzs hxp))
                go_roundw
                case rel => exact ⟨pn, some ⟨g3, 0, none⟩, c3, zs, hpT, by rw [l3], by go_num, by omega, hP3, o3, VF3, VG3, b3, z3⟩
                case measure => simp [intOf] <;> omega
              · have hcmp : ((3 + fq) != fi) = true := by simpa using heq
                obtain ⟨n1, hn1⟩ : ∃ n1 : Nat, n = n1 + 1 := ⟨n - 1, by omega⟩
                have hwn : IntKind.i64.wrap ((n : Int) - 1) = (n1 : Int) := by rw [show (n : Int) - 1 = (n1 : Int) by omega]; exact IntWalk.i64_in _ (by omega)
                have hA2 : Hid (∀ m, n1 < m → m ≤ gi → fi ≠ 3 + f (i + m)) := Lib.hid fun m a b => by
                  by_cases e : m = n
                  · subst e; rw [hfq.out]; exact fun h => heq h.symm
                  · exact hA.out m (by omega) b
                have HN1 := Lib.hid hn1
                clear heq hA hn1
                go_wp2
                go_quiet (fail)
                go_wp2
                go_roundw
                case rel => exact ⟨n1, by have := HN1.out; omega, rfl, hA2, _, rfl⟩
                case measure => have := HN1.out; simp [intOf] <;> omega
        · obtain rfl : i = T.length := by omega
          have hMk := hP.out.all
          have HMk := Lib.hid hMk
          clear hMk hP
          go_wp2
          go_ret2
          exact ⟨P, cpp, ps, 0, rfl, oP.mono hww, hb, Lib.hid (by rw [if_neg HO.out]; exact ⟨rfl, _, gf, HT.out, HMk.out⟩)⟩
    · have k2 : (300 : Int) < (T.length : Int) := by omega
      clear hs ht
      go_enter Try.func23, Try.ntmps23
      go_wp2
      go_ret2
      exact ⟨none, 0, [], 4, rfl, OwnPts.nil, abA, Lib.hid (by rw [if_pos (.inr (by omega))]; exact ⟨rfl, rfl⟩)⟩
  · have k1 : (300 : Int) < (s.length : Int) := by omega
    clear hs ht
    go_enter Try.func23, Try.ntmps23
    go_wp2
    go_ret2
    exact ⟨none, 0, [], 4, rfl, OwnPts.nil, abA, Lib.hid (by rw [if_pos (.inl (by omega))]; exact ⟨rfl, rfl⟩)⟩
end Go.Proofs.Ytbhhjbmpcpjcnaa
