/- The reference of layer 9: the value of an object. Own work. -/
import Derived.Test.YthfffbpcmlgoiaaGreatDoorCObRefC
import Derived.Test.YthfffbpcmlgoiaaGreatDoorCObRefD
import Derived.Test.YthfffbpcmlgoiaaGreatDoorCObMath
set_option linter.unusedVariables false
set_option linter.unusedSimpArgs false
namespace Go.Proofs.YthfffbpcmlgoiaaGreatDoor
open Go.RowKit
open Codec (V)

theorem OwnVs.list {d lo c : Nat} {w : World} {A : Option Addr} {ys : List VM} (h : OwnVs d lo w A c ys) (hl : ys.length ≤ 9223372036854775807) : VL (d + 1) w (fun _ => True) (vmL A (ys.map VM.v) c) :=
  ⟨⟨by simp [vmL], by simp [vmL], by simp [vmL], by simp [vmL], by simp [vmL], by have := h.le; simpa [vmL] using this, by simpa [vmL] using hl⟩, RS.nil, VLs.mono (fun _ _ => trivial) (h.vls rfl)⟩
theorem OwnVs.list' {d lo c : Nat} {w : World} {A : Option Addr} {ys : List VM} (h : OwnVs d lo w A c ys) (hl : ys.length ≤ 9223372036854775807) : VL (d + 1) w (fun g => lo ≤ g) (vmL A (ys.map VM.v) c) :=
  ⟨⟨by simp [vmL], by simp [vmL], by simp [vmL], by simp [vmL], by simp [vmL], by have := h.le; simpa [vmL] using this, by simpa [vmL] using hl⟩, RS.nil, h.vls rfl⟩
theorem OwnVs.deeper {d e lo c : Nat} {w : World} {A : Option Addr} {ys : List VM} (h : OwnVs d lo w A c ys) (k : d ≤ e) : OwnVs e lo w A c ys := ⟨h.1, fun y hy => (h.2 y hy).le k⟩
/-- Several values appended at once. -/
theorem OwnVs.apps {d lo c g c' : Nat} {w w' : World} {A : Option Addr} {ys xs : List VM} (h : OwnVs d lo w A c ys) (hx : ∀ x ∈ xs, VL d w (fun g => lo ≤ g ∧ A.map (·.block) ≠ some g) x)
    (hv : OV 88 4 lo w' (some ⟨g, 0, none⟩) (ys.length + xs.length) c' (vcells ys ++ vcells xs)) (hg : w.grownBy w' (A.map (·.block))) (hk : A.map (·.block) = some g ∨ g = w.heap.size) :
    OwnVs d lo w' (some ⟨g, 0, none⟩) c' (ys ++ xs) := by
  have key : ∀ y : VM, VL d w (fun g => lo ≤ g ∧ A.map (·.block) ≠ some g) y → VL d w' (fun k => lo ≤ k ∧ (some (⟨g, 0, none⟩ : Addr)).map (·.block) ≠ some k) y := by
    intro y hy
    refine VL.mono ?_ (hy.lt.keep fun k hk' hl => hg.block k hl fun e => hk'.1.2 e.symm)
    rintro k ⟨⟨h1, h2⟩, h3⟩
    refine ⟨h1, ?_⟩
    rcases hk with hk | hk
    · rw [hk] at h2; exact h2
    · simp; omega
  refine ⟨?_, fun y hy => ?_⟩
  · rw [vcells_append, List.length_append]; exact hv
  · rcases List.mem_append.1 hy with hy | hy
    · exact key y (h.2 y hy)
    · exact key y (hx y hy)
theorem vcells_len (xs : List VM) : (vcells xs).length = xs.length * 4 := by
  induction xs with
  | nil => rfl
  | cons x xs ih =>
    have e : vcells (x :: xs) = x.cells ++ vcells xs := by simp [vcells]
    rw [e, List.length_append, ih, VM.len, List.length_cons]; omega
theorem OwnVs.one {d lo g : Nat} {w : World} {x : VM} (hlo : lo ≤ g) (hg : w.heap[g]? = some (.cells x.cells.toArray 88 (0, 0))) (hx : VL d w (fun k => lo ≤ k ∧ k ≠ g) x) : OwnVs d lo w (some ⟨g, 0, none⟩) 1 [x] := by
  refine ⟨⟨(vcells_len [x]).trans rfl, .inr ⟨g, 1, x.cells.toArray, rfl, hlo, hg, Nat.le_refl _, by unfold maxLen; omega, rfl, rfl⟩⟩, fun y hy => ?_⟩
  obtain rfl : y = x := by simpa using hy
  exact hx.mono fun k hk => ⟨hk.1, fun e => hk.2 (by simpa using e.symm)⟩
theorem wp_appVm {lo d : Nat} {w : World} {A : Option Addr} {c : Nat} {ys xs : List VM} {o : Oper} {a : Act} {g e n : Nat} {K : Act → World → Prop} {Q : Exit → Act → World → Prop} (s y : Operand) (ho : o.op = .call { callee := .builtin .append, args := #[s, y], argTypes := #[86, 86] })
    (hs : a.eval s = .slice A ys.length c) (hy : a.eval y = .slice (some ⟨g, 0, none⟩) n e) (hn : n = xs.length) (h : OwnVs d lo w A c ys) (hlo : lo ≤ w.heap.size)
    (hg : VB w g (vcells xs)) (hx : ∀ x ∈ xs, VL d w (fun g => lo ≤ g ∧ A.map (·.block) ≠ some g) x) (h0 : 0 < xs.length) (h1 : xs.length ≤ 100) (hlen : ys.length ≤ 1000000)
    (hK : ∀ g' c' w' zs, Hid (zs = ys ++ xs) → OwnVs d lo w' (some ⟨g', 0, none⟩) c' zs → w.grownBy w' (A.map (·.block)) → (A.map (·.block) = some g' ∨ g' = w.heap.size) → K (a.put o.dst (.slice (some ⟨g', 0, none⟩) zs.length c')) w') : o.wp Tryz.prog a w K Q := by
  subst hn
  obtain ⟨i0, hi0, hz0, hz1, hz2⟩ := info_parts infoVal
  refine wp_appV (ws := vcells xs) s y _ ho i0 _ Tryz.underlying86 hi0 hz0 hz1 hz2 rfl (by omega) hs hy h.1 hlo (vcells_len xs) ?_ ?_ h0 (by unfold maxLen; omega) (by omega) ?_
  · intro j u hu
    have e : (⟨g, 0, none⟩ : Addr).add j = ⟨g, j, none⟩ := by unfold Addr.add; split <;> simp_all
    rw [e]
    exact hg.at j hu
  · intro u hu
    have : ∀ xs : List VM, u ∈ vcells xs → u.oneCell' = true := fun xs hu => by
      obtain ⟨l, hl, hul⟩ := List.mem_flatten.1 hu
      obtain ⟨x, _, rfl⟩ := List.mem_map.1 hl
      exact List.all_eq_true.1 x.one u hul
    exact this xs hu
  · intro g' c' w' h4 h5 h6
    have := hK g' c' w' (ys ++ xs) rfl (h.apps hx h4 h5 h6) h5 h6
    rwa [List.length_append] at this
set_option maxRecDepth 100000 in
set_option maxHeartbeats 4000000 in
theorem rvalue_1 (A : Option Addr) (t : List UInt8) (c : Nat) (E : Option Addr) (es : List EM) (d : Nat) (m : CM) (w : World) (hl : t.length ≤ 1000000) (h : OL w ⟨1, A, t, c, E, es, d, m⟩) :
    Calls Tryz.prog 52 #[.agg (OM.cells ⟨1, A, t, c, E, es, d, m⟩).toArray] w (RetVal w (Obj.L [Obj.N 1, Obj.B t])) := by
  have hb := h.b
  have hc := h.c
  simp only at hb hc
  clear h
  go_enter Tryz.func52, Tryz.ntmps52
  have V0 : VB ((w.alloc (.cells (OM.cells ⟨1, A, t, c, E, es, d, m⟩).toArray 32)).alloc (.cells #[.int .u8 0, .int .i64 0, .slice none 0 0, .slice none 0 0] 88)) w.heap.size (OM.cells ⟨1, A, t, c, E, es, d, m⟩) := VB.box (xs := (OM.cells ⟨1, A, t, c, E, es, d, m⟩).toArray) (T := 32) (by (repeat (first | exact new_plain wnA | with_reducible refine old_alloc ?_ | with_reducible refine old_drew ?_ | with_reducible refine old_set ?_ wnA | with_reducible refine old_ab (by assumption) ?_)))
  have Z0 : VB ((w.alloc (.cells (OM.cells ⟨1, A, t, c, E, es, d, m⟩).toArray 32)).alloc (.cells #[.int .u8 0, .int .i64 0, .slice none 0 0, .slice none 0 0] 88)) (w.heap.size + 1) VM.zero.cells := VB.box (xs := #[.int .u8 0, .int .i64 0, .slice none 0 0, .slice none 0 0]) (T := 88) (by (repeat (first | exact new_plain wnA | with_reducible refine old_alloc ?_ | with_reducible refine old_drew ?_ | with_reducible refine old_set ?_ wnA | with_reducible refine old_ab (by assumption) ?_)))
  have b0 : Ab w ((w.alloc (.cells (OM.cells ⟨1, A, t, c, E, es, d, m⟩).toArray 32)).alloc (.cells #[.int .u8 0, .int .i64 0, .slice none 0 0, .slice none 0 0] 88)) := abA
  go_upto_region 1 with fail
  have z0 : w.heap.size + 1 < (((w.alloc (.cells (OM.cells ⟨1, A, t, c, E, es, d, m⟩).toArray 32)).alloc (.cells #[.int .u8 0, .int .i64 0, .slice none 0 0, .slice none 0 0] 88))).heap.size := by simp
  have e0 : (OM.cells ⟨1, A, t, c, E, es, d, m⟩)[0]? = some (.int .u8 1) := rfl
  have e1 : (OM.cells ⟨1, A, t, c, E, es, d, m⟩)[1]? = some (.slice A t.length c) := rfl
  have e2 : (OM.cells ⟨1, A, t, c, E, es, d, m⟩)[2]? = some (.slice E es.length d) := rfl
  generalize ((w.alloc (.cells (OM.cells ⟨1, A, t, c, E, es, d, m⟩).toArray 32)).alloc (.cells #[.int .u8 0, .int .i64 0, .slice none 0 0, .slice none 0 0] 88)) = w0 at *
  generalize OM.cells ⟨1, A, t, c, E, es, d, m⟩ = oc at *
  have c0 := V0.at 0 e0
  go_wp2_with fail
  refine (number_any 1 _).mono ?_
  rintro e w1 ⟨he, hb1⟩
  obtain rfl : e = .returned (.agg #[.int .u8 1, .int .i64 1, .slice none 0 0, .slice none 0 0]) := he
  have z1 := hb1.size
  have V1 := V0.ab hb1
  have Z1 := Z0.ab hb1
  have b1 := b0.trans hb1
  clear V0 Z0 b0 hb1 c0
  go_upto_region 2 with fail
  have hb2 : Ab w1 (w1.alloc (.cells #[.int .u8 1, .int .i64 1, .slice none 0 0, .slice none 0 0] 88)) := abA
  have z2 : w1.heap.size < ((w1.alloc (.cells #[.int .u8 1, .int .i64 1, .slice none 0 0, .slice none 0 0] 88))).heap.size := by simp
  have G2 : ((w1.alloc (.cells #[.int .u8 1, .int .i64 1, .slice none 0 0, .slice none 0 0] 88))).heap[w1.heap.size]? = some (.cells (vmN 1).cells.toArray 88 (0, 0)) := by
    show ((w1.alloc (.cells #[.int .u8 1, .int .i64 1, .slice none 0 0, .slice none 0 0] 88))).heap[w1.heap.size]? = some (.cells #[.int .u8 1, .int .i64 1, .slice none 0 0, .slice none 0 0] 88 (0, 0))
    (repeat (first | exact new_plain wnA | with_reducible refine old_alloc ?_ | with_reducible refine old_drew ?_ | with_reducible refine old_set ?_ wnA | with_reducible refine old_ab (by assumption) ?_))
  have O2 : OwnVs 1 w1.heap.size (w1.alloc (.cells #[.int .u8 1, .int .i64 1, .slice none 0 0, .slice none 0 0] 88)) (some ⟨w1.heap.size, 0, none⟩) 1 [vmN 1] := OwnVs.one (Nat.le_refl _) G2 ((vl_N (by omega) (by omega)).le (by omega))
  have V2 := V1.ab hb2
  have Z2 := Z1.ab hb2
  have b2 := b1.trans hb2
  clear V1 Z1 b1 hb2 G2
  generalize (w1.alloc (.cells #[.int .u8 1, .int .i64 1, .slice none 0 0, .slice none 0 0] 88)) = w2 at *
  generalize w1.heap.size = lb at *
  have c0 := V2.at 0 e0
  have c1 := V2.at 1 e1
  go_wp2_with fail
  refine (text9_any A t c _ (hb.ab b2) hc hl).mono ?_
  rintro e w3 ⟨A', c', he, hv3, hb3⟩
  obtain rfl : e = .returned (.agg #[.int .u8 2, .int .i64 0, .slice A' t.length c', .slice none 0 0]) := he
  have b3 := b2.trans hb3
  have Z3 := Z2.ab hb3
  have O3 := O2.ab hb3
  have z3 := hb3.size
  have hx3 : VL 1 w3 (fun g => lb ≤ g ∧ (some (⟨lb, 0, none⟩ : Addr)).map (·.block) ≠ some g) (vmB A' t c') := hv3.mono fun g hg => ⟨by omega, fun e => by simp at e; omega⟩
  clear O2 Z2 V2 hv3 c0 c1
  go_wp2_with (first
    | ((at_builtin
        refine listAppVs (x := vmB A' t c') rfl _ _ rfl rfl rfl (O3.ab (w' := _) abA) (by simp; omega) (by (repeat (first | exact new_plain wnA | with_reducible refine old_alloc ?_ | with_reducible refine old_drew ?_ | with_reducible refine old_set ?_ wnA | with_reducible refine old_ab (by assumption) ?_))) (hx3.ab abA) (by simp) ?_
        intro g4 c4 w4 zs hzs ho4 hg4 _
        have Z4 := (Z3.ab (w' := w3.alloc _) abA).grw hg4 (fun e => by simp at e; omega)
        have ab4 : Ab w w4 := grown_ab (Ab.trans b3 abA) hg4 (fun g e => by simp at e; omega)
        have hs4 := hg4.size)))
  refine (list_any (some ⟨g4, 0, none⟩) zs.length c4 _).mono ?_
  rintro e w5 ⟨rfl, hb5⟩
  have Z5 := Z4.ab hb5
  have O5 := ho4.ab hb5
  have b5 := ab4.trans hb5
  have z5 := hb5.size
  go_wp2_with (refine list_stV (o := ⟨none, _, _, _, _, _⟩) (us := [.int .u8 3, .int .i64 0, .slice none 0 0, .slice (some ⟨g4, 0, none⟩) zs.length c4]) _ infoVT rfl _ _ rfl rfl rfl Z5 rfl rfl rfl ?_; intro w9 h9)
  refine bodyPost_ret (res_V1 _ infoVT Tryz.underlying88 rfl Tryz.results52 _ rfl h9.v rfl) rfl ?_
  have O9 : OwnVs 1 lb w9 (some ⟨g4, 0, none⟩) c4 zs := O5.keep (fun g hg _ => h9.blk g (by omega))
  refine ⟨vmL (some ⟨g4, 0, none⟩) (zs.map VM.v) c4, ?_, Lib.hid (by rw [hzs.out]; rfl), (O9.list (by rw [hzs.out]; simp)).le (by omega), h9.ab w b5 (by omega)⟩
  simp [VM.val, VM.cells, vmL]
/-- The value of an entry has its elements in memory. -/
theorem vmL_cells (A : Option Addr) (ys : List VM) (c : Nat) : (vmL A (ys.map VM.v) c).cells.toArray = #[.int .u8 3, .int .i64 0, .slice none 0 0, .slice A ys.length c] := by simp [vmL, VM.cells]
/-- The variables of Value behind k elements. -/
structure Vr (dd : Nat) (w : World) (lo ob lb : Nat) (oc ks : List Value) (vs : List V) (A : Option Addr) (c : Nat) (ys : List VM) (w' : World) : Prop where
  ab : Ab w w'
  zz : lo ≤ w'.heap.size
  v : Hid (ys.map VM.v = vs)
  o : OwnVs dd lo w' A c ys
  q : w'.heap[lb]? = some (.cells ks.toArray 88 (0, 0))
  b : VB w' ob oc
  z : VB w' (ob + 1) VM.zero.cells
theorem Vr.keep {dd : Nat} {w w1 w2 : World} {lo ob lb : Nat} {oc ks : List Value} {vs : List V} {A : Option Addr} {c : Nat} {ys : List VM} (h : Vr dd w lo ob lb oc ks vs A c ys w1) (k : Ab w1 w2) : Vr dd w lo ob lb oc ks vs A c ys w2 :=
  ⟨h.ab.trans k, Nat.le_trans h.zz k.size, h.v, h.o.ab k, old_ab k h.q, h.b.ab k, h.z.ab k⟩
set_option maxRecDepth 100000 in
set_option maxHeartbeats 4000000 in
theorem rvalue_2 (A : Option Addr) (t : List UInt8) (c : Nat) (E : Option Addr) (es : List EM) (d : Nat) (m : CM) (w : World) (h12 : es.length ≤ 1000) (hps : ∀ e ∈ es, e.p.size ≤ 1000000) (h : OL w ⟨2, A, t, c, E, es, d, m⟩) :
    Calls Tryz.prog 52 #[.agg (OM.cells ⟨2, A, t, c, E, es, d, m⟩).toArray] w (RetVal w (Obj.L [Obj.N 2, Obj.L (es.map EM.v)])) := by
  have hr := Lib.hid h.r
  have hl := Lib.hid h.l
  simp only at hr hl
  have hs := Lib.hid hps
  clear h hps
  go_enter Tryz.func52, Tryz.ntmps52
  have V0 : VB ((w.alloc (.cells (OM.cells ⟨2, A, t, c, E, es, d, m⟩).toArray 32)).alloc (.cells #[.int .u8 0, .int .i64 0, .slice none 0 0, .slice none 0 0] 88)) w.heap.size (OM.cells ⟨2, A, t, c, E, es, d, m⟩) := VB.box (xs := (OM.cells ⟨2, A, t, c, E, es, d, m⟩).toArray) (T := 32) (by (repeat (first | exact new_plain wnA | with_reducible refine old_alloc ?_ | with_reducible refine old_drew ?_ | with_reducible refine old_set ?_ wnA | with_reducible refine old_ab (by assumption) ?_)))
  have Z0 : VB ((w.alloc (.cells (OM.cells ⟨2, A, t, c, E, es, d, m⟩).toArray 32)).alloc (.cells #[.int .u8 0, .int .i64 0, .slice none 0 0, .slice none 0 0] 88)) (w.heap.size + 1) VM.zero.cells := VB.box (xs := #[.int .u8 0, .int .i64 0, .slice none 0 0, .slice none 0 0]) (T := 88) (by (repeat (first | exact new_plain wnA | with_reducible refine old_alloc ?_ | with_reducible refine old_drew ?_ | with_reducible refine old_set ?_ wnA | with_reducible refine old_ab (by assumption) ?_)))
  have b0 : Ab w ((w.alloc (.cells (OM.cells ⟨2, A, t, c, E, es, d, m⟩).toArray 32)).alloc (.cells #[.int .u8 0, .int .i64 0, .slice none 0 0, .slice none 0 0] 88)) := abA
  go_upto_region 1 with fail
  have z0 : w.heap.size + 1 < (((w.alloc (.cells (OM.cells ⟨2, A, t, c, E, es, d, m⟩).toArray 32)).alloc (.cells #[.int .u8 0, .int .i64 0, .slice none 0 0, .slice none 0 0] 88))).heap.size := by simp
  have e0 : (OM.cells ⟨2, A, t, c, E, es, d, m⟩)[0]? = some (.int .u8 2) := rfl
  have e1 : (OM.cells ⟨2, A, t, c, E, es, d, m⟩)[1]? = some (.slice A t.length c) := rfl
  have e2 : (OM.cells ⟨2, A, t, c, E, es, d, m⟩)[2]? = some (.slice E es.length d) := rfl
  generalize ((w.alloc (.cells (OM.cells ⟨2, A, t, c, E, es, d, m⟩).toArray 32)).alloc (.cells #[.int .u8 0, .int .i64 0, .slice none 0 0, .slice none 0 0] 88)) = w0 at *
  generalize OM.cells ⟨2, A, t, c, E, es, d, m⟩ = oc at *
  have c0 := V0.at 0 e0
  go_wp2_with fail
  refine (number_any 2 _).mono ?_
  rintro e w1 ⟨he, hb1⟩
  obtain rfl : e = .returned (.agg #[.int .u8 1, .int .i64 2, .slice none 0 0, .slice none 0 0]) := he
  have z1 := hb1.size
  have V1 := V0.ab hb1
  have Z1 := Z0.ab hb1
  have b1 := b0.trans hb1
  clear V0 Z0 b0 hb1 c0
  go_upto_region 2 with fail
  have hb2 : Ab w1 (w1.alloc (.cells #[.int .u8 1, .int .i64 2, .slice none 0 0, .slice none 0 0] 88)) := abA
  have z2 : w1.heap.size < ((w1.alloc (.cells #[.int .u8 1, .int .i64 2, .slice none 0 0, .slice none 0 0] 88))).heap.size := by simp
  have G2 : ((w1.alloc (.cells #[.int .u8 1, .int .i64 2, .slice none 0 0, .slice none 0 0] 88))).heap[w1.heap.size]? = some (.cells (vmN 2).cells.toArray 88 (0, 0)) := by
    show ((w1.alloc (.cells #[.int .u8 1, .int .i64 2, .slice none 0 0, .slice none 0 0] 88))).heap[w1.heap.size]? = some (.cells #[.int .u8 1, .int .i64 2, .slice none 0 0, .slice none 0 0] 88 (0, 0))
    (repeat (first | exact new_plain wnA | with_reducible refine old_alloc ?_ | with_reducible refine old_drew ?_ | with_reducible refine old_set ?_ wnA | with_reducible refine old_ab (by assumption) ?_))
  have G2 := G2
  have O2 : OwnVs 1 w1.heap.size (w1.alloc (.cells #[.int .u8 1, .int .i64 2, .slice none 0 0, .slice none 0 0] 88)) (some ⟨w1.heap.size, 0, none⟩) 1 [vmN 2] := OwnVs.one (Nat.le_refl _) G2 ((vl_N (by omega) (by omega)).le (by omega))
  have V2 := V1.ab hb2
  have Z2 := Z1.ab hb2
  have b2 := b1.trans hb2
  clear V1 Z1 b1 hb2 O2
  generalize (w1.alloc (.cells #[.int .u8 1, .int .i64 2, .slice none 0 0, .slice none 0 0] 88)) = w2 at *
  generalize w1.heap.size = lb at *
  have c0 := V2.at 0 e0
  have c2 := V2.at 2 e2
  go_wp2_with fail
  go_loopw [4, 5] (fun s i w' => ∃ (k : Nat) (B : Option Addr) (cb_ : Nat) (ys : List VM), k ≤ es.length ∧ s = .slice B k cb_ ∧ i = .int .i64 k ∧ ys.length = k ∧ Vr 2 w w2.heap.size w.heap.size lb oc (vmN 2).cells ((es.take k).map EM.v) B cb_ ys w') (fun _ i _ => es.length - (intOf i).toNat)
  case atStart => exact ⟨0, none, 0, [], Nat.zero_le _, rfl, rfl, rfl, ⟨b2, Nat.le_refl _, Lib.hid rfl, OwnVs.nil, G2, V2, Z2⟩⟩
  case round =>
    obtain ⟨k, B, cb_, ys, hk, rfl, rfl, hyl, hV⟩ := hrel
    have hyl' : k = ys.length := hyl.symm
    subst hyl'
    clear hyl
    rename World => w5
    have c2 := hV.b.at 2 e2
    by_cases hlt : ys.length < es.length
    · have hT : (ys.length : Int) < es.length := by omega
      obtain ⟨g, o, rfl, hR⟩ := hr.out (by simp; omega)
      have hp := hl.out es[ys.length] (List.getElem_mem hlt)
      have hR1 := hR ys.length (by simpa using hlt)
      rw [List.getElem_map] at hR1
      have hps := hs.out es[ys.length] (List.getElem_mem hlt)
      have HS : Hid ((es.take (ys.length + 1)).map EM.v = (es.take ys.length).map EM.v ++ [es[ys.length].v]) := by
        unfold Hid
        rw [List.take_add_one, List.getElem?_eq_getElem hlt]
        simp only [Option.toList_some, List.map_append, List.map_cons, List.map_nil]
      generalize es[ys.length] = x at *
      clear hR
      obtain ⟨l, hxl⟩ : ∃ l : List UInt8, x.p = ⟨l.toArray⟩ := ⟨x.p.data.toList, by simp⟩
      have hll : l.length ≤ 1000000 := by rw [hxl] at hps; exact hps
      have cX0 : w.cell? ⟨g, o + ys.length * 33, none⟩ = some (.string ⟨l.toArray⟩) := by
        have := hR1 0 (.string ⟨l.toArray⟩) (by rw [← hxl]; rfl)
        rwa [Nat.add_zero] at this
      have hXb0 : w.rangeAt g (o + ys.length * 33 + 1) (idc x.b) := fun j u hu => by
        rw [Nat.add_assoc]
        exact hR1 (1 + j) u (by rw [Nat.add_comm 1 j]; exact hu)
      have cX := hV.ab.at cX0
      have hXb : w5.rangeAt g (o + ys.length * 33 + 1) (idc x.b) := fun j u hu => hV.ab.at (hXb0 j u hu)
      have hxv : Hid (x.v = Obj.L [Obj.B l, Obj.B x.b]) := by unfold Hid EM.v; rw [hxl]
      have zB : ∀ g', B.map (·.block) = some g' → g' < w5.heap.size := fun g' e => hV.o.lt e
      have zL : ∀ g', B.map (·.block) = some g' → w2.heap.size ≤ g' := fun g' e => hV.o.low e
      have z5 := hV.zz
      have hcv := conv_bytes w5.drew l
      have hge := grownCap_ge w5.drew l.length 0 5
      generalize grownCap w5.drew l.length 0 5 = cp at *
      have hcp : l.length ≤ cp := by omega
      clear hR1 hxl hps
      go_upto_region 16 with fail
      refine wp_region_held_drew (by kernel_rfl) (S := fun w' => VB w' w.heap.size oc ∧ w'.cell? ⟨g, o + ys.length * 33, none⟩ = some (.string ⟨l.toArray⟩) ∧ w'.rangeAt g (o + ys.length * 33 + 1) (idc x.b)) ?_ (fun hHeld => ?_)
      · exact ⟨VB.ab hV.b abA, cell_drew cX, fun j u hu => cell_drew (hXb j u hu)⟩
      (refine rtA 0 ?_ ?_
       (try simp only [Act.put, stA, st0, st1]))
      (refine rtA 1 ?_ ?_
       (try simp only [Act.put, stA, st0, st1]))
      (refine rtA 2 (.slice (some ⟨g, o, none⟩) es.length d) ?_ (hy := by intro w hSw; have z0 := hSw.1.at 2 e2; go_simp; (try with_reducible rfl)); (try simp only [Act.put, stA, st0, st1]))
      (refine rtA 3 ?_ ?_
       (try simp only [Act.put, stA, st0, st1]))
      (refine rtA 4 ?_ ?_
       (try simp only [Act.put, stA, st0, st1]))
      (refine rtA 5 ?_ ?_
       (try simp only [Act.put, stA, st0, st1]))
      (refine rtA 6 (.string ⟨l.toArray⟩) ?_ (hy := by intro w hSw; have z0 := hSw.2.1; go_simp; (try with_reducible rfl)); (try simp only [Act.put, stA, st0, st1]))
      (refine rtA 9 ?_ ?_
       (try simp only [Act.put, stA, st0, st1]))
      (refine rtA 10 (.slice (some ⟨g, o, none⟩) es.length d) ?_ (hy := by intro w hSw; have z0 := hSw.1.at 2 e2; go_simp; (try with_reducible rfl)); (try simp only [Act.put, stA, st0, st1]))
      (refine rtA 11 ?_ ?_
       (try simp only [Act.put, stA, st0, st1]))
      (refine rtA 12 ?_ ?_
       (try simp only [Act.put, stA, st0, st1]))
      (refine rtA 13 ?_ ?_
       (try simp only [Act.put, stA, st0, st1]))
      (try simp only [Act.put, List.getElem_toArray, List.getElem_cons_succ, List.getElem_cons_zero, stA, st0, st1])
      (refine rtL 14 (idc x.b) (o + ys.length * 33 + 1) (fun w hSw => hSw.2.2) Tryz.underlying27 ?_ (hz := by rw [infoIdT, idc_len (by assumption)])
       (try simp only [Act.put, stA, st0, st1]))
      have b7 : Ab w5 ((w5.alloc (.cells (bytesRow ⟨l.toArray⟩ cp) 5 ((bytesRow ⟨l.toArray⟩ cp).size, (bytesRow ⟨l.toArray⟩ cp).size + 1))).drew.drew) := abA
      refine r1A 7 (fun K hK => ?_)
      (go_simp
       (refine hK.out _ _ ?_ (fun hHeld => ?_)
        · (try dsimp only); exact (show VB ((w5.alloc (.cells (bytesRow ⟨l.toArray⟩ cp) 5 ((bytesRow ⟨l.toArray⟩ cp).size, (bytesRow ⟨l.toArray⟩ cp).size + 1))).drew.drew) w.heap.size oc ∧ World.cell? ((w5.alloc (.cells (bytesRow ⟨l.toArray⟩ cp) 5 ((bytesRow ⟨l.toArray⟩ cp).size, (bytesRow ⟨l.toArray⟩ cp).size + 1))).drew.drew) ⟨g, o + ys.length * 33, none⟩ = some (.string ⟨l.toArray⟩) ∧ World.rangeAt ((w5.alloc (.cells (bytesRow ⟨l.toArray⟩ cp) 5 ((bytesRow ⟨l.toArray⟩ cp).size, (bytesRow ⟨l.toArray⟩ cp).size + 1))).drew.drew) g (o + ys.length * 33 + 1) (idc x.b) from ⟨hV.b.ab (b7), (b7).at cX, fun j u hu => (b7).at (hXb j u hu)⟩)
        clear hK K
        (try simp only [Act.put, stA, st0, st1])))
      have R7 : RB ((w5.alloc (.cells (bytesRow ⟨l.toArray⟩ cp) 5 ((bytesRow ⟨l.toArray⟩ cp).size, (bytesRow ⟨l.toArray⟩ cp).size + 1))).drew.drew) 0 (some ⟨w5.heap.size, 0, none⟩) l := rb_row (c := cp) (by (repeat (first | exact new_plain wnA | with_reducible refine old_alloc ?_ | with_reducible refine old_drew ?_ | with_reducible refine old_set ?_ wnA | with_reducible refine old_ab (by assumption) ?_)))
      have s7 : w5.heap.size < (((w5.alloc (.cells (bytesRow ⟨l.toArray⟩ cp) 5 ((bytesRow ⟨l.toArray⟩ cp).size, (bytesRow ⟨l.toArray⟩ cp).size + 1))).drew.drew)).heap.size := by simp
      generalize ((w5.alloc (.cells (bytesRow ⟨l.toArray⟩ cp) 5 ((bytesRow ⟨l.toArray⟩ cp).size, (bytesRow ⟨l.toArray⟩ cp).size + 1))).drew.drew) = w7 at *
      refine r1A 8 (fun K hK => ?_)
      (go_simp
       (refine (text9_any (some ⟨w5.heap.size, 0, none⟩) l cp w7 R7 hcp hll).mono ?_; rintro e w8 ⟨A8, c8, he8, hv8, hb8⟩; obtain rfl : e = .returned (.agg #[.int .u8 2, .int .i64 0, .slice A8 l.length c8, .slice none 0 0]) := he8)
       (try go_wp2_with fail)
       (refine hK.out _ _ ?_ (fun hHeld => ?_)
        · (try dsimp only); exact (show VB w8 w.heap.size oc ∧ World.cell? w8 ⟨g, o + ys.length * 33, none⟩ = some (.string ⟨l.toArray⟩) ∧ World.rangeAt w8 g (o + ys.length * 33 + 1) (idc x.b) from ⟨hV.b.ab (b7.trans hb8), (b7.trans hb8).at cX, fun j u hu => (b7.trans hb8).at (hXb j u hu)⟩)
        clear hK K
        (try simp only [Act.put, stA, st0, st1])))
      have b8 := b7.trans hb8
      refine r1A 15 (fun K hK => ?_)
      (go_simp
       (refine (rnamed_any x.b hp w8).mono ?_; rintro e w9 ⟨A9, c9, he9, hv9, hb9⟩; obtain rfl : e = .returned (.agg #[.int .u8 2, .int .i64 0, .slice A9 32 c9, .slice none 0 0]) := by rw [← hp]; exact he9)
       (try go_wp2_with fail)
       (refine hK.out _ _ ?_ (fun hHeld => ?_)
        · (try dsimp only); exact (show VB w9 w.heap.size oc ∧ World.cell? w9 ⟨g, o + ys.length * 33, none⟩ = some (.string ⟨l.toArray⟩) ∧ World.rangeAt w9 g (o + ys.length * 33 + 1) (idc x.b) from ⟨hV.b.ab (b8.trans hb9), (b8.trans hb9).at cX, fun j u hu => (b8.trans hb9).at (hXb j u hu)⟩)
        clear hK K
        (try simp only [Act.put, stA, st0, st1])))
      have b9 := b8.trans hb9
      have s8 := hb8.size
      have s9 := hb9.size
      have hv8 := hv8.ab hb9
      clear b7 b8 hb8 hb9 R7
      have b10 : Ab w9 (w9.alloc (.cells #[.int .u8 2, .int .i64 0, .slice A8 l.length c8, .slice none 0 0, .int .u8 2, .int .i64 0, .slice A9 32 c9, .slice none 0 0] 88)) := abA
      refine r1A 16 (fun K hK => ?_)
      (go_simp
       (refine hK.out _ _ ?_ (fun hHeld => ?_)
        · (try dsimp only); exact (show VB (w9.alloc (.cells #[.int .u8 2, .int .i64 0, .slice A8 l.length c8, .slice none 0 0, .int .u8 2, .int .i64 0, .slice A9 32 c9, .slice none 0 0] 88)) w.heap.size oc ∧ World.cell? (w9.alloc (.cells #[.int .u8 2, .int .i64 0, .slice A8 l.length c8, .slice none 0 0, .int .u8 2, .int .i64 0, .slice A9 32 c9, .slice none 0 0] 88)) ⟨g, o + ys.length * 33, none⟩ = some (.string ⟨l.toArray⟩) ∧ World.rangeAt (w9.alloc (.cells #[.int .u8 2, .int .i64 0, .slice A8 l.length c8, .slice none 0 0, .int .u8 2, .int .i64 0, .slice A9 32 c9, .slice none 0 0] 88)) g (o + ys.length * 33 + 1) (idc x.b) from ⟨hV.b.ab (b9.trans b10), (b9.trans b10).at cX, fun j u hu => (b9.trans b10).at (hXb j u hu)⟩)
        clear hK K
        (try simp only [Act.put, stA, st0, st1])))
      have G10 : VB (w9.alloc (.cells #[.int .u8 2, .int .i64 0, .slice A8 l.length c8, .slice none 0 0, .int .u8 2, .int .i64 0, .slice A9 32 c9, .slice none 0 0] 88)) w9.heap.size (vcells [vmB A8 l c8, vmB A9 x.b c9]) := by
        have : VB (w9.alloc (.cells #[.int .u8 2, .int .i64 0, .slice A8 l.length c8, .slice none 0 0, .int .u8 2, .int .i64 0, .slice A9 32 c9, .slice none 0 0] 88)) w9.heap.size [.int .u8 2, .int .i64 0, .slice A8 l.length c8, .slice none 0 0, .int .u8 2, .int .i64 0, .slice A9 32 c9, .slice none 0 0] := VB.box (xs := #[.int .u8 2, .int .i64 0, .slice A8 l.length c8, .slice none 0 0, .int .u8 2, .int .i64 0, .slice A9 32 c9, .slice none 0 0]) (T := 88) (by (repeat (first | exact new_plain wnA | with_reducible refine old_alloc ?_ | with_reducible refine old_drew ?_ | with_reducible refine old_set ?_ wnA | with_reducible refine old_ab (by assumption) ?_)))
        show VB (w9.alloc (.cells #[.int .u8 2, .int .i64 0, .slice A8 l.length c8, .slice none 0 0, .int .u8 2, .int .i64 0, .slice A9 32 c9, .slice none 0 0] 88)) w9.heap.size [.int .u8 2, .int .i64 0, .slice A8 l.length c8, .slice none 0 0, .int .u8 2, .int .i64 0, .slice A9 x.b.length c9, .slice none 0 0]
        rw [hp]; exact this
      refine r1A 17 (fun K hK => ?_)
      (go_simp
       (refine (list_any (some ⟨w9.heap.size, 0, none⟩) 2 2 (w9.alloc (.cells #[.int .u8 2, .int .i64 0, .slice A8 l.length c8, .slice none 0 0, .int .u8 2, .int .i64 0, .slice A9 32 c9, .slice none 0 0] 88))).mono ?_; rintro e w11 ⟨rfl, hb11⟩)
       (try go_wp2_with fail)
       (refine hK.out _ _ ?_ (fun hHeld => ?_)
        · (try dsimp only); exact (show VB w11 w.heap.size oc ∧ World.cell? w11 ⟨g, o + ys.length * 33, none⟩ = some (.string ⟨l.toArray⟩) ∧ World.rangeAt w11 g (o + ys.length * 33 + 1) (idc x.b) from ⟨hV.b.ab (b9.trans (b10.trans hb11)), (b9.trans (b10.trans hb11)).at cX, fun j u hu => (b9.trans (b10.trans hb11)).at (hXb j u hu)⟩)
        clear hK K
        (try simp only [Act.put, stA, st0, st1])))
      have b11 := b10.trans hb11
      have G11 := G10.ab hb11
      have s11 : w9.heap.size < w11.heap.size := by have := hb11.size; simp at this; omega
      have hv8 := hv8.ab b11
      have hv9 := hv9.ab b11
      have b11' := b9.trans b11
      clear G10 hb11
      have b12 : Ab w11 (w11.alloc (.cells #[.int .u8 3, .int .i64 0, .slice none 0 0, .slice (some ⟨w9.heap.size, 0, none⟩) 2 2] 88)) := abA
      refine r1A 18 (fun K hK => ?_)
      (go_simp
       (refine hK.out _ _ ?_ (fun hHeld => ?_)
        · (try dsimp only); exact (show VB (w11.alloc (.cells #[.int .u8 3, .int .i64 0, .slice none 0 0, .slice (some ⟨w9.heap.size, 0, none⟩) 2 2] 88)) w.heap.size oc ∧ World.cell? (w11.alloc (.cells #[.int .u8 3, .int .i64 0, .slice none 0 0, .slice (some ⟨w9.heap.size, 0, none⟩) 2 2] 88)) ⟨g, o + ys.length * 33, none⟩ = some (.string ⟨l.toArray⟩) ∧ World.rangeAt (w11.alloc (.cells #[.int .u8 3, .int .i64 0, .slice none 0 0, .slice (some ⟨w9.heap.size, 0, none⟩) 2 2] 88)) g (o + ys.length * 33 + 1) (idc x.b) from ⟨hV.b.ab (b11'.trans b12), (b11'.trans b12).at cX, fun j u hu => (b11'.trans b12).at (hXb j u hu)⟩)
        clear hK K
        (try simp only [Act.put, stA, st0, st1])))
      have XV : VL 2 (w11.alloc (.cells #[.int .u8 3, .int .i64 0, .slice none 0 0, .slice (some ⟨w9.heap.size, 0, none⟩) 2 2] 88)) (fun g => w2.heap.size ≤ g ∧ B.map (·.block) ≠ some g) (vmL (some ⟨w9.heap.size, 0, none⟩) [Obj.B l, Obj.B x.b] 2) := by
        have hB : ∀ g', w5.heap.size ≤ g' → B.map (·.block) ≠ some g' := fun g' h e => by have := zB g' e; omega
        refine vl_list (d := 1) [vmB A8 l c8, vmB A9 x.b c9] (G11.ab b12) ⟨by omega, hB _ (by omega)⟩ (fun y hy => ?_) (Nat.le_refl _) (by simp)
        rcases List.mem_cons.1 hy with rfl | hy
        · exact (hv8.ab b12).mono fun g hg => ⟨by omega, hB g (by omega)⟩
        · obtain rfl : y = vmB A9 x.b c9 := by simpa using hy
          exact (hv9.ab b12).mono fun g hg => ⟨by omega, hB g (by omega)⟩
      have hV12 := hV.keep (b11'.trans b12)
      have zsz : w2.heap.size ≤ ((w11.alloc (.cells #[.int .u8 3, .int .i64 0, .slice none 0 0, .slice (some ⟨w9.heap.size, 0, none⟩) 2 2] 88))).heap.size := hV12.zz
      have hnew : ((w11.alloc (.cells #[.int .u8 3, .int .i64 0, .slice none 0 0, .slice (some ⟨w9.heap.size, 0, none⟩) 2 2] 88))).heap[w11.heap.size]? = some (.cells #[.int .u8 3, .int .i64 0, .slice none 0 0, .slice (some ⟨w9.heap.size, 0, none⟩) 2 2] 88 (0, 0)) := by (repeat (first | exact new_plain wnA | with_reducible refine old_alloc ?_ | with_reducible refine old_drew ?_ | with_reducible refine old_set ?_ wnA | with_reducible refine old_ab (by assumption) ?_))
      refine r1A 19 (fun K hK => ?_)
      (try simp only [Act.put, List.getElem_toArray, List.getElem_cons_succ, List.getElem_cons_zero, stA, st0, st1])
      refine if_go (by rfl) ?_
      refine wp_appVs (x := vmL (some ⟨w9.heap.size, 0, none⟩) [Obj.B l, Obj.B x.b] 2) _ _ rfl rfl rfl hV12.o zsz hnew XV (by omega) ?_
      intro g' c' w13 zs ez O13 hg13 hk13
      have B13 := hV12.b.grw hg13 (fun e => by have := zL w.heap.size e; omega)
      have Z13 := hV12.z.grw hg13 (fun e => by have := zL (w.heap.size + 1) e; omega)
      have Q13 := old_grown hg13 (fun e => by have := zL lb e.symm; omega) hV12.q
      have b13 : Ab w w13 := grown_ab hV12.ab hg13 (fun g e => by have := zL g e; omega)
      have z13 : w2.heap.size ≤ w13.heap.size := Nat.le_trans zsz hg13.size
      have hgr : w.heap.size ≤ w2.heap.size := by omega
      have v13 : Hid (zs.map VM.v = (es.take (ys.length + 1)).map EM.v) := by
        unfold Hid
        rw [ez.out, List.map_append, hV.v.out, HS.out, hxv.out]
        rfl
      have l13 : zs.length = ys.length + 1 := by rw [ez.out]; simp
      (refine hK.out _ _ ?_ (fun hHeld => ?_)
       · (try dsimp only); exact ⟨B13, b13.at cX0, fun j u hu => b13.at (hXb0 j u hu)⟩
       clear hK K
       (try simp only [Act.put, stA, st0, st1]))
      clear XV hV hV12 hnew G11 hg13 b12 b11 b11' ez hk13 hcv
      refine r1A 20 (fun K hK => ?_)
      (go_simp
       (refine hK.out _ _ ?_ (fun hHeld => ?_)
        · (try dsimp only); exact hHeld
        clear hK K
        (try simp only [Act.put, stA, st0, st1])))
      refine wpAnyH_done (by kernel_rfl) ?_ _
      go_wp2
      go_roundw
      case rel => exact ⟨ys.length + 1, some ⟨g', 0, none⟩, c', zs, by omega, rfl, by go_num, l13, ⟨b13, z13, v13, O13, Q13, B13, Z13⟩⟩
      case measure => simp [intOf] <;> omega
    · have hvs : ys.map VM.v = es.map EM.v := by rw [hV.v.out, List.take_of_length_le (by omega)]
      have hT : ¬ ((ys.length : Nat) : Int) < (es.length : Int) := by omega
      have O5 : OwnVs 3 lb w5 (some ⟨lb, 0, none⟩) 1 [vmN 2] := OwnVs.one (Nat.le_refl _) hV.q ((vl_N (by omega) (by omega)).le (by omega))
      have hx5 : VL 3 w5 (fun g => lb ≤ g ∧ (some (⟨lb, 0, none⟩ : Addr)).map (·.block) ≠ some g) (vmL B (ys.map VM.v) cb_) := (hV.o.list' (by omega)).mono fun g hg => ⟨by omega, fun e => by simp at e; omega⟩
      have Z5 := hV.z
      have b5 := hV.ab
      have z5 := hV.zz
      have hval : Hid (Obj.L [Obj.N 2, Obj.L (ys.map VM.v)] = Obj.L [Obj.N 2, Obj.L (es.map EM.v)]) := by unfold Hid; rw [hvs]
      clear hvs hV
      go_wp2_with fail
      refine (list_any B ys.length cb_ _).mono ?_
      rintro e w6 ⟨rfl, hb6⟩
      have b6 := b5.trans hb6
      have Z6 := Z5.ab hb6
      have O6 := O5.ab hb6
      have hx6 := hx5.ab hb6
      have z6 := hb6.size
      clear Z5 O5 hx5 b5
      go_wp2_with (first
        | ((at_builtin
            refine listAppVs (x := vmL B (ys.map VM.v) cb_) rfl _ _ rfl rfl rfl (O6.ab (w' := _) abA) (by simp; omega) (by rw [vmL_cells]; (repeat (first | exact new_plain wnA | with_reducible refine old_alloc ?_ | with_reducible refine old_drew ?_ | with_reducible refine old_set ?_ wnA | with_reducible refine old_ab (by assumption) ?_))) (hx6.ab abA) (by simp) ?_
            intro g4 c4 w7 zs hzs ho4 hg4 _
            have Z7 := (Z6.ab (w' := w6.alloc _) abA).grw hg4 (fun e => by simp at e; omega)
            have ab7 : Ab w w7 := grown_ab (Ab.trans b6 abA) hg4 (fun g e => by simp at e; omega)
            have hs7 := hg4.size)))
      refine (list_any (some ⟨g4, 0, none⟩) zs.length c4 _).mono ?_
      rintro e w8 ⟨rfl, hb8⟩
      have Z8 := Z7.ab hb8
      have O8 := ho4.ab hb8
      have b8 := ab7.trans hb8
      have z8 := hb8.size
      go_wp2_with (refine list_stV (o := ⟨none, _, _, _, _, _⟩) (us := [.int .u8 3, .int .i64 0, .slice none 0 0, .slice (some ⟨g4, 0, none⟩) zs.length c4]) _ infoVT rfl _ _ rfl rfl rfl Z8 rfl rfl rfl ?_; intro w9 h9)
      refine bodyPost_ret (res_V1 _ infoVT Tryz.underlying88 rfl Tryz.results52 _ rfl h9.v rfl) rfl ?_
      have O9 : OwnVs 3 lb w9 (some ⟨g4, 0, none⟩) c4 zs := O8.keep (fun g hg _ => h9.blk g (by omega))
      refine ⟨vmL (some ⟨g4, 0, none⟩) (zs.map VM.v) c4, ?_, Lib.hid (by rw [hzs.out]; exact hval.out), (O9.list (by rw [hzs.out]; simp)).le (by omega), h9.ab w b8 (by omega)⟩
      simp [VM.val, VM.cells, vmL]
theorem vmB_cells (A : Option Addr) {l : List UInt8} (c : Nat) (h : l.length = 32) : (vmB A l c).cells.toArray = #[.int .u8 2, .int .i64 0, .slice A 32 c, .slice none 0 0] := by simp [vmB, VM.cells, h]
set_option maxRecDepth 100000 in
set_option maxHeartbeats 4000000 in
theorem rvalue_3 (A : Option Addr) (t : List UInt8) (c : Nat) (E : Option Addr) (es : List EM) (d : Nat) (m : CM) (w : World) (h12 : m.ps.length ≤ 1000) (hnl : m.note.size ≤ 1000000) (h : OL w ⟨3, A, t, c, E, es, d, m⟩) :
    Calls Tryz.prog 52 #[.agg (OM.cells ⟨3, A, t, c, E, es, d, m⟩).toArray] w (RetVal w (Obj.L [Obj.N 3, Obj.B m.t, Obj.L (m.ps.map Obj.B), Obj.B m.note.data.toList, Obj.N m.tick])) := by
  have hr := Lib.hid h.m.r
  have hl := Lib.hid h.m.l
  have hmt := h.m.t
  have hk0 := h.m.k0
  have hk1 := h.m.k1
  obtain ⟨e35, e36, e37⟩ := cells_o ⟨3, A, t, c, E, es, d, m⟩ h.m.t
  have HT := Lib.hid (fun (w' : World) (k : VB w' w.heap.size (OM.cells ⟨3, A, t, c, E, es, d, m⟩)) => cells_t m h.m.t (range_m k))
  clear h
  go_enter Tryz.func52, Tryz.ntmps52
  have V0 : VB ((w.alloc (.cells (OM.cells ⟨3, A, t, c, E, es, d, m⟩).toArray 32)).alloc (.cells #[.int .u8 0, .int .i64 0, .slice none 0 0, .slice none 0 0] 88)) w.heap.size (OM.cells ⟨3, A, t, c, E, es, d, m⟩) := VB.box (xs := (OM.cells ⟨3, A, t, c, E, es, d, m⟩).toArray) (T := 32) (by (repeat (first | exact new_plain wnA | with_reducible refine old_alloc ?_ | with_reducible refine old_drew ?_ | with_reducible refine old_set ?_ wnA | with_reducible refine old_ab (by assumption) ?_)))
  have Z0 : VB ((w.alloc (.cells (OM.cells ⟨3, A, t, c, E, es, d, m⟩).toArray 32)).alloc (.cells #[.int .u8 0, .int .i64 0, .slice none 0 0, .slice none 0 0] 88)) (w.heap.size + 1) VM.zero.cells := VB.box (xs := #[.int .u8 0, .int .i64 0, .slice none 0 0, .slice none 0 0]) (T := 88) (by (repeat (first | exact new_plain wnA | with_reducible refine old_alloc ?_ | with_reducible refine old_drew ?_ | with_reducible refine old_set ?_ wnA | with_reducible refine old_ab (by assumption) ?_)))
  have b0 : Ab w ((w.alloc (.cells (OM.cells ⟨3, A, t, c, E, es, d, m⟩).toArray 32)).alloc (.cells #[.int .u8 0, .int .i64 0, .slice none 0 0, .slice none 0 0] 88)) := abA
  go_upto_region 1 with fail
  have z0 : w.heap.size + 1 < (((w.alloc (.cells (OM.cells ⟨3, A, t, c, E, es, d, m⟩).toArray 32)).alloc (.cells #[.int .u8 0, .int .i64 0, .slice none 0 0, .slice none 0 0] 88))).heap.size := by simp
  have e0 : (OM.cells ⟨3, A, t, c, E, es, d, m⟩)[0]? = some (.int .u8 3) := rfl
  have e1 : (OM.cells ⟨3, A, t, c, E, es, d, m⟩)[1]? = some (.slice A t.length c) := rfl
  have e2 : (OM.cells ⟨3, A, t, c, E, es, d, m⟩)[2]? = some (.slice E es.length d) := rfl
  generalize ((w.alloc (.cells (OM.cells ⟨3, A, t, c, E, es, d, m⟩).toArray 32)).alloc (.cells #[.int .u8 0, .int .i64 0, .slice none 0 0, .slice none 0 0] 88)) = w0 at *
  generalize OM.cells ⟨3, A, t, c, E, es, d, m⟩ = oc at *
  have c0 := V0.at 0 e0
  go_wp2_with fail
  refine (number_any 3 _).mono ?_
  rintro e w1 ⟨he, hb1⟩
  obtain rfl : e = .returned (.agg #[.int .u8 1, .int .i64 3, .slice none 0 0, .slice none 0 0]) := he
  have z1 := hb1.size
  have V1 := V0.ab hb1
  have Z1 := Z0.ab hb1
  have b1 := b0.trans hb1
  clear V0 Z0 b0 hb1 c0
  go_upto_region 2 with fail
  have hb2 : Ab w1 (w1.alloc (.cells #[.int .u8 1, .int .i64 3, .slice none 0 0, .slice none 0 0] 88)) := abA
  have z2 : w1.heap.size < ((w1.alloc (.cells #[.int .u8 1, .int .i64 3, .slice none 0 0, .slice none 0 0] 88))).heap.size := by simp
  have G2 : ((w1.alloc (.cells #[.int .u8 1, .int .i64 3, .slice none 0 0, .slice none 0 0] 88))).heap[w1.heap.size]? = some (.cells (vmN 3).cells.toArray 88 (0, 0)) := by
    show ((w1.alloc (.cells #[.int .u8 1, .int .i64 3, .slice none 0 0, .slice none 0 0] 88))).heap[w1.heap.size]? = some (.cells #[.int .u8 1, .int .i64 3, .slice none 0 0, .slice none 0 0] 88 (0, 0))
    (repeat (first | exact new_plain wnA | with_reducible refine old_alloc ?_ | with_reducible refine old_drew ?_ | with_reducible refine old_set ?_ wnA | with_reducible refine old_ab (by assumption) ?_))
  have G2 := G2
  have O2 : OwnVs 1 w1.heap.size (w1.alloc (.cells #[.int .u8 1, .int .i64 3, .slice none 0 0, .slice none 0 0] 88)) (some ⟨w1.heap.size, 0, none⟩) 1 [vmN 3] := OwnVs.one (Nat.le_refl _) G2 ((vl_N (by omega) (by omega)).le (by omega))
  have V2 := V1.ab hb2
  have Z2 := Z1.ab hb2
  have b2 := b1.trans hb2
  clear V1 Z1 b1 hb2 O2
  generalize (w1.alloc (.cells #[.int .u8 1, .int .i64 3, .slice none 0 0, .slice none 0 0] 88)) = w2 at *
  generalize w1.heap.size = lb at *
  have c0 := V2.at 0 e0
  obtain ⟨t', A', ps, c', note, tick⟩ := m
  simp only at e35 e36 e37 hr hl hmt hk0 hk1 h12 hnl HT ⊢
  obtain ⟨nl, rfl⟩ : ∃ nl : List UInt8, note = ⟨nl.toArray⟩ := ⟨note.data.toList, by simp⟩
  have hnl : nl.length ≤ 1000000 := hnl
  have e36 : oc[36]? = some (.string ⟨nl.toArray⟩) := e36
  have c35 := V2.at 35 e35
  go_wp2_with fail
  go_loopw [6, 7] (fun s i w' => ∃ (k : Nat) (B : Option Addr) (cb_ : Nat) (ys : List VM), k ≤ ps.length ∧ s = .slice B k cb_ ∧ i = .int .i64 k ∧ ys.length = k ∧ Vr 1 w w2.heap.size w.heap.size lb oc (vmN 3).cells ((ps.take k).map Obj.B) B cb_ ys w') (fun _ i _ => ps.length - (intOf i).toNat)
  case atStart => exact ⟨0, none, 0, [], Nat.zero_le _, rfl, rfl, rfl, ⟨b2, Nat.le_refl _, Lib.hid rfl, OwnVs.nil, G2, V2, Z2⟩⟩
  case round =>
    obtain ⟨k, B, cb_, ys, hk, rfl, rfl, hyl, hV⟩ := hrel
    have hyl' : k = ys.length := hyl.symm
    subst hyl'
    clear hyl c35
    rename World => w5
    have c35 := hV.b.at 35 e35
    have z5 := hV.zz
    by_cases hlt : ys.length < ps.length
    · have hT : (ys.length : Int) < ps.length := by omega
      obtain ⟨g, o, rfl, hR⟩ := hr.out (by simp; omega)
      have hp := hl.out ps[ys.length] (List.getElem_mem hlt)
      have hR1 := hR ys.length (by simpa using hlt)
      rw [List.getElem_map] at hR1
      have hR5 : w5.rangeAt g (o + ys.length * 32) (idc ps[ys.length]) := fun j u hu => hV.ab.at (hR1 j u hu)
      have HS : Hid ((ps.take (ys.length + 1)).map Obj.B = (ps.take ys.length).map Obj.B ++ [Obj.B ps[ys.length]]) := by
        unfold Hid
        rw [List.take_add_one, List.getElem?_eq_getElem hlt]
        simp only [Option.toList_some, List.map_append, List.map_cons, List.map_nil]
      have hpl := idc_len hp
      generalize ps[ys.length] = x at *
      clear hR hR1
      have zB : ∀ g', B.map (·.block) = some g' → g' < w5.heap.size := fun g' e => hV.o.lt e
      have zL : ∀ g', B.map (·.block) = some g' → w2.heap.size ≤ g' := fun g' e => hV.o.low e
      go_wp2_with (first | (refine list_ldM (o := ⟨some 29, _, _, _, _, _⟩) _ (o + ys.length * 32) (idc x) hR5 infoIdT Tryz.underlying27 rfl (by kernel_rfl) _ rfl rfl hpl ?_))
      refine (rnamed_any x hp _).mono ?_
      rintro e w6 ⟨A6, c6, he, hv6, hb6⟩
      obtain rfl : e = .returned (.agg #[.int .u8 2, .int .i64 0, .slice A6 32 c6, .slice none 0 0]) := by rw [← hp]; exact he
      have hV6 := hV.keep hb6
      have z6 := hV6.zz
      have hx6 : VL 1 w6 (fun g => w2.heap.size ≤ g ∧ B.map (·.block) ≠ some g) (vmB A6 x c6) := hv6.mono fun g hg => ⟨by omega, fun e => by have := zB g e; omega⟩
      have HV := Lib.hid hV.v.out
      clear hv6 hR5 hV he
      go_wp2_with (first
        | ((at_builtin
            refine listAppVs (x := vmB A6 x c6) rfl _ _ rfl rfl rfl (hV6.o.ab (w' := _) abA) (by simp; omega) (by rw [vmB_cells A6 c6 hp]; (repeat (first | exact new_plain wnA | with_reducible refine old_alloc ?_ | with_reducible refine old_drew ?_ | with_reducible refine old_set ?_ wnA | with_reducible refine old_ab (by assumption) ?_))) (hx6.ab abA) (by omega) ?_
            intro g4 c4 w7 zs hzs ho7 hg7 _
            have l7 : zs.length = ys.length + 1 := by rw [hzs.out]; simp
            have b7 : Ab w w7 := grown_ab (Ab.trans hV6.ab abA) hg7 (fun g e => by have := zL g e; omega)
            have q7 := old_grown hg7 (fun e => by have := zL lb e.symm; omega) (old_alloc hV6.q)
            have o7 := (hV6.b.ab (w' := w6.alloc _) abA).grw hg7 (fun e => by have := zL w.heap.size e; omega)
            have y7 := (hV6.z.ab (w' := w6.alloc _) abA).grw hg7 (fun e => by have := zL (w.heap.size + 1) e; omega)
            have s7 : w2.heap.size ≤ w7.heap.size := by have := hg7.size; simp at this; omega
            have v7 : Hid (zs.map VM.v = (ps.take (ys.length + 1)).map Obj.B) := by
              unfold Hid
              rw [hzs.out, List.map_append, HV.out, HS.out]
              rfl
            clear hx6 hV6 hzs hg7)))
      go_roundw
      case rel => exact ⟨ys.length + 1, some ⟨g4, 0, none⟩, c4, zs, by omega, by first | rfl | rw [l7], by go_num, l7, ⟨b7, s7, v7, ho7, q7, o7, y7⟩⟩
      case measure => simp [intOf] <;> omega
    · have hT : ¬ ((ys.length : Nat) : Int) < (ps.length : Int) := by omega
      have HVS := Lib.hid (show ys.map VM.v = ps.map Obj.B by rw [hV.v.out, List.take_of_length_le (by omega)])
      have s0 : w5.drew.heap.size = w5.heap.size := rfl
      go_upto_region 8 with fail
      refine wp_region_held_drew (by kernel_rfl) (S := fun w' => VB w' w.heap.size oc) ?_ (fun hHeld => ?_)
      · exact VB.ab hV.b abA
      (refine rtA 0 ?_ ?_
       (try simp only [Act.put, stA, st0, st1]))
      (refine rtA 1 ?_ ?_
       (try simp only [Act.put, stA, st0, st1]))
      (refine rtA 2 ?_ ?_
       (try simp only [Act.put, stA, st0, st1]))
      (try simp only [Act.put, List.getElem_toArray, List.getElem_cons_succ, List.getElem_cons_zero, stA, st0, st1])
      (refine rtL 3 (idc t') (3) (fun w hSw => HT.out _ hSw) Tryz.underlying27 ?_ (hz := by rw [infoIdT, idc_len (by assumption)])
       (try simp only [Act.put, stA, st0, st1]))
      (refine rtA 5 ?_ ?_
       (try simp only [Act.put, stA, st0, st1]))
      (refine rtA 7 ?_ ?_
       (try simp only [Act.put, stA, st0, st1]))
      (refine rtA 8 ?_ ?_
       (try simp only [Act.put, stA, st0, st1]))
      (refine rtA 9 (.string ⟨nl.toArray⟩) ?_ (hy := by intro w hSw; have z0 := hSw.at 36 e36; go_simp; (try with_reducible rfl)); (try simp only [Act.put, stA, st0, st1]))
      (refine rtA 12 ?_ ?_
       (try simp only [Act.put, stA, st0, st1]))
      (refine rtA 13 ?_ ?_
       (try simp only [Act.put, stA, st0, st1]))
      (refine rtA 14 (.int .i64 tick) ?_ (hy := by intro w hSw; have z0 := hSw.at 37 e37; go_simp; (try with_reducible rfl)); (try simp only [Act.put, stA, st0, st1]))
      (refine wpAnyH_ready (rs := [4, 10]) (by kernel_rfl) (by simp) ?_)
      refine AllReadyH.cons rfl (fun K hK => ?_) (AllReadyH.cons rfl (fun K hK => ?_) AllReadyH.nil)
      · (go_simp
         (refine (rnamed_any t' hmt _).mono ?_; rintro e wx4 ⟨A4, c4, he, hv4, hb4⟩; obtain rfl : e = .returned (.agg #[.int .u8 2, .int .i64 0, .slice A4 32 c4, .slice none 0 0]) := by rw [← hmt]; exact he)
         (try go_wp2_with fail)
         (refine hK.out _ _ ?_ (fun hHeld => ?_)
          · (try dsimp only); exact hV.b.ab (Ab.trans (show Ab w5 _ from abA) hb4)
          clear hK K
          (try simp only [Act.put, stA, st0, st1])))
        have B4 : Ab w5 wx4 := (Ab.trans (show Ab w5 _ from abA) hb4)
        have s4 := hb4.size
        try simp at s4
        (refine wpAnyH_ready (rs := [6, 10]) (by kernel_rfl) (by simp) ?_)
        refine AllReadyH.cons rfl (fun K hK => ?_) (AllReadyH.cons rfl (fun K hK => ?_) AllReadyH.nil)
        · (go_simp
           (refine (list_any B ys.length cb_ _).mono ?_; rintro e wx6 ⟨rfl, hb6⟩)
           (try go_wp2_with fail)
           (refine hK.out _ _ ?_ (fun hHeld => ?_)
            · (try dsimp only); exact hV.b.ab (B4.trans hb6)
            clear hK K
            (try simp only [Act.put, stA, st0, st1])))
          have B6 : Ab w5 wx6 := (B4.trans hb6)
          have s6 := hb6.size
          have hv4 := hv4.ab hb6
          have hcv := conv_bytes wx6 nl
          have hge := grownCap_ge wx6 nl.length 0 5
          generalize grownCap wx6 nl.length 0 5 = cp at *
          have hcp : nl.length ≤ cp := by omega
          have bc : Ab wx6 ((wx6.alloc (.cells (bytesRow ⟨nl.toArray⟩ cp) 5 ((bytesRow ⟨nl.toArray⟩ cp).size, (bytesRow ⟨nl.toArray⟩ cp).size + 1))).drew) := abA
          refine r1A 10 (fun K hK => ?_)
          (go_simp
           (refine hK.out _ _ ?_ (fun hHeld => ?_)
            · (try dsimp only); exact (show VB ((wx6.alloc (.cells (bytesRow ⟨nl.toArray⟩ cp) 5 ((bytesRow ⟨nl.toArray⟩ cp).size, (bytesRow ⟨nl.toArray⟩ cp).size + 1))).drew) w.heap.size oc from hV.b.ab (B6.trans bc))
            clear hK K
            (try simp only [Act.put, stA, st0, st1])))
          have R7 : RB ((wx6.alloc (.cells (bytesRow ⟨nl.toArray⟩ cp) 5 ((bytesRow ⟨nl.toArray⟩ cp).size, (bytesRow ⟨nl.toArray⟩ cp).size + 1))).drew) 0 (some ⟨wx6.heap.size, 0, none⟩) nl := rb_row (c := cp) (by (repeat (first | exact new_plain wnA | with_reducible refine old_alloc ?_ | with_reducible refine old_drew ?_ | with_reducible refine old_set ?_ wnA | with_reducible refine old_ab (by assumption) ?_)))
          have sc : wx6.heap.size < (((wx6.alloc (.cells (bytesRow ⟨nl.toArray⟩ cp) 5 ((bytesRow ⟨nl.toArray⟩ cp).size, (bytesRow ⟨nl.toArray⟩ cp).size + 1))).drew)).heap.size := by simp
          have hv4 := hv4.ab bc
          have bC := (B6.trans bc)
          generalize ((wx6.alloc (.cells (bytesRow ⟨nl.toArray⟩ cp) 5 ((bytesRow ⟨nl.toArray⟩ cp).size, (bytesRow ⟨nl.toArray⟩ cp).size + 1))).drew) = wc at *
          clear hcv hge bc
          have hsb : ∃ sb, sb = wx6.heap.size := ⟨_, rfl⟩
          obtain ⟨sb, hsb⟩ := hsb
          refine r1A 11 (fun K hK => ?_)
          (go_simp
           (refine (text9_any (some ⟨wx6.heap.size, 0, none⟩) nl cp _ R7 hcp hnl).mono ?_; rintro e wx11 ⟨A11, c11, he, hv11, hb11⟩; obtain rfl : e = .returned (.agg #[.int .u8 2, .int .i64 0, .slice A11 nl.length c11, .slice none 0 0]) := he)
           (try go_wp2_with fail)
           (refine hK.out _ _ ?_ (fun hHeld => ?_)
            · (try dsimp only); exact hV.b.ab (bC.trans hb11)
            clear hK K
            (try simp only [Act.put, stA, st0, st1])))
          have B11 : Ab w5 wx11 := (bC.trans hb11)
          have s11 := hb11.size
          have hv4 := hv4.ab hb11
          have R7 := R7.ab hb11
          refine r1A 15 (fun K hK => ?_)
          (go_simp
           (refine (number_any tick _).mono ?_; rintro e wx15 ⟨he, hb15⟩; obtain rfl : e = .returned (.agg #[.int .u8 1, .int .i64 tick, .slice none 0 0, .slice none 0 0]) := he)
           (try go_wp2_with fail)
           (refine hK.out _ _ ?_ (fun hHeld => ?_)
            · (try dsimp only); exact hV.b.ab (B11.trans hb15)
            clear hK K
            (try simp only [Act.put, stA, st0, st1])))
          have B15 : Ab w5 wx15 := (B11.trans hb15)
          have s15 := hb15.size
          have hv4 := hv4.ab hb15
          have R7 := R7.ab hb15
          have hv11 := hv11.ab hb15
          have b16 : Ab wx15 (wx15.alloc (.cells #[.int .u8 2, .int .i64 0, .slice A4 32 c4, .slice none 0 0, .int .u8 3, .int .i64 0, .slice none 0 0, .slice B ys.length cb_, .int .u8 2, .int .i64 0, .slice A11 nl.length c11, .slice none 0 0, .int .u8 1, .int .i64 tick, .slice none 0 0, .slice none 0 0] 88)) := abA
          have c16 := B15.trans b16
          refine r1A 16 (fun K hK => ?_)
          (try simp only [Act.put, List.getElem_toArray, List.getElem_cons_succ, List.getElem_cons_zero, stA, st0, st1])
          refine if_go (by rfl) ?_
          refine wp_run (.slice (some ⟨wx15.heap.size, 0, none⟩) 4 4) (wx15.alloc (.cells #[.int .u8 2, .int .i64 0, .slice A4 32 c4, .slice none 0 0, .int .u8 3, .int .i64 0, .slice none 0 0, .slice B ys.length cb_, .int .u8 2, .int .i64 0, .slice A11 nl.length c11, .slice none 0 0, .int .u8 1, .int .i64 tick, .slice none 0 0, .slice none 0 0] 88)) (by kernel_rfl) ?_
          (refine hK.out _ _ ?_ (fun hHeld => ?_)
           · (try dsimp only); exact (show VB (wx15.alloc (.cells #[.int .u8 2, .int .i64 0, .slice A4 32 c4, .slice none 0 0, .int .u8 3, .int .i64 0, .slice none 0 0, .slice B ys.length cb_, .int .u8 2, .int .i64 0, .slice A11 nl.length c11, .slice none 0 0, .int .u8 1, .int .i64 tick, .slice none 0 0, .slice none 0 0] 88)) w.heap.size oc from hV.b.ab c16)
           clear hK K
           (try simp only [Act.put, stA, st0, st1]))
          have G16 : VB (wx15.alloc (.cells #[.int .u8 2, .int .i64 0, .slice A4 32 c4, .slice none 0 0, .int .u8 3, .int .i64 0, .slice none 0 0, .slice B ys.length cb_, .int .u8 2, .int .i64 0, .slice A11 nl.length c11, .slice none 0 0, .int .u8 1, .int .i64 tick, .slice none 0 0, .slice none 0 0] 88)) wx15.heap.size (vcells [vmB A4 t' c4, vmL B (ys.map VM.v) cb_, vmB A11 nl c11, vmN tick]) := by
            have : VB (wx15.alloc (.cells #[.int .u8 2, .int .i64 0, .slice A4 32 c4, .slice none 0 0, .int .u8 3, .int .i64 0, .slice none 0 0, .slice B ys.length cb_, .int .u8 2, .int .i64 0, .slice A11 nl.length c11, .slice none 0 0, .int .u8 1, .int .i64 tick, .slice none 0 0, .slice none 0 0] 88)) wx15.heap.size [.int .u8 2, .int .i64 0, .slice A4 32 c4, .slice none 0 0, .int .u8 3, .int .i64 0, .slice none 0 0, .slice B ys.length cb_, .int .u8 2, .int .i64 0, .slice A11 nl.length c11, .slice none 0 0, .int .u8 1, .int .i64 tick, .slice none 0 0, .slice none 0 0] := VB.box (xs := #[.int .u8 2, .int .i64 0, .slice A4 32 c4, .slice none 0 0, .int .u8 3, .int .i64 0, .slice none 0 0, .slice B ys.length cb_, .int .u8 2, .int .i64 0, .slice A11 nl.length c11, .slice none 0 0, .int .u8 1, .int .i64 tick, .slice none 0 0, .slice none 0 0]) (T := 88) (by (repeat (first | exact new_plain wnA | with_reducible refine old_alloc ?_ | with_reducible refine old_drew ?_ | with_reducible refine old_set ?_ wnA | with_reducible refine old_ab (by assumption) ?_)))
            show VB (wx15.alloc (.cells #[.int .u8 2, .int .i64 0, .slice A4 32 c4, .slice none 0 0, .int .u8 3, .int .i64 0, .slice none 0 0, .slice B ys.length cb_, .int .u8 2, .int .i64 0, .slice A11 nl.length c11, .slice none 0 0, .int .u8 1, .int .i64 tick, .slice none 0 0, .slice none 0 0] 88)) wx15.heap.size [.int .u8 2, .int .i64 0, .slice A4 t'.length c4, .slice none 0 0, .int .u8 3, .int .i64 0, .slice none 0 0, .slice B (ys.map VM.v).length cb_, .int .u8 2, .int .i64 0, .slice A11 nl.length c11, .slice none 0 0, .int .u8 1, .int .i64 tick, .slice none 0 0, .slice none 0 0]
            rw [List.length_map, hmt]; exact this
          have hV16 := hV.keep c16
          have O16 : OwnVs 2 lb (wx15.alloc (.cells #[.int .u8 2, .int .i64 0, .slice A4 32 c4, .slice none 0 0, .int .u8 3, .int .i64 0, .slice none 0 0, .slice B ys.length cb_, .int .u8 2, .int .i64 0, .slice A11 nl.length c11, .slice none 0 0, .int .u8 1, .int .i64 tick, .slice none 0 0, .slice none 0 0] 88)) (some ⟨lb, 0, none⟩) 1 [vmN 3] := OwnVs.one (Nat.le_refl _) hV16.q ((vl_N (by omega) (by omega)).le (by omega))
          have hx16 : ∀ x ∈ [vmB A4 t' c4, vmL B (ys.map VM.v) cb_, vmB A11 nl c11, vmN tick], VL 2 (wx15.alloc (.cells #[.int .u8 2, .int .i64 0, .slice A4 32 c4, .slice none 0 0, .int .u8 3, .int .i64 0, .slice none 0 0, .slice B ys.length cb_, .int .u8 2, .int .i64 0, .slice A11 nl.length c11, .slice none 0 0, .int .u8 1, .int .i64 tick, .slice none 0 0, .slice none 0 0] 88)) (fun g => lb ≤ g ∧ (some (⟨lb, 0, none⟩ : Addr)).map (·.block) ≠ some g) x := by
            have key : ∀ (S : Nat → Prop) (x : VM), (∀ g, S g → lb < g) → VL 2 (wx15.alloc (.cells #[.int .u8 2, .int .i64 0, .slice A4 32 c4, .slice none 0 0, .int .u8 3, .int .i64 0, .slice none 0 0, .slice B ys.length cb_, .int .u8 2, .int .i64 0, .slice A11 nl.length c11, .slice none 0 0, .int .u8 1, .int .i64 tick, .slice none 0 0, .slice none 0 0] 88)) S x → VL 2 (wx15.alloc (.cells #[.int .u8 2, .int .i64 0, .slice A4 32 c4, .slice none 0 0, .int .u8 3, .int .i64 0, .slice none 0 0, .slice B ys.length cb_, .int .u8 2, .int .i64 0, .slice A11 nl.length c11, .slice none 0 0, .int .u8 1, .int .i64 tick, .slice none 0 0, .slice none 0 0] 88)) (fun g => lb ≤ g ∧ (some (⟨lb, 0, none⟩ : Addr)).map (·.block) ≠ some g) x := fun S x hS h => h.mono fun g hg => ⟨by have := hS g hg; omega, fun e => by have := hS g hg; simp at e; omega⟩
            intro x hx
            simp only [List.mem_cons, List.not_mem_nil, or_false] at hx
            rcases hx with rfl | rfl | rfl | rfl
            · exact key _ _ (fun g hg => by omega) ((hv4.ab b16).le (by omega))
            · exact key _ _ (fun g hg => by omega) (hV16.o.list' (by omega))
            · exact key _ _ (fun g hg => by omega) ((hv11.ab b16).le (by omega))
            · exact (vl_N hk0 hk1).le (by omega)
          refine r1A 17 (fun K hK => ?_)
          (try simp only [Act.put, List.getElem_toArray, List.getElem_cons_succ, List.getElem_cons_zero, stA, st0, st1])
          refine if_go (by rfl) ?_
          refine wp_appVm (xs := [vmB A4 t' c4, vmL B (ys.map VM.v) cb_, vmB A11 nl c11, vmN tick]) _ _ rfl rfl rfl rfl O16 (by have := hV16.zz; omega) G16 hx16 (by simp) (by simp) (by simp) ?_
          intro g4 c4' w17 zs hzs ho17 hg17 _
          have Z17 := hV16.z.grw hg17 (fun e => by simp at e; omega)
          have B17 := hV16.b.grw hg17 (fun e => by simp at e; omega)
          have ab17 : Ab w w17 := grown_ab hV16.ab hg17 (fun g e => by simp at e; omega)
          have hs17 := hg17.size
          (refine hK.out _ _ ?_ (fun hHeld => ?_)
           · (try dsimp only); exact B17
           clear hK K
           (try simp only [Act.put, stA, st0, st1]))
          refine r1A 18 (fun K hK => ?_)
          (go_simp
           (refine hK.out _ _ ?_ (fun hHeld => ?_)
            · (try dsimp only); exact hHeld
            clear hK K
            (try simp only [Act.put, stA, st0, st1])))
          refine wpAnyH_done (by kernel_rfl) ?_ _
          have hzl : zs.length ≤ 100 := by rw [hzs.out]; simp
          have hzv : Hid (Obj.L (zs.map VM.v) = Obj.L [Obj.N 3, Obj.B t', Obj.L (ps.map Obj.B), Obj.B nl, Obj.N tick]) := by
            unfold Hid
            rw [hzs.out, ← HVS.out]
            rfl
          clear hx16 G16 hV16 O16 c16 b16 hV hzs
          go_wp2_with fail
          refine (list_any (some ⟨g4, 0, none⟩) zs.length c4' _).mono ?_
          rintro e w18 ⟨rfl, hb18⟩
          have Z18 := Z17.ab hb18
          have O18 := ho17.ab hb18
          have b18 := ab17.trans hb18
          have z18 := hb18.size
          go_wp2_with (refine list_stV (o := ⟨none, _, _, _, _, _⟩) (us := [.int .u8 3, .int .i64 0, .slice none 0 0, .slice (some ⟨g4, 0, none⟩) zs.length c4']) _ infoVT rfl _ _ rfl rfl rfl Z18 rfl rfl rfl ?_; intro w19 h19)
          refine bodyPost_ret (res_V1 _ infoVT Tryz.underlying88 rfl Tryz.results52 _ rfl h19.v rfl) rfl ?_
          have O19 : OwnVs 2 lb w19 (some ⟨g4, 0, none⟩) c4' zs := O18.keep (fun g hg _ => h19.blk g (by omega))
          refine ⟨vmL (some ⟨g4, 0, none⟩) (zs.map VM.v) c4', ?_, hzv, (O19.list (by omega)).le (by omega), h19.ab w b18 (by omega)⟩
          simp [VM.val, VM.cells, vmL]
        · have hcv := conv_bytes wx4 nl
          have hge := grownCap_ge wx4 nl.length 0 5
          generalize grownCap wx4 nl.length 0 5 = cp at *
          have hcp : nl.length ≤ cp := by omega
          have bc : Ab wx4 ((wx4.alloc (.cells (bytesRow ⟨nl.toArray⟩ cp) 5 ((bytesRow ⟨nl.toArray⟩ cp).size, (bytesRow ⟨nl.toArray⟩ cp).size + 1))).drew) := abA
          (go_simp
           (refine hK.out _ _ ?_ (fun hHeld => ?_)
            · (try dsimp only); exact (show VB ((wx4.alloc (.cells (bytesRow ⟨nl.toArray⟩ cp) 5 ((bytesRow ⟨nl.toArray⟩ cp).size, (bytesRow ⟨nl.toArray⟩ cp).size + 1))).drew) w.heap.size oc from hV.b.ab (B4.trans bc))
            clear hK K
            (try simp only [Act.put, stA, st0, st1])))
          have R7 : RB ((wx4.alloc (.cells (bytesRow ⟨nl.toArray⟩ cp) 5 ((bytesRow ⟨nl.toArray⟩ cp).size, (bytesRow ⟨nl.toArray⟩ cp).size + 1))).drew) 0 (some ⟨wx4.heap.size, 0, none⟩) nl := rb_row (c := cp) (by (repeat (first | exact new_plain wnA | with_reducible refine old_alloc ?_ | with_reducible refine old_drew ?_ | with_reducible refine old_set ?_ wnA | with_reducible refine old_ab (by assumption) ?_)))
          have sc : wx4.heap.size < (((wx4.alloc (.cells (bytesRow ⟨nl.toArray⟩ cp) 5 ((bytesRow ⟨nl.toArray⟩ cp).size, (bytesRow ⟨nl.toArray⟩ cp).size + 1))).drew)).heap.size := by simp
          have hv4 := hv4.ab bc
          have bC := (B4.trans bc)
          generalize ((wx4.alloc (.cells (bytesRow ⟨nl.toArray⟩ cp) 5 ((bytesRow ⟨nl.toArray⟩ cp).size, (bytesRow ⟨nl.toArray⟩ cp).size + 1))).drew) = wc at *
          clear hcv hge bc
          have hsb : ∃ sb, sb = wx4.heap.size := ⟨_, rfl⟩
          obtain ⟨sb, hsb⟩ := hsb
          refine r1A 6 (fun K hK => ?_)
          (go_simp
           (refine (list_any B ys.length cb_ _).mono ?_; rintro e wx6 ⟨rfl, hb6⟩)
           (try go_wp2_with fail)
           (refine hK.out _ _ ?_ (fun hHeld => ?_)
            · (try dsimp only); exact hV.b.ab (bC.trans hb6)
            clear hK K
            (try simp only [Act.put, stA, st0, st1])))
          have B6 : Ab w5 wx6 := (bC.trans hb6)
          have s6 := hb6.size
          have hv4 := hv4.ab hb6
          have R7 := R7.ab hb6
          refine r1A 11 (fun K hK => ?_)
          (go_simp
           (refine (text9_any (some ⟨wx4.heap.size, 0, none⟩) nl cp _ R7 hcp hnl).mono ?_; rintro e wx11 ⟨A11, c11, he, hv11, hb11⟩; obtain rfl : e = .returned (.agg #[.int .u8 2, .int .i64 0, .slice A11 nl.length c11, .slice none 0 0]) := he)
           (try go_wp2_with fail)
           (refine hK.out _ _ ?_ (fun hHeld => ?_)
            · (try dsimp only); exact hV.b.ab (B6.trans hb11)
            clear hK K
            (try simp only [Act.put, stA, st0, st1])))
          have B11 : Ab w5 wx11 := (B6.trans hb11)
          have s11 := hb11.size
          have hv4 := hv4.ab hb11
          have R7 := R7.ab hb11
          refine r1A 15 (fun K hK => ?_)
          (go_simp
           (refine (number_any tick _).mono ?_; rintro e wx15 ⟨he, hb15⟩; obtain rfl : e = .returned (.agg #[.int .u8 1, .int .i64 tick, .slice none 0 0, .slice none 0 0]) := he)
           (try go_wp2_with fail)
           (refine hK.out _ _ ?_ (fun hHeld => ?_)
            · (try dsimp only); exact hV.b.ab (B11.trans hb15)
            clear hK K
            (try simp only [Act.put, stA, st0, st1])))
          have B15 : Ab w5 wx15 := (B11.trans hb15)
          have s15 := hb15.size
          have hv4 := hv4.ab hb15
          have R7 := R7.ab hb15
          have hv11 := hv11.ab hb15
          have b16 : Ab wx15 (wx15.alloc (.cells #[.int .u8 2, .int .i64 0, .slice A4 32 c4, .slice none 0 0, .int .u8 3, .int .i64 0, .slice none 0 0, .slice B ys.length cb_, .int .u8 2, .int .i64 0, .slice A11 nl.length c11, .slice none 0 0, .int .u8 1, .int .i64 tick, .slice none 0 0, .slice none 0 0] 88)) := abA
          have c16 := B15.trans b16
          refine r1A 16 (fun K hK => ?_)
          (try simp only [Act.put, List.getElem_toArray, List.getElem_cons_succ, List.getElem_cons_zero, stA, st0, st1])
          refine if_go (by rfl) ?_
          refine wp_run (.slice (some ⟨wx15.heap.size, 0, none⟩) 4 4) (wx15.alloc (.cells #[.int .u8 2, .int .i64 0, .slice A4 32 c4, .slice none 0 0, .int .u8 3, .int .i64 0, .slice none 0 0, .slice B ys.length cb_, .int .u8 2, .int .i64 0, .slice A11 nl.length c11, .slice none 0 0, .int .u8 1, .int .i64 tick, .slice none 0 0, .slice none 0 0] 88)) (by kernel_rfl) ?_
          (refine hK.out _ _ ?_ (fun hHeld => ?_)
           · (try dsimp only); exact (show VB (wx15.alloc (.cells #[.int .u8 2, .int .i64 0, .slice A4 32 c4, .slice none 0 0, .int .u8 3, .int .i64 0, .slice none 0 0, .slice B ys.length cb_, .int .u8 2, .int .i64 0, .slice A11 nl.length c11, .slice none 0 0, .int .u8 1, .int .i64 tick, .slice none 0 0, .slice none 0 0] 88)) w.heap.size oc from hV.b.ab c16)
           clear hK K
           (try simp only [Act.put, stA, st0, st1]))
          have G16 : VB (wx15.alloc (.cells #[.int .u8 2, .int .i64 0, .slice A4 32 c4, .slice none 0 0, .int .u8 3, .int .i64 0, .slice none 0 0, .slice B ys.length cb_, .int .u8 2, .int .i64 0, .slice A11 nl.length c11, .slice none 0 0, .int .u8 1, .int .i64 tick, .slice none 0 0, .slice none 0 0] 88)) wx15.heap.size (vcells [vmB A4 t' c4, vmL B (ys.map VM.v) cb_, vmB A11 nl c11, vmN tick]) := by
            have : VB (wx15.alloc (.cells #[.int .u8 2, .int .i64 0, .slice A4 32 c4, .slice none 0 0, .int .u8 3, .int .i64 0, .slice none 0 0, .slice B ys.length cb_, .int .u8 2, .int .i64 0, .slice A11 nl.length c11, .slice none 0 0, .int .u8 1, .int .i64 tick, .slice none 0 0, .slice none 0 0] 88)) wx15.heap.size [.int .u8 2, .int .i64 0, .slice A4 32 c4, .slice none 0 0, .int .u8 3, .int .i64 0, .slice none 0 0, .slice B ys.length cb_, .int .u8 2, .int .i64 0, .slice A11 nl.length c11, .slice none 0 0, .int .u8 1, .int .i64 tick, .slice none 0 0, .slice none 0 0] := VB.box (xs := #[.int .u8 2, .int .i64 0, .slice A4 32 c4, .slice none 0 0, .int .u8 3, .int .i64 0, .slice none 0 0, .slice B ys.length cb_, .int .u8 2, .int .i64 0, .slice A11 nl.length c11, .slice none 0 0, .int .u8 1, .int .i64 tick, .slice none 0 0, .slice none 0 0]) (T := 88) (by (repeat (first | exact new_plain wnA | with_reducible refine old_alloc ?_ | with_reducible refine old_drew ?_ | with_reducible refine old_set ?_ wnA | with_reducible refine old_ab (by assumption) ?_)))
            show VB (wx15.alloc (.cells #[.int .u8 2, .int .i64 0, .slice A4 32 c4, .slice none 0 0, .int .u8 3, .int .i64 0, .slice none 0 0, .slice B ys.length cb_, .int .u8 2, .int .i64 0, .slice A11 nl.length c11, .slice none 0 0, .int .u8 1, .int .i64 tick, .slice none 0 0, .slice none 0 0] 88)) wx15.heap.size [.int .u8 2, .int .i64 0, .slice A4 t'.length c4, .slice none 0 0, .int .u8 3, .int .i64 0, .slice none 0 0, .slice B (ys.map VM.v).length cb_, .int .u8 2, .int .i64 0, .slice A11 nl.length c11, .slice none 0 0, .int .u8 1, .int .i64 tick, .slice none 0 0, .slice none 0 0]
            rw [List.length_map, hmt]; exact this
          have hV16 := hV.keep c16
          have O16 : OwnVs 2 lb (wx15.alloc (.cells #[.int .u8 2, .int .i64 0, .slice A4 32 c4, .slice none 0 0, .int .u8 3, .int .i64 0, .slice none 0 0, .slice B ys.length cb_, .int .u8 2, .int .i64 0, .slice A11 nl.length c11, .slice none 0 0, .int .u8 1, .int .i64 tick, .slice none 0 0, .slice none 0 0] 88)) (some ⟨lb, 0, none⟩) 1 [vmN 3] := OwnVs.one (Nat.le_refl _) hV16.q ((vl_N (by omega) (by omega)).le (by omega))
          have hx16 : ∀ x ∈ [vmB A4 t' c4, vmL B (ys.map VM.v) cb_, vmB A11 nl c11, vmN tick], VL 2 (wx15.alloc (.cells #[.int .u8 2, .int .i64 0, .slice A4 32 c4, .slice none 0 0, .int .u8 3, .int .i64 0, .slice none 0 0, .slice B ys.length cb_, .int .u8 2, .int .i64 0, .slice A11 nl.length c11, .slice none 0 0, .int .u8 1, .int .i64 tick, .slice none 0 0, .slice none 0 0] 88)) (fun g => lb ≤ g ∧ (some (⟨lb, 0, none⟩ : Addr)).map (·.block) ≠ some g) x := by
            have key : ∀ (S : Nat → Prop) (x : VM), (∀ g, S g → lb < g) → VL 2 (wx15.alloc (.cells #[.int .u8 2, .int .i64 0, .slice A4 32 c4, .slice none 0 0, .int .u8 3, .int .i64 0, .slice none 0 0, .slice B ys.length cb_, .int .u8 2, .int .i64 0, .slice A11 nl.length c11, .slice none 0 0, .int .u8 1, .int .i64 tick, .slice none 0 0, .slice none 0 0] 88)) S x → VL 2 (wx15.alloc (.cells #[.int .u8 2, .int .i64 0, .slice A4 32 c4, .slice none 0 0, .int .u8 3, .int .i64 0, .slice none 0 0, .slice B ys.length cb_, .int .u8 2, .int .i64 0, .slice A11 nl.length c11, .slice none 0 0, .int .u8 1, .int .i64 tick, .slice none 0 0, .slice none 0 0] 88)) (fun g => lb ≤ g ∧ (some (⟨lb, 0, none⟩ : Addr)).map (·.block) ≠ some g) x := fun S x hS h => h.mono fun g hg => ⟨by have := hS g hg; omega, fun e => by have := hS g hg; simp at e; omega⟩
            intro x hx
            simp only [List.mem_cons, List.not_mem_nil, or_false] at hx
            rcases hx with rfl | rfl | rfl | rfl
            · exact key _ _ (fun g hg => by omega) ((hv4.ab b16).le (by omega))
            · exact key _ _ (fun g hg => by omega) (hV16.o.list' (by omega))
            · exact key _ _ (fun g hg => by omega) ((hv11.ab b16).le (by omega))
            · exact (vl_N hk0 hk1).le (by omega)
          refine r1A 17 (fun K hK => ?_)
          (try simp only [Act.put, List.getElem_toArray, List.getElem_cons_succ, List.getElem_cons_zero, stA, st0, st1])
          refine if_go (by rfl) ?_
          refine wp_appVm (xs := [vmB A4 t' c4, vmL B (ys.map VM.v) cb_, vmB A11 nl c11, vmN tick]) _ _ rfl rfl rfl rfl O16 (by have := hV16.zz; omega) G16 hx16 (by simp) (by simp) (by simp) ?_
          intro g4 c4' w17 zs hzs ho17 hg17 _
          have Z17 := hV16.z.grw hg17 (fun e => by simp at e; omega)
          have B17 := hV16.b.grw hg17 (fun e => by simp at e; omega)
          have ab17 : Ab w w17 := grown_ab hV16.ab hg17 (fun g e => by simp at e; omega)
          have hs17 := hg17.size
          (refine hK.out _ _ ?_ (fun hHeld => ?_)
           · (try dsimp only); exact B17
           clear hK K
           (try simp only [Act.put, stA, st0, st1]))
          refine r1A 18 (fun K hK => ?_)
          (go_simp
           (refine hK.out _ _ ?_ (fun hHeld => ?_)
            · (try dsimp only); exact hHeld
            clear hK K
            (try simp only [Act.put, stA, st0, st1])))
          refine wpAnyH_done (by kernel_rfl) ?_ _
          have hzl : zs.length ≤ 100 := by rw [hzs.out]; simp
          have hzv : Hid (Obj.L (zs.map VM.v) = Obj.L [Obj.N 3, Obj.B t', Obj.L (ps.map Obj.B), Obj.B nl, Obj.N tick]) := by
            unfold Hid
            rw [hzs.out, ← HVS.out]
            rfl
          clear hx16 G16 hV16 O16 c16 b16 hV hzs
          go_wp2_with fail
          refine (list_any (some ⟨g4, 0, none⟩) zs.length c4' _).mono ?_
          rintro e w18 ⟨rfl, hb18⟩
          have Z18 := Z17.ab hb18
          have O18 := ho17.ab hb18
          have b18 := ab17.trans hb18
          have z18 := hb18.size
          go_wp2_with (refine list_stV (o := ⟨none, _, _, _, _, _⟩) (us := [.int .u8 3, .int .i64 0, .slice none 0 0, .slice (some ⟨g4, 0, none⟩) zs.length c4']) _ infoVT rfl _ _ rfl rfl rfl Z18 rfl rfl rfl ?_; intro w19 h19)
          refine bodyPost_ret (res_V1 _ infoVT Tryz.underlying88 rfl Tryz.results52 _ rfl h19.v rfl) rfl ?_
          have O19 : OwnVs 2 lb w19 (some ⟨g4, 0, none⟩) c4' zs := O18.keep (fun g hg _ => h19.blk g (by omega))
          refine ⟨vmL (some ⟨g4, 0, none⟩) (zs.map VM.v) c4', ?_, hzv, (O19.list (by omega)).le (by omega), h19.ab w b18 (by omega)⟩
          simp [VM.val, VM.cells, vmL]
      · have hcv := conv_bytes w5.drew nl
        have hge := grownCap_ge w5.drew nl.length 0 5
        generalize grownCap w5.drew nl.length 0 5 = cp at *
        have hcp : nl.length ≤ cp := by omega
        have bc : Ab w5 ((w5.alloc (.cells (bytesRow ⟨nl.toArray⟩ cp) 5 ((bytesRow ⟨nl.toArray⟩ cp).size, (bytesRow ⟨nl.toArray⟩ cp).size + 1))).drew.drew) := abA
        (go_simp
         (refine hK.out _ _ ?_ (fun hHeld => ?_)
          · (try dsimp only); exact (show VB ((w5.alloc (.cells (bytesRow ⟨nl.toArray⟩ cp) 5 ((bytesRow ⟨nl.toArray⟩ cp).size, (bytesRow ⟨nl.toArray⟩ cp).size + 1))).drew.drew) w.heap.size oc from hV.b.ab bc)
          clear hK K
          (try simp only [Act.put, stA, st0, st1])))
        have R7 : RB ((w5.alloc (.cells (bytesRow ⟨nl.toArray⟩ cp) 5 ((bytesRow ⟨nl.toArray⟩ cp).size, (bytesRow ⟨nl.toArray⟩ cp).size + 1))).drew.drew) 0 (some ⟨w5.heap.size, 0, none⟩) nl := rb_row (c := cp) (by (repeat (first | exact new_plain wnA | with_reducible refine old_alloc ?_ | with_reducible refine old_drew ?_ | with_reducible refine old_set ?_ wnA | with_reducible refine old_ab (by assumption) ?_)))
        have sc : w5.heap.size < (((w5.alloc (.cells (bytesRow ⟨nl.toArray⟩ cp) 5 ((bytesRow ⟨nl.toArray⟩ cp).size, (bytesRow ⟨nl.toArray⟩ cp).size + 1))).drew.drew)).heap.size := by simp
        have bC := bc
        generalize ((w5.alloc (.cells (bytesRow ⟨nl.toArray⟩ cp) 5 ((bytesRow ⟨nl.toArray⟩ cp).size, (bytesRow ⟨nl.toArray⟩ cp).size + 1))).drew.drew) = wc at *
        clear hcv hge bc
        have hsb : ∃ sb, sb = w5.heap.size := ⟨_, rfl⟩
        obtain ⟨sb, hsb⟩ := hsb
        refine r1A 4 (fun K hK => ?_)
        (go_simp
         (refine (rnamed_any t' hmt _).mono ?_; rintro e wx4 ⟨A4, c4, he, hv4, hb4⟩; obtain rfl : e = .returned (.agg #[.int .u8 2, .int .i64 0, .slice A4 32 c4, .slice none 0 0]) := by rw [← hmt]; exact he)
         (try go_wp2_with fail)
         (refine hK.out _ _ ?_ (fun hHeld => ?_)
          · (try dsimp only); exact hV.b.ab (bC.trans hb4)
          clear hK K
          (try simp only [Act.put, stA, st0, st1])))
        have B4 : Ab w5 wx4 := (bC.trans hb4)
        have s4 := hb4.size
        have R7 := R7.ab hb4
        refine r1A 6 (fun K hK => ?_)
        (go_simp
         (refine (list_any B ys.length cb_ _).mono ?_; rintro e wx6 ⟨rfl, hb6⟩)
         (try go_wp2_with fail)
         (refine hK.out _ _ ?_ (fun hHeld => ?_)
          · (try dsimp only); exact hV.b.ab (B4.trans hb6)
          clear hK K
          (try simp only [Act.put, stA, st0, st1])))
        have B6 : Ab w5 wx6 := (B4.trans hb6)
        have s6 := hb6.size
        have R7 := R7.ab hb6
        have hv4 := hv4.ab hb6
        refine r1A 11 (fun K hK => ?_)
        (go_simp
         (refine (text9_any (some ⟨w5.heap.size, 0, none⟩) nl cp _ R7 hcp hnl).mono ?_; rintro e wx11 ⟨A11, c11, he, hv11, hb11⟩; obtain rfl : e = .returned (.agg #[.int .u8 2, .int .i64 0, .slice A11 nl.length c11, .slice none 0 0]) := he)
         (try go_wp2_with fail)
         (refine hK.out _ _ ?_ (fun hHeld => ?_)
          · (try dsimp only); exact hV.b.ab (B6.trans hb11)
          clear hK K
          (try simp only [Act.put, stA, st0, st1])))
        have B11 : Ab w5 wx11 := (B6.trans hb11)
        have s11 := hb11.size
        have R7 := R7.ab hb11
        have hv4 := hv4.ab hb11
        refine r1A 15 (fun K hK => ?_)
        (go_simp
         (refine (number_any tick _).mono ?_; rintro e wx15 ⟨he, hb15⟩; obtain rfl : e = .returned (.agg #[.int .u8 1, .int .i64 tick, .slice none 0 0, .slice none 0 0]) := he)
         (try go_wp2_with fail)
         (refine hK.out _ _ ?_ (fun hHeld => ?_)
          · (try dsimp only); exact hV.b.ab (B11.trans hb15)
          clear hK K
          (try simp only [Act.put, stA, st0, st1])))
        have B15 : Ab w5 wx15 := (B11.trans hb15)
        have s15 := hb15.size
        have R7 := R7.ab hb15
        have hv4 := hv4.ab hb15
        have hv11 := hv11.ab hb15
        have b16 : Ab wx15 (wx15.alloc (.cells #[.int .u8 2, .int .i64 0, .slice A4 32 c4, .slice none 0 0, .int .u8 3, .int .i64 0, .slice none 0 0, .slice B ys.length cb_, .int .u8 2, .int .i64 0, .slice A11 nl.length c11, .slice none 0 0, .int .u8 1, .int .i64 tick, .slice none 0 0, .slice none 0 0] 88)) := abA
        have c16 := B15.trans b16
        refine r1A 16 (fun K hK => ?_)
        (try simp only [Act.put, List.getElem_toArray, List.getElem_cons_succ, List.getElem_cons_zero, stA, st0, st1])
        refine if_go (by rfl) ?_
        refine wp_run (.slice (some ⟨wx15.heap.size, 0, none⟩) 4 4) (wx15.alloc (.cells #[.int .u8 2, .int .i64 0, .slice A4 32 c4, .slice none 0 0, .int .u8 3, .int .i64 0, .slice none 0 0, .slice B ys.length cb_, .int .u8 2, .int .i64 0, .slice A11 nl.length c11, .slice none 0 0, .int .u8 1, .int .i64 tick, .slice none 0 0, .slice none 0 0] 88)) (by kernel_rfl) ?_
        (refine hK.out _ _ ?_ (fun hHeld => ?_)
         · (try dsimp only); exact (show VB (wx15.alloc (.cells #[.int .u8 2, .int .i64 0, .slice A4 32 c4, .slice none 0 0, .int .u8 3, .int .i64 0, .slice none 0 0, .slice B ys.length cb_, .int .u8 2, .int .i64 0, .slice A11 nl.length c11, .slice none 0 0, .int .u8 1, .int .i64 tick, .slice none 0 0, .slice none 0 0] 88)) w.heap.size oc from hV.b.ab c16)
         clear hK K
         (try simp only [Act.put, stA, st0, st1]))
        have G16 : VB (wx15.alloc (.cells #[.int .u8 2, .int .i64 0, .slice A4 32 c4, .slice none 0 0, .int .u8 3, .int .i64 0, .slice none 0 0, .slice B ys.length cb_, .int .u8 2, .int .i64 0, .slice A11 nl.length c11, .slice none 0 0, .int .u8 1, .int .i64 tick, .slice none 0 0, .slice none 0 0] 88)) wx15.heap.size (vcells [vmB A4 t' c4, vmL B (ys.map VM.v) cb_, vmB A11 nl c11, vmN tick]) := by
          have : VB (wx15.alloc (.cells #[.int .u8 2, .int .i64 0, .slice A4 32 c4, .slice none 0 0, .int .u8 3, .int .i64 0, .slice none 0 0, .slice B ys.length cb_, .int .u8 2, .int .i64 0, .slice A11 nl.length c11, .slice none 0 0, .int .u8 1, .int .i64 tick, .slice none 0 0, .slice none 0 0] 88)) wx15.heap.size [.int .u8 2, .int .i64 0, .slice A4 32 c4, .slice none 0 0, .int .u8 3, .int .i64 0, .slice none 0 0, .slice B ys.length cb_, .int .u8 2, .int .i64 0, .slice A11 nl.length c11, .slice none 0 0, .int .u8 1, .int .i64 tick, .slice none 0 0, .slice none 0 0] := VB.box (xs := #[.int .u8 2, .int .i64 0, .slice A4 32 c4, .slice none 0 0, .int .u8 3, .int .i64 0, .slice none 0 0, .slice B ys.length cb_, .int .u8 2, .int .i64 0, .slice A11 nl.length c11, .slice none 0 0, .int .u8 1, .int .i64 tick, .slice none 0 0, .slice none 0 0]) (T := 88) (by (repeat (first | exact new_plain wnA | with_reducible refine old_alloc ?_ | with_reducible refine old_drew ?_ | with_reducible refine old_set ?_ wnA | with_reducible refine old_ab (by assumption) ?_)))
          show VB (wx15.alloc (.cells #[.int .u8 2, .int .i64 0, .slice A4 32 c4, .slice none 0 0, .int .u8 3, .int .i64 0, .slice none 0 0, .slice B ys.length cb_, .int .u8 2, .int .i64 0, .slice A11 nl.length c11, .slice none 0 0, .int .u8 1, .int .i64 tick, .slice none 0 0, .slice none 0 0] 88)) wx15.heap.size [.int .u8 2, .int .i64 0, .slice A4 t'.length c4, .slice none 0 0, .int .u8 3, .int .i64 0, .slice none 0 0, .slice B (ys.map VM.v).length cb_, .int .u8 2, .int .i64 0, .slice A11 nl.length c11, .slice none 0 0, .int .u8 1, .int .i64 tick, .slice none 0 0, .slice none 0 0]
          rw [List.length_map, hmt]; exact this
        have hV16 := hV.keep c16
        have O16 : OwnVs 2 lb (wx15.alloc (.cells #[.int .u8 2, .int .i64 0, .slice A4 32 c4, .slice none 0 0, .int .u8 3, .int .i64 0, .slice none 0 0, .slice B ys.length cb_, .int .u8 2, .int .i64 0, .slice A11 nl.length c11, .slice none 0 0, .int .u8 1, .int .i64 tick, .slice none 0 0, .slice none 0 0] 88)) (some ⟨lb, 0, none⟩) 1 [vmN 3] := OwnVs.one (Nat.le_refl _) hV16.q ((vl_N (by omega) (by omega)).le (by omega))
        have hx16 : ∀ x ∈ [vmB A4 t' c4, vmL B (ys.map VM.v) cb_, vmB A11 nl c11, vmN tick], VL 2 (wx15.alloc (.cells #[.int .u8 2, .int .i64 0, .slice A4 32 c4, .slice none 0 0, .int .u8 3, .int .i64 0, .slice none 0 0, .slice B ys.length cb_, .int .u8 2, .int .i64 0, .slice A11 nl.length c11, .slice none 0 0, .int .u8 1, .int .i64 tick, .slice none 0 0, .slice none 0 0] 88)) (fun g => lb ≤ g ∧ (some (⟨lb, 0, none⟩ : Addr)).map (·.block) ≠ some g) x := by
          have key : ∀ (S : Nat → Prop) (x : VM), (∀ g, S g → lb < g) → VL 2 (wx15.alloc (.cells #[.int .u8 2, .int .i64 0, .slice A4 32 c4, .slice none 0 0, .int .u8 3, .int .i64 0, .slice none 0 0, .slice B ys.length cb_, .int .u8 2, .int .i64 0, .slice A11 nl.length c11, .slice none 0 0, .int .u8 1, .int .i64 tick, .slice none 0 0, .slice none 0 0] 88)) S x → VL 2 (wx15.alloc (.cells #[.int .u8 2, .int .i64 0, .slice A4 32 c4, .slice none 0 0, .int .u8 3, .int .i64 0, .slice none 0 0, .slice B ys.length cb_, .int .u8 2, .int .i64 0, .slice A11 nl.length c11, .slice none 0 0, .int .u8 1, .int .i64 tick, .slice none 0 0, .slice none 0 0] 88)) (fun g => lb ≤ g ∧ (some (⟨lb, 0, none⟩ : Addr)).map (·.block) ≠ some g) x := fun S x hS h => h.mono fun g hg => ⟨by have := hS g hg; omega, fun e => by have := hS g hg; simp at e; omega⟩
          intro x hx
          simp only [List.mem_cons, List.not_mem_nil, or_false] at hx
          rcases hx with rfl | rfl | rfl | rfl
          · exact key _ _ (fun g hg => by omega) ((hv4.ab b16).le (by omega))
          · exact key _ _ (fun g hg => by omega) (hV16.o.list' (by omega))
          · exact key _ _ (fun g hg => by omega) ((hv11.ab b16).le (by omega))
          · exact (vl_N hk0 hk1).le (by omega)
        refine r1A 17 (fun K hK => ?_)
        (try simp only [Act.put, List.getElem_toArray, List.getElem_cons_succ, List.getElem_cons_zero, stA, st0, st1])
        refine if_go (by rfl) ?_
        refine wp_appVm (xs := [vmB A4 t' c4, vmL B (ys.map VM.v) cb_, vmB A11 nl c11, vmN tick]) _ _ rfl rfl rfl rfl O16 (by have := hV16.zz; omega) G16 hx16 (by simp) (by simp) (by simp) ?_
        intro g4 c4' w17 zs hzs ho17 hg17 _
        have Z17 := hV16.z.grw hg17 (fun e => by simp at e; omega)
        have B17 := hV16.b.grw hg17 (fun e => by simp at e; omega)
        have ab17 : Ab w w17 := grown_ab hV16.ab hg17 (fun g e => by simp at e; omega)
        have hs17 := hg17.size
        (refine hK.out _ _ ?_ (fun hHeld => ?_)
         · (try dsimp only); exact B17
         clear hK K
         (try simp only [Act.put, stA, st0, st1]))
        refine r1A 18 (fun K hK => ?_)
        (go_simp
         (refine hK.out _ _ ?_ (fun hHeld => ?_)
          · (try dsimp only); exact hHeld
          clear hK K
          (try simp only [Act.put, stA, st0, st1])))
        refine wpAnyH_done (by kernel_rfl) ?_ _
        have hzl : zs.length ≤ 100 := by rw [hzs.out]; simp
        have hzv : Hid (Obj.L (zs.map VM.v) = Obj.L [Obj.N 3, Obj.B t', Obj.L (ps.map Obj.B), Obj.B nl, Obj.N tick]) := by
          unfold Hid
          rw [hzs.out, ← HVS.out]
          rfl
        clear hx16 G16 hV16 O16 c16 b16 hV hzs
        go_wp2_with fail
        refine (list_any (some ⟨g4, 0, none⟩) zs.length c4' _).mono ?_
        rintro e w18 ⟨rfl, hb18⟩
        have Z18 := Z17.ab hb18
        have O18 := ho17.ab hb18
        have b18 := ab17.trans hb18
        have z18 := hb18.size
        go_wp2_with (refine list_stV (o := ⟨none, _, _, _, _, _⟩) (us := [.int .u8 3, .int .i64 0, .slice none 0 0, .slice (some ⟨g4, 0, none⟩) zs.length c4']) _ infoVT rfl _ _ rfl rfl rfl Z18 rfl rfl rfl ?_; intro w19 h19)
        refine bodyPost_ret (res_V1 _ infoVT Tryz.underlying88 rfl Tryz.results52 _ rfl h19.v rfl) rfl ?_
        have O19 : OwnVs 2 lb w19 (some ⟨g4, 0, none⟩) c4' zs := O18.keep (fun g hg _ => h19.blk g (by omega))
        refine ⟨vmL (some ⟨g4, 0, none⟩) (zs.map VM.v) c4', ?_, hzv, (O19.list (by omega)).le (by omega), h19.ab w b18 (by omega)⟩
        simp [VM.val, VM.cells, vmL]
theorem rvalue_any (o : OM) (w : World) (h : OL w o) (hok : o.ok = true) : Calls Tryz.prog 52 #[.agg o.cells.toArray] w (RetVal w o.v) := by
  obtain ⟨k, A, t, c, E, es, d, m⟩ := o
  rcases ok_kind hok with hk | hk | hk <;> simp only at hk <;> subst hk
  · exact rvalue_1 A t c E es d m w (by simp [OM.ok, Obj.text] at hok; omega) h
  · have h2 : es.length ≤ 12 ∧ Obj.ents es es.length = true := by
      simp [OM.ok, Obj.tree] at hok; exact ⟨hok.1.2.1, hok.1.2.2⟩
    have h3 := ents_path es h2.2
    exact rvalue_2 A t c E es d m w (by omega) (fun e he => by have := h3 e he; simp at this; omega) h
  · have h2 : m.ps.length ≤ 2 ∧ m.note.size ≤ 200 := by
      simp [OM.ok, CM.ok] at hok; exact ⟨hok.2.1.1.1.1, hok.2.1.1.2⟩
    exact rvalue_3 A t c E es d m w (by omega) (by omega) h
end Go.Proofs.YthfffbpcmlgoiaaGreatDoor
