/- The value of an object, walked. Own work. -/
import Derived.Test.YthfffbpcmlgoiaaGreatDoorCObFunC
import Derived.Test.YthfffbpcmlgoiaaGreatDoorCKH
import Derived.Test.YthfffbpcmlgoiaaGreatDoorCCvFunJ
import Derived.Test.YthfffbpcmlgoiaaGreatDoorCLast
set_option linter.unusedVariables false
set_option linter.unusedSimpArgs false
namespace Go.Proofs.YthfffbpcmlgoiaaGreatDoor
open Go.RowKit
open Codec (V)

theorem infoVT : (Tryz.prog.info? 88).map (·.size) = some 4 := by kernel_rfl
def Obj.N (n : Int) : V := .mk 1 n [] []
def Obj.B (l : List UInt8) : V := .mk 2 0 l []
def Obj.L (l : List V) : V := .mk 3 0 [] l
/-- The value of an object. -/
def OM.v (o : OM) : V :=
  if o.k = 1 then Obj.L [Obj.N 1, Obj.B o.t]
  else if o.k = 2 then Obj.L [Obj.N 2, Obj.L (o.es.map fun e => Obj.L [Obj.B e.p.data.toList, Obj.B e.b])]
  else Obj.L [Obj.N o.k, Obj.B o.m.t, Obj.L (o.m.ps.map Obj.B), Obj.B o.m.note.data.toList, Obj.N o.m.tick]
def vmN (n : Int) : VM := ⟨1, n, none, [], 0, none, [], 0⟩
def vmB (A : Option Addr) (l : List UInt8) (c : Nat) : VM := ⟨2, 0, A, l, c, none, [], 0⟩
def vmL (L : Option Addr) (l : List V) (c : Nat) : VM := ⟨3, 0, none, [], 0, L, l, c⟩
theorem vl_list {w : World} {g d c : Nat} {S : Nat → Prop} (ys : List VM) (hb : VB w g (vcells ys)) (hS : S g) (h : ∀ y ∈ ys, VL d w S y) (hc : ys.length ≤ c) (hl : ys.length ≤ 9223372036854775807) : VL (d + 1) w S (vmL (some ⟨g, 0, none⟩) (ys.map VM.v) c) := by
  refine ⟨⟨by simp [vmL], by simp [vmL], by simp [vmL], by simp [vmL], by simp [vmL], by simpa [vmL] using hc, by simpa [vmL] using hl⟩, RS.nil, fun hn => ⟨g, 0, rfl, hS, fun i hi => ?_⟩⟩
  have hi' : i < ys.length := by simpa [vmL] using hi
  refine ⟨ys[i], by simp [vmL], fun j v hv => ?_, h _ (List.getElem_mem hi')⟩
  rw [Nat.zero_add]
  exact hb.at _ (vcells_at ys i hi' j v hv)
theorem vl_B {w : World} {S : Nat → Prop} {A : Option Addr} {l : List UInt8} {c : Nat} (h : RS w S A l) (hc : l.length ≤ c) (hl : l.length ≤ 9223372036854775807) : VL 1 w S (vmB A l c) :=
  ⟨⟨by simp [vmB], by simp [vmB], by simp [vmB], hc, hl, by simp [vmB], by simp [vmB]⟩, h, fun hn => absurd hn (by simp [vmB])⟩
theorem vl_N {w : World} {S : Nat → Prop} {n : Int} (h0 : -9223372036854775808 ≤ n) (h1 : n ≤ 9223372036854775807) : VL 1 w S (vmN n) :=
  ⟨⟨by simp [vmN], h0, h1, by simp [vmN], by simp [vmN], by simp [vmN], by simp [vmN]⟩, RS.nil, fun hn => absurd hn (by simp [vmN])⟩
set_option maxRecDepth 100000 in
theorem onumber_any (n : Int) (w : World) : Calls Tryz.prog 77 #[.int .i64 n] w fun e w' => e = .returned (.agg #[.int .u8 1, .int .i64 n, .slice none 0 0, .slice none 0 0]) ∧ Ab w w' := by
  go_enter Tryz.func77, Tryz.ntmps77
  have Y0 : VB (w.alloc (.cells VM.zero.cells.toArray 88)) w.heap.size VM.zero.cells := VB.box (xs := VM.zero.cells.toArray) (T := 88) (by (repeat (first | exact new_plain wnA | with_reducible refine old_alloc ?_ | with_reducible refine old_drew ?_ | with_reducible refine old_set ?_ wnA | with_reducible refine old_ab (by assumption) ?_)))
  go_wp2_with (refine list_stV (o := ⟨none, _, _, _, _, _⟩) (us := [.int .u8 1, .int .i64 n, .slice none 0 0, .slice none 0 0]) _ infoVT rfl _ _ rfl rfl rfl Y0 rfl rfl rfl ?_; intro w9 h9)
  refine bodyPost_ret (res_V1 _ infoVT Tryz.underlying88 rfl Tryz.results77 _ rfl h9.v rfl) rfl ?_
  exact ⟨rfl, h9.ab w abA (Nat.le_refl _)⟩
set_option maxRecDepth 100000 in
theorem odata_any (A : Option Addr) (n c : Nat) (w : World) : Calls Tryz.prog 79 #[.slice A n c] w fun e w' => e = .returned (.agg #[.int .u8 2, .int .i64 0, .slice A n c, .slice none 0 0]) ∧ Ab w w' := by
  go_enter Tryz.func79, Tryz.ntmps79
  have Y0 : VB (w.alloc (.cells VM.zero.cells.toArray 88)) w.heap.size VM.zero.cells := VB.box (xs := VM.zero.cells.toArray) (T := 88) (by (repeat (first | exact new_plain wnA | with_reducible refine old_alloc ?_ | with_reducible refine old_drew ?_ | with_reducible refine old_set ?_ wnA | with_reducible refine old_ab (by assumption) ?_)))
  go_wp2_with (refine list_stV (o := ⟨none, _, _, _, _, _⟩) (us := [.int .u8 2, .int .i64 0, .slice A n c, .slice none 0 0]) _ infoVT rfl _ _ rfl rfl rfl Y0 rfl rfl rfl ?_; intro w9 h9)
  refine bodyPost_ret (res_V1 _ infoVT Tryz.underlying88 rfl Tryz.results79 _ rfl h9.v rfl) rfl ?_
  exact ⟨rfl, h9.ab w abA (Nat.le_refl _)⟩
set_option maxRecDepth 100000 in
theorem olist_any (L : Option Addr) (n c : Nat) (w : World) : Calls Tryz.prog 78 #[.slice L n c] w fun e w' => e = .returned (.agg #[.int .u8 3, .int .i64 0, .slice none 0 0, .slice L n c]) ∧ Ab w w' := by
  go_enter Tryz.func78, Tryz.ntmps78
  have Y0 : VB (w.alloc (.cells VM.zero.cells.toArray 88)) w.heap.size VM.zero.cells := VB.box (xs := VM.zero.cells.toArray) (T := 88) (by (repeat (first | exact new_plain wnA | with_reducible refine old_alloc ?_ | with_reducible refine old_drew ?_ | with_reducible refine old_set ?_ wnA | with_reducible refine old_ab (by assumption) ?_)))
  go_wp2_with (refine list_stV (o := ⟨none, _, _, _, _, _⟩) (us := [.int .u8 3, .int .i64 0, .slice none 0 0, .slice L n c]) _ infoVT rfl _ _ rfl rfl rfl Y0 rfl rfl rfl ?_; intro w9 h9)
  refine bodyPost_ret (res_V1 _ infoVT Tryz.underlying88 rfl Tryz.results78 _ rfl h9.v rfl) rfl ?_
  exact ⟨rfl, h9.ab w abA (Nat.le_refl _)⟩
/-- What valueOf returns. -/
def RetVal (w : World) (v : V) (e : Ending) (w' : World) : Prop := ∃ x : VM, e = .returned x.val ∧ Hid (x.v = v) ∧ VL 4 w' (fun _ => True) x ∧ Ab w w'
set_option maxRecDepth 100000 in
set_option maxHeartbeats 4000000 in
theorem valueOf_1 (A : Option Addr) (t : List UInt8) (c : Nat) (E : Option Addr) (es : List EM) (d : Nat) (m : CM) (w : World) (h : OL w ⟨1, A, t, c, E, es, d, m⟩) :
    Calls Tryz.prog 50 #[.agg (OM.cells ⟨1, A, t, c, E, es, d, m⟩).toArray] w (RetVal w (Obj.L [Obj.N 1, Obj.B t])) := by
  have hb := h.b
  have hc := h.c
  have hl := h.c'
  simp only at hb hc hl
  clear h
  go_enter Tryz.func50, Tryz.ntmps50
  have V0 : VB ((w.alloc (.cells (OM.cells ⟨1, A, t, c, E, es, d, m⟩).toArray 32)).alloc (.cells #[.int .u8 0, .int .i64 0, .slice none 0 0, .slice none 0 0] 88)) w.heap.size (OM.cells ⟨1, A, t, c, E, es, d, m⟩) := VB.box (xs := (OM.cells ⟨1, A, t, c, E, es, d, m⟩).toArray) (T := 32) (by (repeat (first | exact new_plain wnA | with_reducible refine old_alloc ?_ | with_reducible refine old_drew ?_ | with_reducible refine old_set ?_ wnA | with_reducible refine old_ab (by assumption) ?_)))
  have Z0 : VB ((w.alloc (.cells (OM.cells ⟨1, A, t, c, E, es, d, m⟩).toArray 32)).alloc (.cells #[.int .u8 0, .int .i64 0, .slice none 0 0, .slice none 0 0] 88)) (w.heap.size + 1) VM.zero.cells := VB.box (xs := #[.int .u8 0, .int .i64 0, .slice none 0 0, .slice none 0 0]) (T := 88) (by (repeat (first | exact new_plain wnA | with_reducible refine old_alloc ?_ | with_reducible refine old_drew ?_ | with_reducible refine old_set ?_ wnA | with_reducible refine old_ab (by assumption) ?_)))
  have b0 : Ab w ((w.alloc (.cells (OM.cells ⟨1, A, t, c, E, es, d, m⟩).toArray 32)).alloc (.cells #[.int .u8 0, .int .i64 0, .slice none 0 0, .slice none 0 0] 88)) := abA
  go_upto_region 1 with fail
  have z0 : w.heap.size + 1 < ((w.alloc (.cells (OM.cells ⟨1, A, t, c, E, es, d, m⟩).toArray 32)).alloc (.cells #[.int .u8 0, .int .i64 0, .slice none 0 0, .slice none 0 0] 88)).heap.size := by simp
  generalize ((w.alloc (.cells (OM.cells ⟨1, A, t, c, E, es, d, m⟩).toArray 32)).alloc (.cells #[.int .u8 0, .int .i64 0, .slice none 0 0, .slice none 0 0] 88)) = w0 at *
  have c0 := V0.at 0 (show (OM.cells ⟨1, A, t, c, E, es, d, m⟩)[0]? = some (.int .u8 1) from rfl)
  go_wp2_with fail
  refine (onumber_any 1 _).mono ?_
  rintro e w1 ⟨rfl, hb1⟩
  have Y1 : VB (w1.alloc (.cells #[.int .u8 0, .int .i64 0, .slice none 0 0, .slice none 0 0] 88)) w1.heap.size VM.zero.cells := VB.box (xs := #[.int .u8 0, .int .i64 0, .slice none 0 0, .slice none 0 0]) (T := 88) (by (repeat (first | exact new_plain wnA | with_reducible refine old_alloc ?_ | with_reducible refine old_drew ?_ | with_reducible refine old_set ?_ wnA | with_reducible refine old_ab (by assumption) ?_)))
  have z1 := hb1.size
  have V1 := V0.ab hb1
  have Z1 := Z0.ab hb1
  have b1 := b0.trans hb1
  clear V0 Z0 b0 hb1 c0
  go_upto_region 2 with (refine list_stV (o := ⟨none, _, _, _, _, _⟩) (us := (vmN 1).cells) _ infoVT rfl _ _ rfl rfl rfl Y1 rfl rfl rfl ?_; intro w2 h2)
  have hb2 : Ab w1 w2 := h2.ab w1 abA (Nat.le_refl _)
  have V2 := V1.ab hb2
  have Z2 := Z1.ab hb2
  have K2 := h2.v
  have b2 := b1.trans hb2
  have z2 : w1.heap.size < w2.heap.size := by have := h2.sz; simp at this; omega
  clear V1 Z1 b1 hb2 Y1 h2
  generalize w1.heap.size = kb at *
  have c0 := V2.at 0 (show (OM.cells ⟨1, A, t, c, E, es, d, m⟩)[0]? = some (.int .u8 1) from rfl)
  have e1 : (OM.cells ⟨1, A, t, c, E, es, d, m⟩)[1]? = some (.slice A t.length c) := rfl
  go_upto_region 4 with fail
  generalize OM.cells ⟨1, A, t, c, E, es, d, m⟩ = oc at *
  refine wp_region_held_drew (by kernel_rfl) (S := fun w' => VB w' kb (vmN 1).cells ∧ VB w' w.heap.size oc) ?_ (fun hHeld => ?_)
  · exact ⟨VB.ab K2 abA, VB.ab V2 abA⟩
  (refine rtL 0 (vmN 1).cells 0 (fun w hSw => VB.range hSw.1) Tryz.underlying88 ?_
   (try simp only [Act.put, stA, st0, st1]))
  (refine rtA 1 ?_ ?_
   (try simp only [Act.put, stA, st0, st1]))
  (refine rtA 2 (.slice A t.length c) ?_ (hy := by intro w hSw; have z0 := hSw.2.at 1 e1; go_simp; (try with_reducible rfl)); (try simp only [Act.put, stA, st0, st1]))
  refine r1A 3 (fun K hK => ?_)
  (go_simp
   (refine (odata_any A t.length c _).mono ?_; rintro e w3 ⟨rfl, hb3⟩)
   (try go_wp2_with fail)
   (refine hK.out _ _ ?_ (fun hHeld => ?_)
    · (try dsimp only); exact ⟨(VB.ab K2 abA).ab hb3, (VB.ab V2 abA).ab hb3⟩
    clear hK K
    (try simp only [Act.put, stA, st0, st1])))
  have b3' : Ab w2 w3 := Ab.trans (by exact abA) hb3
  have b3 : Ab w w3 := b2.trans b3'
  have K3 := K2.ab b3'
  have V3 := V2.ab b3'
  have Z3 := Z2.ab b3'
  have z3 := b3'.size
  clear K2 V2 Z2 b3' hb3
  have b4 : Ab w3 (w3.alloc (.cells #[.int .u8 1, .int .i64 1, .slice none 0 0, .slice none 0 0, .int .u8 2, .int .i64 0, .slice A t.length c, .slice none 0 0] 88)) := abA
  refine r1A 4 (fun K hK => ?_)
  (go_simp
   (refine hK.out _ _ ?_ (fun hHeld => ?_)
    · (try dsimp only); exact (show VB (w3.alloc (.cells #[.int .u8 1, .int .i64 1, .slice none 0 0, .slice none 0 0, .int .u8 2, .int .i64 0, .slice A t.length c, .slice none 0 0] 88)) kb (vmN 1).cells ∧ VB (w3.alloc (.cells #[.int .u8 1, .int .i64 1, .slice none 0 0, .slice none 0 0, .int .u8 2, .int .i64 0, .slice A t.length c, .slice none 0 0] 88)) w.heap.size oc from ⟨K3.ab b4, V3.ab b4⟩)
    clear hK K
    (try simp only [Act.put, stA, st0, st1])))
  have G4 : VB (w3.alloc (.cells #[.int .u8 1, .int .i64 1, .slice none 0 0, .slice none 0 0, .int .u8 2, .int .i64 0, .slice A t.length c, .slice none 0 0] 88)) w3.heap.size (vcells [vmN 1, vmB A t c]) := VB.box (xs := #[.int .u8 1, .int .i64 1, .slice none 0 0, .slice none 0 0, .int .u8 2, .int .i64 0, .slice A t.length c, .slice none 0 0]) (T := 88) (by (repeat (first | exact new_plain wnA | with_reducible refine old_alloc ?_ | with_reducible refine old_drew ?_ | with_reducible refine old_set ?_ wnA | with_reducible refine old_ab (by assumption) ?_)))
  refine r1A 5 (fun K hK => ?_)
  (go_simp
   (refine (olist_any (some ⟨w3.heap.size, 0, none⟩) 2 2 (w3.alloc (.cells #[.int .u8 1, .int .i64 1, .slice none 0 0, .slice none 0 0, .int .u8 2, .int .i64 0, .slice A t.length c, .slice none 0 0] 88))).mono ?_; rintro e w5 ⟨rfl, hb5⟩)
   (try go_wp2_with fail)
   (refine hK.out _ _ ?_ (fun hHeld => ?_)
    · (try dsimp only); exact ⟨(K3.ab b4).ab hb5, (V3.ab b4).ab hb5⟩
    clear hK K
    (try simp only [Act.put, stA, st0, st1])))
  have G5 := G4.ab hb5
  have Z5 := (Z3.ab b4).ab hb5
  have K5 := (K3.ab b4).ab hb5
  have V5 := (V3.ab b4).ab hb5
  have b5 : Ab w w5 := b3.trans (b4.trans hb5)
  have z5 := (b4.trans hb5).size
  clear G4 Z3 K3 V3 hb5 b4 b3
  refine r1A 6 (fun K hK => ?_)
  (try simp only [Act.put, List.getElem_toArray, List.getElem_cons_succ, List.getElem_cons_zero, stA, st0, st1])
  refine if_go (by rfl) ?_
  refine wp_stV (us := [.int .u8 3, .int .i64 0, .slice none 0 0, .slice (some ⟨w3.heap.size, 0, none⟩) 2 2]) _ infoVT _ _ rfl rfl rfl Z5 rfl rfl rfl ?_
  intro w9 h9
  (refine hK.out _ _ ?_ (fun hHeld => ?_)
   · (try dsimp only); exact ⟨h9.vb K5 (by omega), h9.vb V5 (by omega)⟩
   clear hK K
   (try simp only [Act.put, stA, st0, st1]))
  refine wpAnyH_done (by kernel_rfl) ?_ _
  go_wp2
  refine bodyPost_ret (res_V1 _ infoVT Tryz.underlying88 rfl Tryz.results50 _ rfl h9.v rfl) rfl ?_
  have b9 : Ab w w9 := h9.ab w b5 (by omega)
  have G9 := h9.vb G5 (by omega)
  exact ⟨vmL (some ⟨w3.heap.size, 0, none⟩) [Obj.N 1, Obj.B t] 2, rfl, Lib.hid rfl, VL.le (vl_list (d := 1) [vmN 1, vmB A t c] G9 trivial (fun y hy => by
    rcases List.mem_cons.1 hy with rfl | hy
    · exact vl_N (by omega) (by omega)
    · obtain rfl : y = vmB A t c := by simpa using hy
      exact vl_B ((hb.ab b9).rs fun _ _ => trivial) hc hl) (Nat.le_refl _) (by simp)) (by omega), b9⟩
/-- The value of an entry. -/
def EM.v (e : EM) : V := Obj.L [Obj.B e.p.data.toList, Obj.B e.b]
/-- The variables of valueOf behind k entries. -/
structure Vt (w : World) (lo ob eb kb : Nat) (oc ks : List Value) (vs : List V) (A : Option Addr) (c : Nat) (ys : List VM) (w' : World) : Prop where
  ab : Ab w w'
  zz : lo ≤ w'.heap.size
  v : Hid (ys.map VM.v = vs)
  o : OwnVs 2 lo w' A c ys
  e : VB w' eb [.int .u8 3, .int .i64 0, .slice none 0 0, .slice A ys.length c]
  k : VB w' kb ks
  b : VB w' ob oc
  z : VB w' (ob + 1) VM.zero.cells
theorem Vt.keep {w w1 w2 : World} {lo ob eb kb : Nat} {oc ks : List Value} {vs : List V} {A : Option Addr} {c : Nat} {ys : List VM} (h : Vt w lo ob eb kb oc ks vs A c ys w1) (k : Ab w1 w2) : Vt w lo ob eb kb oc ks vs A c ys w2 :=
  ⟨h.ab.trans k, Nat.le_trans h.zz k.size, h.v, h.o.ab k, h.e.ab k, h.k.ab k, h.b.ab k, h.z.ab k⟩
set_option maxRecDepth 100000 in
set_option maxHeartbeats 4000000 in
theorem valueOf_2 (A : Option Addr) (t : List UInt8) (c : Nat) (E : Option Addr) (es : List EM) (d : Nat) (m : CM) (w : World) (h12 : es.length ≤ 12) (h : OL w ⟨2, A, t, c, E, es, d, m⟩) :
    Calls Tryz.prog 50 #[.agg (OM.cells ⟨2, A, t, c, E, es, d, m⟩).toArray] w (RetVal w (Obj.L [Obj.N 2, Obj.L (es.map EM.v)])) := by
  have hr := Lib.hid h.r
  have hl := Lib.hid h.l
  have hs := Lib.hid h.s
  have hn := h.n
  have hn' := h.n'
  simp only at hr hl hs hn hn'
  clear h
  go_enter Tryz.func50, Tryz.ntmps50
  have V0 : VB ((w.alloc (.cells (OM.cells ⟨2, A, t, c, E, es, d, m⟩).toArray 32)).alloc (.cells #[.int .u8 0, .int .i64 0, .slice none 0 0, .slice none 0 0] 88)) w.heap.size (OM.cells ⟨2, A, t, c, E, es, d, m⟩) := VB.box (xs := (OM.cells ⟨2, A, t, c, E, es, d, m⟩).toArray) (T := 32) (by (repeat (first | exact new_plain wnA | with_reducible refine old_alloc ?_ | with_reducible refine old_drew ?_ | with_reducible refine old_set ?_ wnA | with_reducible refine old_ab (by assumption) ?_)))
  have Z0 : VB ((w.alloc (.cells (OM.cells ⟨2, A, t, c, E, es, d, m⟩).toArray 32)).alloc (.cells #[.int .u8 0, .int .i64 0, .slice none 0 0, .slice none 0 0] 88)) (w.heap.size + 1) VM.zero.cells := VB.box (xs := #[.int .u8 0, .int .i64 0, .slice none 0 0, .slice none 0 0]) (T := 88) (by (repeat (first | exact new_plain wnA | with_reducible refine old_alloc ?_ | with_reducible refine old_drew ?_ | with_reducible refine old_set ?_ wnA | with_reducible refine old_ab (by assumption) ?_)))
  have b0 : Ab w ((w.alloc (.cells (OM.cells ⟨2, A, t, c, E, es, d, m⟩).toArray 32)).alloc (.cells #[.int .u8 0, .int .i64 0, .slice none 0 0, .slice none 0 0] 88)) := abA
  go_upto_region 1 with fail
  have z0 : w.heap.size + 1 < ((w.alloc (.cells (OM.cells ⟨2, A, t, c, E, es, d, m⟩).toArray 32)).alloc (.cells #[.int .u8 0, .int .i64 0, .slice none 0 0, .slice none 0 0] 88)).heap.size := by simp
  generalize ((w.alloc (.cells (OM.cells ⟨2, A, t, c, E, es, d, m⟩).toArray 32)).alloc (.cells #[.int .u8 0, .int .i64 0, .slice none 0 0, .slice none 0 0] 88)) = w0 at *
  have c0 := V0.at 0 (show (OM.cells ⟨2, A, t, c, E, es, d, m⟩)[0]? = some (.int .u8 2) from rfl)
  go_wp2_with fail
  refine (onumber_any 2 _).mono ?_
  rintro e w1 ⟨rfl, hb1⟩
  have Y1 : VB (w1.alloc (.cells #[.int .u8 0, .int .i64 0, .slice none 0 0, .slice none 0 0] 88)) w1.heap.size VM.zero.cells := VB.box (xs := #[.int .u8 0, .int .i64 0, .slice none 0 0, .slice none 0 0]) (T := 88) (by (repeat (first | exact new_plain wnA | with_reducible refine old_alloc ?_ | with_reducible refine old_drew ?_ | with_reducible refine old_set ?_ wnA | with_reducible refine old_ab (by assumption) ?_)))
  have z1 := hb1.size
  have V1 := V0.ab hb1
  have Z1 := Z0.ab hb1
  have b1 := b0.trans hb1
  clear V0 Z0 b0 hb1 c0
  go_upto_region 2 with (refine list_stV (o := ⟨none, _, _, _, _, _⟩) (us := (vmN 2).cells) _ infoVT rfl _ _ rfl rfl rfl Y1 rfl rfl rfl ?_; intro w2 h2)
  have hb2 : Ab w1 w2 := h2.ab w1 abA (Nat.le_refl _)
  have V2 := V1.ab hb2
  have Z2 := Z1.ab hb2
  have K2 := h2.v
  have b2 := b1.trans hb2
  have z2 : w1.heap.size < w2.heap.size := by have := h2.sz; simp at this; omega
  clear V1 Z1 b1 hb2 Y1 h2
  generalize w1.heap.size = kb at *
  have c0 := V2.at 0 (show (OM.cells ⟨2, A, t, c, E, es, d, m⟩)[0]? = some (.int .u8 2) from rfl)
  have e2 : (OM.cells ⟨2, A, t, c, E, es, d, m⟩)[2]? = some (.slice E es.length d) := rfl
  generalize OM.cells ⟨2, A, t, c, E, es, d, m⟩ = oc at *
  go_wp2_with fail
  refine (olist_any none 0 0 _).mono ?_
  rintro e w3 ⟨rfl, hb3⟩
  have b3 := b2.trans hb3
  have V3 := V2.ab hb3
  have Z3 := Z2.ab hb3
  have K3 := K2.ab hb3
  have z3 := hb3.size
  clear V2 Z2 K2 b2 hb3
  have Y3 : VB (w3.alloc (.cells #[.int .u8 0, .int .i64 0, .slice none 0 0, .slice none 0 0] 88)) w3.heap.size VM.zero.cells := VB.box (xs := #[.int .u8 0, .int .i64 0, .slice none 0 0, .slice none 0 0]) (T := 88) (by (repeat (first | exact new_plain wnA | with_reducible refine old_alloc ?_ | with_reducible refine old_drew ?_ | with_reducible refine old_set ?_ wnA | with_reducible refine old_ab (by assumption) ?_)))
  go_upto_region 7 with (refine list_stV (o := ⟨none, _, _, _, _, _⟩) (us := [.int .u8 3, .int .i64 0, .slice none 0 0, .slice none 0 0]) _ infoVT rfl _ _ rfl rfl rfl Y3 rfl rfl rfl ?_; intro w4 h4)
  have hb4 : Ab w3 w4 := h4.ab w3 abA (Nat.le_refl _)
  have b4 := b3.trans hb4
  have V4 := V3.ab hb4
  have Z4 := Z3.ab hb4
  have K4 := K3.ab hb4
  have E4 := h4.v
  have z4 : w3.heap.size < w4.heap.size := by have := h4.sz; simp at this; omega
  clear V3 Z3 K3 b3 hb4 h4 Y3
  generalize w3.heap.size = eb at *
  have c2 := V4.at 2 e2
  go_wp2_with fail
  go_loopw [31] (fun i w' => ∃ (k : Nat) (B : Option Addr) (cb_ : Nat) (ys : List VM), k ≤ es.length ∧ i = .int .i64 k ∧ ys.length = k ∧ Vt w w4.heap.size w.heap.size eb kb oc (vmN 2).cells ((es.take k).map EM.v) B cb_ ys w') (fun i _ => es.length - (intOf i).toNat)
  case atStart => exact ⟨0, none, 0, [], Nat.zero_le _, rfl, rfl, ⟨b4, Nat.le_refl _, Lib.hid rfl, OwnVs.nil, E4, K4, V4, Z4⟩⟩
  case round =>
    obtain ⟨k, B, cb_, ys, hk, rfl, hyl, hV⟩ := hrel
    have hyl' : k = ys.length := hyl.symm
    subst hyl'
    clear hyl
    rename World => w5
    by_cases hlt : ys.length < es.length
    · have hT : (ys.length : Int) < es.length := by omega
      obtain ⟨g, o, rfl, hR⟩ := hr.out (by simp; omega)
      have hp := hl.out es[ys.length] (List.getElem_mem hlt)
      have hR1 := hR ys.length (by simpa using hlt)
      rw [List.getElem_map] at hR1
      have hR2 : w5.rangeAt g (o + ys.length * 33) es[ys.length].cells := fun j u hu => hV.ab.at (hR1 j u hu)
      have hel := EM.len hp
      have hps := hs.out es[ys.length] (List.getElem_mem hlt)
      have eo := EM.one es[ys.length]
      have HS : Hid ((es.take (ys.length + 1)).map EM.v = (es.take ys.length).map EM.v ++ [es[ys.length].v]) := by
        unfold Hid
        rw [List.take_add_one, List.getElem?_eq_getElem hlt]
        simp only [Option.toList_some, List.map_append, List.map_cons, List.map_nil]
      have Z6 : VB (w5.alloc (.cells EM.zero.cells.toArray 38)) w5.heap.size EM.zero.cells := VB.box (xs := EM.zero.cells.toArray) (T := 38) (by (repeat (first | exact new_plain wnA | with_reducible refine old_alloc ?_ | with_reducible refine old_drew ?_ | with_reducible refine old_set ?_ wnA | with_reducible refine old_ab (by assumption) ?_)))
      generalize es[ys.length] = x at *
      clear hR hR1
      go_upto_region 10 with (first
        | (refine list_ldM (o := ⟨some 34, _, _, _, _, _⟩) _ (o + ys.length * 33) x.cells hR2 infoEM Tryz.underlying38 rfl (by kernel_rfl) _ rfl rfl hel ?_)
        | (refine list_stV (o := ⟨none, _, _, _, _, _⟩) (us := x.cells) _ infoEM rfl _ _ rfl rfl rfl Z6 (by rw [hel]; rfl) hel eo ?_
           intro w6 h6))
      have hb6 : Ab w5 w6 := h6.ab w5 abA (Nat.le_refl _)
      have hV6 := hV.keep hb6
      have X6 := h6.v
      have z6 : w5.heap.size < w6.heap.size := by have := h6.sz; simp at this; omega
      have zB : ∀ g', B.map (·.block) = some g' → g' < w5.heap.size := fun g' e => hV.o.lt e
      have zL : ∀ g', B.map (·.block) = some g' → w4.heap.size ≤ g' := fun g' e => hV.o.low e
      have z5 := hV.zz
      clear hV hR2 Z6 h6 hb6
      generalize w5.heap.size = tb at *
      obtain ⟨l, hxl⟩ : ∃ l : List UInt8, x.p = ⟨l.toArray⟩ := ⟨x.p.data.toList, by simp⟩
      have hll : l.length ≤ 9223372036854775807 := by rw [hxl] at hps; exact hps
      have e0 : x.cells[0]? = some (.string ⟨l.toArray⟩) := by rw [← hxl]; rfl
      have hxv : Hid (x.v = Obj.L [Obj.B l, Obj.B x.b]) := by unfold Hid EM.v; rw [hxl]
      have hxb : ∀ i (h : i < x.b.length), x.cells[1 + i]? = some (cb x.b[i]) := fun i h => by
        rw [Nat.add_comm]
        show (idc x.b)[i]? = _
        exact idc_at h
      have hcv := conv_bytes w6.drew l
      have hge := grownCap_ge w6.drew l.length 0 5
      generalize grownCap w6.drew l.length 0 5 = cp at *
      have hcp : l.length ≤ cp := by omega
      refine region_last 14 (by kernel_rfl) (by kernel_rfl) rfl (S := fun w' => VB w' eb [.int .u8 3, .int .i64 0, .slice none 0 0, .slice B ys.length cb_] ∧ VB w' tb x.cells) ?_ (fun hHeld => ?_)
      · exact ⟨VB.ab hV6.e abA, VB.ab X6 abA⟩
      (refine rtA 0 ?_ ?_
       (try simp only [Act.put, stA, st0, st1]))
      (refine rtA 1 (.slice B ys.length cb_) ?_ (hy := by intro w hSw; have z0 := hSw.1.at 3 rfl; go_simp; (try with_reducible rfl)); (try simp only [Act.put, stA, st0, st1]))
      (refine rtA 2 ?_ ?_
       (try simp only [Act.put, stA, st0, st1]))
      (refine rtA 3 (.string ⟨l.toArray⟩) ?_ (hy := by intro w hSw; have z0 := hSw.2.at 0 e0; go_simp; (try with_reducible rfl)); (try simp only [Act.put, stA, st0, st1]))
      (refine rtA 6 ?_ ?_
       (try simp only [Act.put, stA, st0, st1]))
      (refine rtA 7 ?_ ?_
       (try simp only [Act.put, stA, st0, st1]))
      refine r1A 4 (fun K hK => ?_)
      (go_simp
       (refine hK.out _ _ ?_ (fun hHeld => ?_)
        · (try dsimp only); exact (show VB ((w6.alloc (.cells (bytesRow ⟨l.toArray⟩ cp) 5 ((bytesRow ⟨l.toArray⟩ cp).size, (bytesRow ⟨l.toArray⟩ cp).size + 1))).drew.drew) eb _ ∧ VB ((w6.alloc (.cells (bytesRow ⟨l.toArray⟩ cp) 5 ((bytesRow ⟨l.toArray⟩ cp).size, (bytesRow ⟨l.toArray⟩ cp).size + 1))).drew.drew) tb _ from ⟨VB.ab hV6.e abA, VB.ab X6 abA⟩)
        clear hK K
        (try simp only [Act.put, stA, st0, st1])))
      have b7 : Ab w6 ((w6.alloc (.cells (bytesRow ⟨l.toArray⟩ cp) 5 ((bytesRow ⟨l.toArray⟩ cp).size, (bytesRow ⟨l.toArray⟩ cp).size + 1))).drew.drew) := abA
      have R7 : RB ((w6.alloc (.cells (bytesRow ⟨l.toArray⟩ cp) 5 ((bytesRow ⟨l.toArray⟩ cp).size, (bytesRow ⟨l.toArray⟩ cp).size + 1))).drew.drew) 0 (some ⟨w6.heap.size, 0, none⟩) l := rb_row (c := cp) (by (repeat (first | exact new_plain wnA | with_reducible refine old_alloc ?_ | with_reducible refine old_drew ?_ | with_reducible refine old_set ?_ wnA | with_reducible refine old_ab (by assumption) ?_)))
      have s7 : w6.heap.size < (((w6.alloc (.cells (bytesRow ⟨l.toArray⟩ cp) 5 ((bytesRow ⟨l.toArray⟩ cp).size, (bytesRow ⟨l.toArray⟩ cp).size + 1))).drew.drew)).heap.size := by simp
      generalize ((w6.alloc (.cells (bytesRow ⟨l.toArray⟩ cp) 5 ((bytesRow ⟨l.toArray⟩ cp).size, (bytesRow ⟨l.toArray⟩ cp).size + 1))).drew.drew) = w7 at *
      refine r1A 5 (fun K hK => ?_)
      (go_simp
       (refine (odata_any (some ⟨w6.heap.size, 0, none⟩) l.length cp w7).mono ?_; rintro e w8 ⟨rfl, hb8⟩)
       (try go_wp2_with fail)
       (refine hK.out _ _ ?_ (fun hHeld => ?_)
        · (try dsimp only); exact ⟨(hV6.e.ab b7).ab hb8, (X6.ab b7).ab hb8⟩
        clear hK K
        (try simp only [Act.put, stA, st0, st1])))
      have b8 := b7.trans hb8
      refine r1A 8 (fun K hK => ?_)
      (go_simp
       (refine (odata_any (some ⟨tb, 1, none⟩) 32 32 w8).mono ?_; rintro e w9 ⟨rfl, hb9⟩)
       (try go_wp2_with fail)
       (refine hK.out _ _ ?_ (fun hHeld => ?_)
        · (try dsimp only); exact ⟨(hV6.e.ab b8).ab hb9, (X6.ab b8).ab hb9⟩
        clear hK K
        (try simp only [Act.put, stA, st0, st1])))
      have b9 := b8.trans hb9
      have s9 : w6.heap.size < w9.heap.size := Nat.lt_of_lt_of_le s7 (hb8.trans hb9).size
      have R9 := R7.ab (hb8.trans hb9)
      have X9 := X6.ab b9
      have hV9 := hV6.keep b9
      clear b7 b8 hb8 hb9 R7 X6 hV6 s7
      have b10 : Ab w9 (w9.alloc (.cells #[.int .u8 2, .int .i64 0, .slice (some ⟨w6.heap.size, 0, none⟩) l.length cp, .slice none 0 0, .int .u8 2, .int .i64 0, .slice (some ⟨tb, 1, none⟩) 32 32, .slice none 0 0] 88)) := abA
      refine r1A 9 (fun K hK => ?_)
      (go_simp
       (refine hK.out _ _ ?_ (fun hHeld => ?_)
        · (try dsimp only); exact (show VB (w9.alloc (.cells #[.int .u8 2, .int .i64 0, .slice (some ⟨w6.heap.size, 0, none⟩) l.length cp, .slice none 0 0, .int .u8 2, .int .i64 0, .slice (some ⟨tb, 1, none⟩) 32 32, .slice none 0 0] 88)) eb _ ∧ VB (w9.alloc (.cells #[.int .u8 2, .int .i64 0, .slice (some ⟨w6.heap.size, 0, none⟩) l.length cp, .slice none 0 0, .int .u8 2, .int .i64 0, .slice (some ⟨tb, 1, none⟩) 32 32, .slice none 0 0] 88)) tb _ from ⟨hV9.e.ab b10, X9.ab b10⟩)
        clear hK K
        (try simp only [Act.put, stA, st0, st1])))
      have G10 : VB (w9.alloc (.cells #[.int .u8 2, .int .i64 0, .slice (some ⟨w6.heap.size, 0, none⟩) l.length cp, .slice none 0 0, .int .u8 2, .int .i64 0, .slice (some ⟨tb, 1, none⟩) 32 32, .slice none 0 0] 88)) w9.heap.size (vcells [vmB (some ⟨w6.heap.size, 0, none⟩) l cp, vmB (some ⟨tb, 1, none⟩) x.b 32]) := by
        have : VB (w9.alloc (.cells #[.int .u8 2, .int .i64 0, .slice (some ⟨w6.heap.size, 0, none⟩) l.length cp, .slice none 0 0, .int .u8 2, .int .i64 0, .slice (some ⟨tb, 1, none⟩) 32 32, .slice none 0 0] 88)) w9.heap.size [.int .u8 2, .int .i64 0, .slice (some ⟨w6.heap.size, 0, none⟩) l.length cp, .slice none 0 0, .int .u8 2, .int .i64 0, .slice (some ⟨tb, 1, none⟩) 32 32, .slice none 0 0] := VB.box (xs := #[.int .u8 2, .int .i64 0, .slice (some ⟨w6.heap.size, 0, none⟩) l.length cp, .slice none 0 0, .int .u8 2, .int .i64 0, .slice (some ⟨tb, 1, none⟩) 32 32, .slice none 0 0]) (T := 88) (by (repeat (first | exact new_plain wnA | with_reducible refine old_alloc ?_ | with_reducible refine old_drew ?_ | with_reducible refine old_set ?_ wnA | with_reducible refine old_ab (by assumption) ?_)))
        show VB (w9.alloc (.cells #[.int .u8 2, .int .i64 0, .slice (some ⟨w6.heap.size, 0, none⟩) l.length cp, .slice none 0 0, .int .u8 2, .int .i64 0, .slice (some ⟨tb, 1, none⟩) 32 32, .slice none 0 0] 88)) w9.heap.size [.int .u8 2, .int .i64 0, .slice (some ⟨w6.heap.size, 0, none⟩) l.length cp, .slice none 0 0, .int .u8 2, .int .i64 0, .slice (some ⟨tb, 1, none⟩) x.b.length 32, .slice none 0 0]
        rw [hp]; exact this
      refine r1A 10 (fun K hK => ?_)
      (go_simp
       (refine (olist_any (some ⟨w9.heap.size, 0, none⟩) 2 2 (w9.alloc (.cells #[.int .u8 2, .int .i64 0, .slice (some ⟨w6.heap.size, 0, none⟩) l.length cp, .slice none 0 0, .int .u8 2, .int .i64 0, .slice (some ⟨tb, 1, none⟩) 32 32, .slice none 0 0] 88))).mono ?_; rintro e w11 ⟨rfl, hb11⟩)
       (try go_wp2_with fail)
       (refine hK.out _ _ ?_ (fun hHeld => ?_)
        · (try dsimp only); exact ⟨(hV9.e.ab b10).ab hb11, (X9.ab b10).ab hb11⟩
        clear hK K
        (try simp only [Act.put, stA, st0, st1])))
      have b11 := b10.trans hb11
      have G11 := G10.ab hb11
      have s11 : w9.heap.size < w11.heap.size := by have := hb11.size; simp at this; omega
      have R11 := R9.ab b11
      have X11 := X9.ab b11
      have hV11 := hV9.keep b11
      clear b10 G10 R9 X9 hV9 hb11
      have b12 : Ab w11 (w11.alloc (.cells #[.int .u8 3, .int .i64 0, .slice none 0 0, .slice (some ⟨w9.heap.size, 0, none⟩) 2 2] 88)) := abA
      refine r1A 11 (fun K hK => ?_)
      (go_simp
       (refine hK.out _ _ ?_ (fun hHeld => ?_)
        · (try dsimp only); exact (show VB (w11.alloc (.cells #[.int .u8 3, .int .i64 0, .slice none 0 0, .slice (some ⟨w9.heap.size, 0, none⟩) 2 2] 88)) eb _ ∧ VB (w11.alloc (.cells #[.int .u8 3, .int .i64 0, .slice none 0 0, .slice (some ⟨w9.heap.size, 0, none⟩) 2 2] 88)) tb _ from ⟨hV11.e.ab b12, X11.ab b12⟩)
        clear hK K
        (try simp only [Act.put, stA, st0, st1])))
      have XV : VL 2 (w11.alloc (.cells #[.int .u8 3, .int .i64 0, .slice none 0 0, .slice (some ⟨w9.heap.size, 0, none⟩) 2 2] 88)) (fun g => w4.heap.size ≤ g ∧ B.map (·.block) ≠ some g) (vmL (some ⟨w9.heap.size, 0, none⟩) [Obj.B l, Obj.B x.b] 2) := by
        have hB : ∀ g', tb ≤ g' → B.map (·.block) ≠ some g' := fun g' h e => by have := zB g' e; omega
        refine vl_list (d := 1) [vmB (some ⟨w6.heap.size, 0, none⟩) l cp, vmB (some ⟨tb, 1, none⟩) x.b 32] (G11.ab b12) ⟨by omega, hB _ (by omega)⟩ (fun y hy => ?_) (Nat.le_refl _) (by simp)
        rcases List.mem_cons.1 hy with rfl | hy
        · refine vl_B (fun hn => ?_) hcp (by omega)
          obtain ⟨ad, h1, _, h3⟩ := (R11.ab b12) hn
          cases h1
          exact ⟨_, rfl, ⟨by show w4.heap.size ≤ w6.heap.size; omega, hB _ (by show tb ≤ w6.heap.size; omega)⟩, h3⟩
        · obtain rfl : y = vmB (some ⟨tb, 1, none⟩) x.b 32 := by simpa using hy
          refine vl_B (fun hn => ⟨⟨tb, 1, none⟩, rfl, ⟨by show w4.heap.size ≤ tb; omega, hB _ (Nat.le_refl _)⟩, fun i hi => ?_⟩) (by omega) (by omega)
          rw [Addr.add_mid]
          exact (X11.ab b12).at (1 + i) (hxb i hi)
      have zsz : w4.heap.size ≤ ((w11.alloc (.cells #[.int .u8 3, .int .i64 0, .slice none 0 0, .slice (some ⟨w9.heap.size, 0, none⟩) 2 2] 88))).heap.size := by have := (hV11.keep b12).zz; exact this
      have hnew : ((w11.alloc (.cells #[.int .u8 3, .int .i64 0, .slice none 0 0, .slice (some ⟨w9.heap.size, 0, none⟩) 2 2] 88))).heap[w11.heap.size]? = some (.cells #[.int .u8 3, .int .i64 0, .slice none 0 0, .slice (some ⟨w9.heap.size, 0, none⟩) 2 2] 88 (0, 0)) := by (repeat (first | exact new_plain wnA | with_reducible refine old_alloc ?_ | with_reducible refine old_drew ?_ | with_reducible refine old_set ?_ wnA | with_reducible refine old_ab (by assumption) ?_))
      refine r1A 12 (fun K hK => ?_)
      (try simp only [Act.put, List.getElem_toArray, List.getElem_cons_succ, List.getElem_cons_zero, stA, st0, st1])
      refine if_go (by rfl) ?_
      refine wp_appVs (x := vmL (some ⟨w9.heap.size, 0, none⟩) [Obj.B l, Obj.B x.b] 2) _ _ rfl rfl rfl (hV11.o.ab b12) zsz hnew XV (by omega) ?_
      intro g' c' w13 zs ez O13 hg13 hk13
      have E13 := (hV11.e.ab b12).grw hg13 (fun e => by have := zL eb e; omega)
      have X13 := (X11.ab b12).grw hg13 (fun e => by have := zB tb e; omega)
      have K13 := (hV11.k.ab b12).grw hg13 (fun e => by have := zL kb e; omega)
      have B13 := (hV11.b.ab b12).grw hg13 (fun e => by have := zL w.heap.size e; omega)
      have Z13 := (hV11.z.ab b12).grw hg13 (fun e => by have := zL (w.heap.size + 1) e; omega)
      have b13 : Ab w w13 := grown_ab (hV11.ab.trans b12) hg13 (fun g e => by have := zL g e; omega)
      have z13 : w4.heap.size ≤ w13.heap.size := Nat.le_trans zsz hg13.size
      have v13 : Hid (zs.map VM.v = (es.take (ys.length + 1)).map EM.v) := by
        unfold Hid
        rw [ez.out, List.map_append, hV11.v.out, HS.out, hxv.out]
        rfl
      have l13 : zs.length = ys.length + 1 := by rw [ez.out]; simp
      (refine hK.out _ _ ?_ (fun hHeld => ?_)
       · (try dsimp only); exact ⟨E13, X13⟩
       clear hK K
       (try simp only [Act.put, stA, st0, st1]))
      clear XV hV11 hnew G11 R11 X11 hg13 b12 b11 ez hk13
      (refine rtA 13 ?_ ?_
       (try simp only [Act.put, stA, st0, st1]))
      refine wpAnyH_done (by kernel_rfl) ?_ _
      refine last_then ?_
      refine wpOp_step rfl (fun K hK => ?_)
      have q13 := E13.q 3 (.slice B ys.length cb_) rfl
      have g13 := E13.g 3
      go_simp
      refine hK _ _ ?_
      clear hK K
      go_wp2
      go_roundw
      case rel => exact ⟨ys.length + 1, some ⟨g', 0, none⟩, c', zs, by omega, by go_num, l13, ⟨Ab.set b13 (by show w.heap.size ≤ eb; omega) _, by simpa using z13, v13, O13.keep (fun g hg _ => Below.heap_setCell _ _ _ g (by show g ≠ eb; omega)), by rw [l13]; exact E13.set 3 (by simp) _, K13.other (by show eb ≠ kb; omega) _, B13.other (by show eb ≠ w.heap.size; omega) _, Z13.other (by show eb ≠ w.heap.size + 1; omega) _⟩⟩
      case measure => simp [intOf] <;> omega
    · have hke : ys.length = es.length := by omega
      have hT : ¬ ((ys.length : Nat) : Int) < (es.length : Int) := by omega
      have hvs : ys.map VM.v = es.map EM.v := by rw [hV.v.out, List.take_of_length_le (by omega)]
      have hl5 := hV.zz
      have b7 : Ab w5 (w5.alloc (.cells #[.int .u8 1, .int .i64 2, .slice none 0 0, .slice none 0 0, .int .u8 3, .int .i64 0, .slice none 0 0, .slice B ys.length cb_] 88)) := abA
      have G7 : VB (w5.alloc (.cells #[.int .u8 1, .int .i64 2, .slice none 0 0, .slice none 0 0, .int .u8 3, .int .i64 0, .slice none 0 0, .slice B ys.length cb_] 88)) w5.heap.size (vcells [vmN 2, vmL B (es.map EM.v) cb_]) := by
        have : VB (w5.alloc (.cells #[.int .u8 1, .int .i64 2, .slice none 0 0, .slice none 0 0, .int .u8 3, .int .i64 0, .slice none 0 0, .slice B ys.length cb_] 88)) w5.heap.size [.int .u8 1, .int .i64 2, .slice none 0 0, .slice none 0 0, .int .u8 3, .int .i64 0, .slice none 0 0, .slice B ys.length cb_] := VB.box (xs := #[.int .u8 1, .int .i64 2, .slice none 0 0, .slice none 0 0, .int .u8 3, .int .i64 0, .slice none 0 0, .slice B ys.length cb_]) (T := 88) (by (repeat (first | exact new_plain wnA | with_reducible refine old_alloc ?_ | with_reducible refine old_drew ?_ | with_reducible refine old_set ?_ wnA | with_reducible refine old_ab (by assumption) ?_)))
        show VB (w5.alloc (.cells #[.int .u8 1, .int .i64 2, .slice none 0 0, .slice none 0 0, .int .u8 3, .int .i64 0, .slice none 0 0, .slice B ys.length cb_] 88)) w5.heap.size [.int .u8 1, .int .i64 2, .slice none 0 0, .slice none 0 0, .int .u8 3, .int .i64 0, .slice none 0 0, .slice B (es.map EM.v).length cb_]
        rw [List.length_map, ← hke]; exact this
      clear hke
      go_wp2_with (first
        | (refine list_ldV (o := ⟨some 50, _, _, _, _, _⟩) _ infoVT Tryz.underlying88 rfl rfl _ rfl rfl hV.k rfl ?_)
        | (refine list_ldV (o := ⟨some 51, _, _, _, _, _⟩) _ infoVT Tryz.underlying88 rfl rfl _ rfl rfl hV.e rfl ?_))
      refine (olist_any (some ⟨w5.heap.size, 0, none⟩) 2 2 (w5.alloc (.cells #[.int .u8 1, .int .i64 2, .slice none 0 0, .slice none 0 0, .int .u8 3, .int .i64 0, .slice none 0 0, .slice B ys.length cb_] 88))).mono ?_
      rintro e w7 ⟨rfl, hb7⟩
      have Z7 := (hV.z.ab b7).ab hb7
      have G8 := G7.ab hb7
      have c7 := b7.trans hb7
      have O7 := hV.o.ab c7
      have b8 := hV.ab.trans c7
      go_wp2_with (refine list_stV (o := ⟨none, _, _, _, _, _⟩) (us := [.int .u8 3, .int .i64 0, .slice none 0 0, .slice (some ⟨w5.heap.size, 0, none⟩) 2 2]) _ infoVT rfl _ _ rfl rfl rfl Z7 rfl rfl rfl ?_; intro w9 h9)
      refine bodyPost_ret (res_V1 _ infoVT Tryz.underlying88 rfl Tryz.results50 _ rfl h9.v rfl) rfl ?_
      have b9 : Ab w w9 := h9.ab w b8 (by omega)
      have G9 := h9.vb G8 (by omega)
      have O9 : OwnVs 2 w4.heap.size w9 B cb_ ys := O7.keep (fun g hg _ => h9.blk g (by omega))
      have hle := O9.le
      exact ⟨vmL (some ⟨w5.heap.size, 0, none⟩) [Obj.N 2, Obj.L (es.map EM.v)] 2, rfl, Lib.hid rfl, vl_list (d := 3) [vmN 2, vmL B (es.map EM.v) cb_] G9 trivial (fun y hy => by
        rcases List.mem_cons.1 hy with rfl | hy
        · exact VL.le (vl_N (by omega) (by omega)) (by omega)
        · obtain rfl : y = vmL B (es.map EM.v) cb_ := by simpa using hy
          exact ⟨⟨by simp [vmL], by simp [vmL], by simp [vmL], by simp [vmL], by simp [vmL], by simp [vmL]; omega, by simp [vmL]; omega⟩, RS.nil, fun hn => by
            obtain ⟨g, o, h1, _, h2⟩ := (O9.vls hvs) hn
            exact ⟨g, o, h1, trivial, fun i hi => by
              obtain ⟨y, y1, y2, y3⟩ := h2 i hi
              exact ⟨y, y1, y2, y3.mono fun _ _ => trivial⟩⟩⟩) (Nat.le_refl _) (by simp), b9⟩
end Go.Proofs.YthfffbpcmlgoiaaGreatDoor
