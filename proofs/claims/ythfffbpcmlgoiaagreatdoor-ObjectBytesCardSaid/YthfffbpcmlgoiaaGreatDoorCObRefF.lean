/- The reference of layer 9: Encode, Of, Name, Blob, Commit. Own work. -/
import Derived.Test.YthfffbpcmlgoiaaGreatDoorCObRefE
import Derived.Test.YthfffbpcmlgoiaaGreatDoorCObEnc
import Derived.Test.YthfffbpcmlgoiaaGreatDoorCCvRefE
import Derived.Test.YthfffbpcmlgoiaaGreatDoorCKM
set_option linter.unusedVariables false
set_option linter.unusedSimpArgs false
namespace Go.Proofs.YthfffbpcmlgoiaaGreatDoor
open Go.RowKit
open Codec (V)

/-- The bytes of a valid object's value. -/
theorem robytes_any (o : OM) (hok : o.ok = true) (hl : ∀ e ∈ o.es, e.b.length = 32) (hp : ∀ p ∈ o.m.ps, p.length = 32) (ht : o.m.t.length = 32) (x : VM) (hx : x.v = o.v) (w : World) (hv : VL 4 w (fun _ => True) x) :
    Calls Tryz.prog 51 #[x.val] w fun e w' => ∃ A c, e = .returned (.slice A o.enc.length c) ∧ OR 5 w.heap.size w' A c o.enc ∧ Ab w w' := by
  have h3 := ok_len o hok hl hp ht
  have hk : Codec.kinds 6 x.v = true := by
    have := ok_check o hok hl hp ht
    rw [← hx] at this
    unfold Codec.check at this
    split at this
    · cases this
    · rename_i h; simpa using h
  have he : Codec.enc 6 x.v = o.enc := by rw [hx]; rfl
  refine ((rbytes_any 6).out x w hv hk (by rw [he]; omega)).mono ?_
  rintro e w' ⟨A, c, L, rfl, hL, hO, hb⟩
  rw [he] at hL
  rcases hL.out with ⟨h1, rfl | h2⟩
  · exact ⟨A, c, rfl, hO, hb⟩
  · have := h1.length_le
    omega
set_option maxRecDepth 100000 in
theorem r9encode_any (o : OM) (w : World) (h : OL w o) : Calls Tryz.prog 21 #[.agg o.cells.toArray] w (RetEnc w o.encE) := by
  have V0 : VB (w.alloc (.cells o.cells.toArray 32)) w.heap.size o.cells := VB.box (xs := o.cells.toArray) (T := 32) (by (repeat (first | exact new_plain wnA | with_reducible refine old_alloc ?_ | with_reducible refine old_drew ?_ | with_reducible refine old_set ?_ wnA | with_reducible refine old_ab (by assumption) ?_)))
  have b0 : Ab w (w.alloc (.cells o.cells.toArray 32)) := abA
  have T1 := fun w' (hk : Ab w w') => r9check_any o w' (h.ab hk)
  have hcl := OM.len h.m.t
  cases hok : o.ok with
  | false =>
    have hO : Hid (o.encE = ([], 8)) := by unfold Hid OM.encE; rw [hok]; rfl
    have hE : o.e = 8 := by unfold OM.e; rw [hok]; rfl
    rw [hE] at T1
    clear hE hok h
    generalize OM.encE o = q at *
    generalize OM.cells o = cs at *
    go_enter Tryz.func21, Tryz.ntmps21
    go_wp2_with (refine list_ldM (o := ⟨some 4, _, _, _, _, _⟩) _ 0 cs (VB.range V0) infoOM Tryz.underlying32 rfl (by kernel_rfl) _ rfl rfl hcl ?_)
    refine (T1 _ b0).mono ?_
    rintro e w1 ⟨rfl, hb1⟩
    have V1 := V0.ab hb1
    go_wp2_with (refine list_ldM (o := ⟨some 7, _, _, _, _, _⟩) _ 0 cs (VB.range V1) infoOM Tryz.underlying32 rfl (by kernel_rfl) _ rfl rfl hcl ?_)
    refine (T1 _ (b0.trans hb1)).mono ?_
    rintro e w2 ⟨rfl, hb2⟩
    go_wp2
    go_ret2
    exact ⟨none, 0, [], Lib.hid (by rw [hO.out]), by rw [hO.out]; rfl, RB.nil, Nat.le_refl _, b0.trans (hb1.trans hb2)⟩
  | true =>
    have hO : Hid (o.encE = (o.enc, 0)) := by unfold Hid OM.encE; rw [hok]; rfl
    have hE : o.e = 0 := by unfold OM.e; rw [hok]; rfl
    rw [hE] at T1
    have T2 := fun w' (hk : Ab w w') => rvalue_any o w' (h.ab hk) hok
    have T3 := Lib.hid (robytes_any o hok h.l h.m.l h.m.t)
    clear hE hok h
    generalize OM.enc o = en at *
    generalize OM.encE o = q at *
    generalize OM.v o = v at *
    generalize OM.cells o = cs at *
    go_enter Tryz.func21, Tryz.ntmps21
    go_wp2_with (refine list_ldM (o := ⟨some 4, _, _, _, _, _⟩) _ 0 cs (VB.range V0) infoOM Tryz.underlying32 rfl (by kernel_rfl) _ rfl rfl hcl ?_)
    refine (T1 _ b0).mono ?_
    rintro e w1 ⟨rfl, hb1⟩
    have V1 := V0.ab hb1
    go_wp2_with (refine list_ldM (o := ⟨some 9, _, _, _, _, _⟩) _ 0 cs (VB.range V1) infoOM Tryz.underlying32 rfl (by kernel_rfl) _ rfl rfl hcl ?_)
    refine (T2 _ (b0.trans hb1)).mono ?_
    rintro e w2 ⟨x, rfl, hx, hvl, hb2⟩
    go_wp2_with fail
    refine (T3.out x hx.out w2 hvl).mono ?_
    rintro e w3 ⟨A, c, rfl, hOR, hb3⟩
    have b3 := b0.trans (hb1.trans (hb2.trans hb3))
    have hle := hOR.le
    have hz := (b0.trans (hb1.trans hb2)).size
    go_wp2
    go_ret2
    exact ⟨A, c, en, Lib.hid (by rw [hO.out]), by rw [hO.out]; rfl, hOR.rb.mono hz, hle, b3⟩
set_option maxRecDepth 100000 in
theorem r9of_any (o : OM) (w : World) (h : OL w o) (hok : o.ok = true) : Calls Tryz.prog 54 #[.agg o.cells.toArray] w fun e w' => e = .returned (.agg (idc (Sha.of o.enc)).toArray) ∧ Ab w w' := by
  have T2 := fun w' (hk : Ab w w') => rvalue_any o w' (h.ab hk) hok
  have T3 := Lib.hid (robytes_any o hok h.l h.m.l h.m.t)
  have h3 := ok_len o hok h.l h.m.l h.m.t
  have hcl := OM.len h.m.t
  have hol : (idc (Sha.of o.enc)).length = 32 := idc_len rfl
  have T4 := fun w' A c (hb : RB w' 0 A o.enc) (hc : o.enc.length ≤ c) => rof_any A o.enc c w' hb hc (by omega)
  have HOL := Lib.hid hol
  clear h hok hol
  generalize hdg : Sha.of o.enc = dg at *
  clear hdg
  generalize OM.enc o = en at *
  generalize OM.v o = v at *
  generalize OM.cells o = cs at *
  go_enter Tryz.func54, Tryz.ntmps54
  have V0 : VB ((w.alloc (.cells cs.toArray 32)).alloc (.cells (idc (List.replicate 32 0)).toArray 27)) w.heap.size cs := VB.box (xs := cs.toArray) (T := 32) (by (repeat (first | exact new_plain wnA | with_reducible refine old_alloc ?_ | with_reducible refine old_drew ?_ | with_reducible refine old_set ?_ wnA | with_reducible refine old_ab (by assumption) ?_)))
  have Z0 : VB ((w.alloc (.cells cs.toArray 32)).alloc (.cells (idc (List.replicate 32 0)).toArray 27)) (w.heap.size + 1) (idc (List.replicate 32 0)) := VB.box (xs := (idc (List.replicate 32 0)).toArray) (T := 27) (by (repeat (first | exact new_plain wnA | with_reducible refine old_alloc ?_ | with_reducible refine old_drew ?_ | with_reducible refine old_set ?_ wnA | with_reducible refine old_ab (by assumption) ?_)))
  have b0 : Ab w ((w.alloc (.cells cs.toArray 32)).alloc (.cells (idc (List.replicate 32 0)).toArray 27)) := abA
  go_wp2_with (refine list_ldM (o := ⟨some 3, _, _, _, _, _⟩) _ 0 cs (VB.range V0) infoOM Tryz.underlying32 rfl (by kernel_rfl) _ rfl rfl hcl ?_)
  refine (T2 _ b0).mono ?_
  rintro e w1 ⟨x, rfl, hx, hvl, hb1⟩
  go_wp2_with fail
  refine (T3.out x hx.out w1 hvl).mono ?_
  rintro e w2 ⟨A, c, rfl, hOR, hb2⟩
  have hle := hOR.le
  go_wp2_with fail
  refine (T4 w2 A c hOR.rb.zero hle).mono ?_
  rintro e w3 ⟨rfl, hb3⟩
  have Z3 := Z0.ab (hb1.trans (hb2.trans hb3))
  go_wp2_with (refine list_stV (o := ⟨none, _, _, _, _, _⟩) (us := idc dg) _ infoIdT rfl _ _ rfl rfl rfl Z3 (by rw [HOL.out]; rfl) HOL.out (idc_one _) ?_
               intro w9 h9)
  refine bodyPost_ret (res_V1 _ infoIdT Tryz.underlying27 rfl Tryz.results54 _ rfl h9.v HOL.out) rfl ?_
  exact ⟨rfl, h9.ab _ (b0.trans (hb1.trans (hb2.trans hb3))) (by omega)⟩
set_option maxRecDepth 100000 in
set_option maxHeartbeats 1000000 in
theorem r9name_any (o : OM) (w : World) (h : OL w o) : Calls Tryz.prog 23 #[.agg o.cells.toArray] w (RetId w o.nameE) := by
  have hcl := OM.len h.m.t
  have T1 := fun w' (hk : Ab w w') => r9check_any o w' (h.ab hk)
  cases hok : o.ok with
  | false =>
    have hO : Hid (o.nameE = (List.replicate 32 0, 8)) := by unfold Hid OM.nameE; rw [hok]; rfl
    have hE : o.e = 8 := by unfold OM.e; rw [hok]; rfl
    rw [hE] at T1
    clear hE hok h
    generalize OM.nameE o = q at *
    generalize OM.cells o = cs at *
    go_enter Tryz.func23, Tryz.ntmps23
    have V0 : VB ((w.alloc (.cells cs.toArray 32)).alloc (.cells (idc (List.replicate 32 0)).toArray 27)) w.heap.size cs := VB.box (xs := cs.toArray) (T := 32) (by (repeat (first | exact new_plain wnA | with_reducible refine old_alloc ?_ | with_reducible refine old_drew ?_ | with_reducible refine old_set ?_ wnA | with_reducible refine old_ab (by assumption) ?_)))
    have Z0 : VB ((w.alloc (.cells cs.toArray 32)).alloc (.cells (idc (List.replicate 32 0)).toArray 27)) (w.heap.size + 1) (idc (List.replicate 32 0)) := VB.box (xs := (idc (List.replicate 32 0)).toArray) (T := 27) (by (repeat (first | exact new_plain wnA | with_reducible refine old_alloc ?_ | with_reducible refine old_drew ?_ | with_reducible refine old_set ?_ wnA | with_reducible refine old_ab (by assumption) ?_)))
    have b0 : Ab w ((w.alloc (.cells cs.toArray 32)).alloc (.cells (idc (List.replicate 32 0)).toArray 27)) := abA
    go_wp2_with (refine list_ldM (o := ⟨some 4, _, _, _, _, _⟩) _ 0 cs (VB.range V0) infoOM Tryz.underlying32 rfl (by kernel_rfl) _ rfl rfl hcl ?_)
    refine (T1 _ b0).mono ?_
    rintro e w1 ⟨rfl, hb1⟩
    have V1 := V0.ab hb1
    go_wp2_with (refine list_ldM (o := ⟨some 8, _, _, _, _, _⟩) _ 0 cs (VB.range V1) infoOM Tryz.underlying32 rfl (by kernel_rfl) _ rfl rfl hcl ?_)
    refine (T1 _ (b0.trans hb1)).mono ?_
    rintro e w2 ⟨rfl, hb2⟩
    have Z2 := Z0.ab (hb1.trans hb2)
    go_wp2_with (refine list_stV (o := ⟨none, _, _, _, _, _⟩) (us := idc (List.replicate 32 0)) _ infoIdT rfl _ _ rfl rfl rfl Z2 rfl (by simp [idc]) (idc_one _) ?_
                 intro w9 h9)
    refine bodyPost_ret (res_V2 _ infoIdT Tryz.underlying27 rfl Tryz.results23 _ rfl (h9.v.ab abA) (by simp [idc])) rfl ?_
    exact ⟨by rw [hO.out]; rfl, Ab.trans (h9.ab _ (b0.trans (hb1.trans hb2)) (by omega)) abA⟩
  | true =>
    have hO : Hid (o.nameE = (Sha.of o.enc, 0)) := by unfold Hid OM.nameE; rw [hok]; rfl
    have hE : o.e = 0 := by unfold OM.e; rw [hok]; rfl
    rw [hE] at T1
    have T2 := fun w' (hk : Ab w w') => r9of_any o w' (h.ab hk) hok
    have hol : (idc (Sha.of o.enc)).length = 32 := idc_len rfl
    have HOL := Lib.hid hol
    clear hE hok h hol
    generalize Sha.of o.enc = dg at *
    generalize OM.nameE o = q at *
    generalize OM.cells o = cs at *
    go_enter Tryz.func23, Tryz.ntmps23
    have V0 : VB ((w.alloc (.cells cs.toArray 32)).alloc (.cells (idc (List.replicate 32 0)).toArray 27)) w.heap.size cs := VB.box (xs := cs.toArray) (T := 32) (by (repeat (first | exact new_plain wnA | with_reducible refine old_alloc ?_ | with_reducible refine old_drew ?_ | with_reducible refine old_set ?_ wnA | with_reducible refine old_ab (by assumption) ?_)))
    have Z0 : VB ((w.alloc (.cells cs.toArray 32)).alloc (.cells (idc (List.replicate 32 0)).toArray 27)) (w.heap.size + 1) (idc (List.replicate 32 0)) := VB.box (xs := (idc (List.replicate 32 0)).toArray) (T := 27) (by (repeat (first | exact new_plain wnA | with_reducible refine old_alloc ?_ | with_reducible refine old_drew ?_ | with_reducible refine old_set ?_ wnA | with_reducible refine old_ab (by assumption) ?_)))
    have b0 : Ab w ((w.alloc (.cells cs.toArray 32)).alloc (.cells (idc (List.replicate 32 0)).toArray 27)) := abA
    go_wp2_with (refine list_ldM (o := ⟨some 4, _, _, _, _, _⟩) _ 0 cs (VB.range V0) infoOM Tryz.underlying32 rfl (by kernel_rfl) _ rfl rfl hcl ?_)
    refine (T1 _ b0).mono ?_
    rintro e w1 ⟨rfl, hb1⟩
    have V1 := V0.ab hb1
    go_wp2_with (refine list_ldM (o := ⟨some 10, _, _, _, _, _⟩) _ 0 cs (VB.range V1) infoOM Tryz.underlying32 rfl (by kernel_rfl) _ rfl rfl hcl ?_)
    refine (T2 _ (b0.trans hb1)).mono ?_
    rintro e w2 ⟨rfl, hb2⟩
    have Z2 := Z0.ab (hb1.trans hb2)
    go_wp2_with (refine list_stV (o := ⟨none, _, _, _, _, _⟩) (us := idc dg) _ infoIdT rfl _ _ rfl rfl rfl Z2 (by rw [HOL.out]; rfl) HOL.out (idc_one _) ?_
                 intro w9 h9)
    refine bodyPost_ret (res_V2 _ infoIdT Tryz.underlying27 rfl Tryz.results23 _ rfl (h9.v.ab abA) HOL.out) rfl ?_
    exact ⟨by rw [hO.out]; rfl, Ab.trans (h9.ab _ (b0.trans (hb1.trans hb2)) (by omega)) abA⟩
def OM.zero : OM := ⟨0, none, [], 0, none, [], 0, CM.zero⟩
set_option maxRecDepth 100000 in
/-- A blob of the reference: its bytes are its own. -/
theorem rblob_any (A : Option Addr) (t : List UInt8) (c : Nat) (w : World) (hb : RB w 0 A t) (hc : t.length ≤ c) (hl : t.length ≤ 1000000) :
    Calls Tryz.prog 55 #[.slice A t.length c] w fun e w' => ∃ A' c', e = .returned (.agg (obB A' t c').cells.toArray) ∧ RB w' w.heap.size A' t ∧ t.length ≤ c' ∧ Ab w w' := by
  go_enter Tryz.func55, Tryz.ntmps55
  have Y0 : VB (w.alloc (.cells OM.zero.cells.toArray 32)) w.heap.size OM.zero.cells := VB.box (xs := OM.zero.cells.toArray) (T := 32) (by (repeat (first | exact new_plain wnA | with_reducible refine old_alloc ?_ | with_reducible refine old_drew ?_ | with_reducible refine old_set ?_ wnA | with_reducible refine old_ab (by assumption) ?_)))
  have Y1 := Y0.ab (show Ab _ ((w.alloc (.cells OM.zero.cells.toArray 32)).alloc (.cells #[] 5)) from abA)
  go_wp2_with (first
    | ((at_builtin
        refine listLit rfl _ _ rfl rfl rfl (m := t) rfl (by (repeat (first | exact new_plain wnA | with_reducible refine old_alloc ?_ | with_reducible refine old_drew ?_ | with_reducible refine old_set ?_ wnA | with_reducible refine old_ab (by assumption) ?_))) (RB.ab hb (show Ab w _ from abA)) hc (by omega) ?_
        intro A1 d1 w1 L1 e1 b1 o1
        have oA := o1 (w.heap.size + 1) (by simp) (by simp)
        have ab1 : Ab w w1 := Ab.trans (by exact abA) b1
        have YA := Y1.ab b1
        clear o1))
    | (refine list_stV (o := ⟨none, _, _, _, _, _⟩) (us := (obB A1 L1 d1).cells) _ infoOM rfl _ _ rfl rfl rfl YA rfl rfl (OM.one _) ?_; intro w9 h9))
  refine bodyPost_ret (res_V1 _ infoOM Tryz.underlying32 rfl Tryz.results55 _ rfl h9.v rfl) rfl ?_
  have hl1 : L1 = t := e1.out
  subst hl1
  refine ⟨A1, d1, rfl, ?_, oA.le, h9.ab w ab1 (Nat.le_refl _)⟩
  intro hn
  obtain ⟨ad, h1, h2, h3⟩ := oA.rb hn
  exact ⟨ad, h1, by omega, fun i hi => (World.cell?_of_block (h9.blk _ (by rw [addr_add_block]; omega))).trans (h3 i hi)⟩
set_option maxRecDepth 100000 in
theorem r9blob_any (A : Option Addr) (t : List UInt8) (c : Nat) (w : World) (hb : RB w 0 A t) (hc : t.length ≤ c) (hl : t.length ≤ 1000000) : Calls Tryz.prog 24 #[.slice A t.length c] w (RetId w (obB A t c).nameE) := by
  have T0 : ∀ w', Ab w w' → _ := fun w' hk => rblob_any A t c w' (hb.ab hk) hc hl
  have hne : ∀ A' c', (obB A' t c').nameE = (obB A t c).nameE := fun A' c' => rfl
  have T1 : ∀ w' A' c', RB w' 0 A' t → t.length ≤ c' → Calls Tryz.prog 23 #[.agg (obB A' t c').cells.toArray] w' (RetId w' (obB A t c).nameE) := fun w' A' c' h1 h2 => r9name_any (obB A' t c') w' (OL.blob h1 h2 (by omega))
  have hnl := idc_len (OM.name_len (obB A t c))
  generalize (obB A t c).nameE = q at *
  have HNL := Lib.hid hnl
  clear hnl hne
  go_enter Tryz.func24, Tryz.ntmps24
  have Z0 : VB (w.alloc (.cells (idc (List.replicate 32 0)).toArray 27)) w.heap.size (idc (List.replicate 32 0)) := VB.box (xs := (idc (List.replicate 32 0)).toArray) (T := 27) (by (repeat (first | exact new_plain wnA | with_reducible refine old_alloc ?_ | with_reducible refine old_drew ?_ | with_reducible refine old_set ?_ wnA | with_reducible refine old_ab (by assumption) ?_)))
  have b0 : Ab w (w.alloc (.cells (idc (List.replicate 32 0)).toArray 27)) := abA
  go_wp2_with fail
  refine (T0 _ b0).mono ?_
  rintro e w1 ⟨A', c', rfl, hb1, hc1, ha1⟩
  have T2 := T1 w1 A' c' hb1.zero hc1
  generalize (obB A' t c').cells = cs at *
  go_wp2_with fail
  refine T2.mono ?_
  rintro e w2 ⟨rfl, hb2⟩
  have Z1 := Z0.ab (ha1.trans hb2)
  go_wp2_with (refine list_stV (o := ⟨none, _, _, _, _, _⟩) (us := idc q.1) _ infoIdT rfl _ _ rfl rfl rfl Z1 (by rw [HNL.out]; rfl) HNL.out (idc_one _) ?_
               intro w9 h9)
  refine bodyPost_ret (res_V2 _ infoIdT Tryz.underlying27 rfl Tryz.results24 _ rfl (h9.v.ab abA) HNL.out) rfl ?_
  exact ⟨rfl, Ab.trans (h9.ab _ (b0.trans (ha1.trans hb2)) (by omega)) abA⟩
set_option maxRecDepth 100000 in
theorem r9commit_any (m : CM) (w : World) (h : CL w m) : Calls Tryz.prog 26 #[.agg m.cells.toArray] w (RetId w (obC m).nameE) := by
  have T1 : ∀ w', Ab w w' → Calls Tryz.prog 23 #[.agg (obC m).cells.toArray] w' (RetId w' (obC m).nameE) := fun w' hk => r9name_any (obC m) w' (OL.com (h.ab hk))
  have hnl := idc_len (OM.name_len (obC m))
  have hml := CM.len h.t
  have e : (obC m).cells = .int .u8 3 :: .slice none 0 0 :: .slice none 0 0 :: m.cells := rfl
  rw [e] at T1
  generalize (obC m).nameE = q at *
  clear e h
  generalize m.cells = ms at *
  have HNL := Lib.hid hnl
  clear hnl
  have HF : List.foldl (fun (cs : Array Value) (x : Value × Nat) => cs.setIfInBounds (3 + x.snd) x.fst) #[.int .u8 3, .slice none 0 0, .slice none 0 0, .int .u8 0, .int .u8 0, .int .u8 0, .int .u8 0, .int .u8 0, .int .u8 0, .int .u8 0, .int .u8 0, .int .u8 0, .int .u8 0, .int .u8 0, .int .u8 0, .int .u8 0, .int .u8 0, .int .u8 0, .int .u8 0, .int .u8 0, .int .u8 0, .int .u8 0, .int .u8 0, .int .u8 0, .int .u8 0, .int .u8 0, .int .u8 0, .int .u8 0, .int .u8 0, .int .u8 0, .int .u8 0, .int .u8 0, .int .u8 0, .int .u8 0, .int .u8 0, .slice none 0 0, .string ⟨#[]⟩, .int .i64 0] ms.zipIdx = (.int .u8 3 :: .slice none 0 0 :: .slice none 0 0 :: ms).toArray := fold_set 3 ms [.int .u8 3, .slice none 0 0, .slice none 0 0] CM.zero.cells 0 rfl (by rw [hml]; rfl)
  go_enter Tryz.func26, Tryz.ntmps26
  have V0 : VB ((w.alloc (.cells ms.toArray 30)).alloc (.cells (idc (List.replicate 32 0)).toArray 27)) w.heap.size ms := VB.box (xs := ms.toArray) (T := 30) (by (repeat (first | exact new_plain wnA | with_reducible refine old_alloc ?_ | with_reducible refine old_drew ?_ | with_reducible refine old_set ?_ wnA | with_reducible refine old_ab (by assumption) ?_)))
  have Z0 : VB ((w.alloc (.cells ms.toArray 30)).alloc (.cells (idc (List.replicate 32 0)).toArray 27)) (w.heap.size + 1) (idc (List.replicate 32 0)) := VB.box (xs := (idc (List.replicate 32 0)).toArray) (T := 27) (by (repeat (first | exact new_plain wnA | with_reducible refine old_alloc ?_ | with_reducible refine old_drew ?_ | with_reducible refine old_set ?_ wnA | with_reducible refine old_ab (by assumption) ?_)))
  have b0 : Ab w ((w.alloc (.cells ms.toArray 30)).alloc (.cells (idc (List.replicate 32 0)).toArray 27)) := abA
  go_wp2_with (refine list_ldM (o := ⟨some 4, _, _, _, _, _⟩) _ 0 ms (VB.range V0) infoCM Tryz.underlying30 rfl (by kernel_rfl) _ rfl rfl hml ?_)
  refine (T1 _ b0).mono ?_
  rintro e w1 ⟨rfl, hb1⟩
  have Z1 := Z0.ab hb1
  go_wp2_with (refine list_stV (o := ⟨none, _, _, _, _, _⟩) (us := idc q.1) _ infoIdT rfl _ _ rfl rfl rfl Z1 (by rw [HNL.out]; rfl) HNL.out (idc_one _) ?_
               intro w9 h9)
  refine bodyPost_ret (res_V2 _ infoIdT Tryz.underlying27 rfl Tryz.results26 _ rfl (h9.v.ab abA) HNL.out) rfl ?_
  exact ⟨rfl, Ab.trans (h9.ab _ (b0.trans hb1) (by omega)) abA⟩
end Go.Proofs.YthfffbpcmlgoiaaGreatDoor
