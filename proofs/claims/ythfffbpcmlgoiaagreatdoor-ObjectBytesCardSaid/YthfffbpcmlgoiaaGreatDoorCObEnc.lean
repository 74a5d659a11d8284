/- Bytes and names of objects. Own work. -/
import Derived.Test.YthfffbpcmlgoiaaGreatDoorCObMath
import Derived.Test.YthfffbpcmlgoiaaGreatDoorCShFunJ
set_option linter.unusedVariables false
set_option linter.unusedSimpArgs false
namespace Go.Proofs.YthfffbpcmlgoiaaGreatDoor
open Go.RowKit
open Codec (V)

/-- What Encode returns. -/
def OM.encE (o : OM) : List UInt8 × Int := if o.ok then (o.enc, 0) else ([], 8)
def RetEnc (w : World) (m : List UInt8 × Int) (e : Ending) (w' : World) : Prop := ∃ (A : Option Addr) (c : Nat) (L : List UInt8), Hid (L = m.1) ∧ e = .returned (.tuple #[.slice A L.length c, .int .i64 m.2]) ∧ RB w' w.heap.size A L ∧ L.length ≤ c ∧ Ab w w'
set_option maxRecDepth 100000 in
theorem encode9_any (o : OM) (w : World) (h : OL w o) : Calls Tryz.prog 20 #[.agg o.cells.toArray] w (RetEnc w o.encE) := by
  have V0 : VB (w.alloc (.cells o.cells.toArray 32)) w.heap.size o.cells := VB.box (xs := o.cells.toArray) (T := 32) (by (repeat (first | exact new_plain wnA | with_reducible refine old_alloc ?_ | with_reducible refine old_drew ?_ | with_reducible refine old_set ?_ wnA | with_reducible refine old_ab (by assumption) ?_)))
  have b0 : Ab w (w.alloc (.cells o.cells.toArray 32)) := abA
  have T1 := fun w' (hk : Ab w w') => check9_any o w' (h.ab hk)
  have hcl := OM.len h.m.t
  cases hok : o.ok with
  | false =>
    have hO : Hid (o.encE = ([], 8)) := by unfold Hid OM.encE; rw [hok]; rfl
    have hE : o.e = 8 := by unfold OM.e; rw [hok]; rfl
    rw [hE] at T1
    clear hE hok h
    generalize OM.encE o = q at *
    generalize OM.cells o = cs at *
    go_enter Tryz.func20, Tryz.ntmps20
    go_wp2_with (refine list_ldM (o := ⟨some 5, _, _, _, _, _⟩) _ 0 cs (VB.range V0) infoOM Tryz.underlying32 rfl (by kernel_rfl) _ rfl rfl hcl ?_)
    refine (T1 _ b0).mono ?_
    rintro e w1 ⟨rfl, hb1⟩
    go_wp2
    go_ret2
    exact ⟨none, 0, [], Lib.hid (by rw [hO.out]), by rw [hO.out]; rfl, RB.nil, Nat.le_refl _, b0.trans hb1⟩
  | true =>
    have hO : Hid (o.encE = (o.enc, 0)) := by unfold Hid OM.encE; rw [hok]; rfl
    have hE : o.e = 0 := by unfold OM.e; rw [hok]; rfl
    rw [hE] at T1
    have T2 := fun w' (hk : Ab w w') => valueOf_any o w' (h.ab hk) hok
    have HC := Lib.hid (ok_encode o hok h.l h.m.l h.m.t)
    have HF : Hid (Fits o.v) := fun _ => by
      have h1 := ok_len o hok h.l h.m.l h.m.t
      have : (Codec.enc 6 o.v).length ≤ 3000 := h1
      omega
    clear hE hok h
    generalize OM.enc o = en at *
    generalize OM.encE o = q at *
    generalize OM.v o = v at *
    generalize OM.cells o = cs at *
    go_enter Tryz.func20, Tryz.ntmps20
    go_wp2_with (refine list_ldM (o := ⟨some 5, _, _, _, _, _⟩) _ 0 cs (VB.range V0) infoOM Tryz.underlying32 rfl (by kernel_rfl) _ rfl rfl hcl ?_)
    refine (T1 _ b0).mono ?_
    rintro e w1 ⟨rfl, hb1⟩
    have V1 := V0.ab hb1
    go_wp2_with (refine list_ldM (o := ⟨some 10, _, _, _, _, _⟩) _ 0 cs (VB.range V1) infoOM Tryz.underlying32 rfl (by kernel_rfl) _ rfl rfl hcl ?_)
    refine (T2 _ (b0.trans hb1)).mono ?_
    rintro e w2 ⟨x, rfl, hx, hvl, hb2⟩
    have EN := encode_any 4 (fun _ => True) x w2 hvl (by rw [hx.out]; exact HF.out)
    rw [hx.out] at EN
    go_wp2_with fail
    refine EN.mono ?_
    rintro e w3 ⟨A, c, L, er, rfl, hL, hOR, hb3⟩
    obtain ⟨rfl, rfl⟩ := Prod.mk.inj (hL.out.symm.trans HC.out)
    have b3 := b0.trans (hb1.trans (hb2.trans hb3))
    have hle := hOR.le
    have hz := (b0.trans (hb1.trans hb2)).size
    go_wp2
    go_ret2
    exact ⟨A, c, L, Lib.hid (by rw [hO.out]), by rw [hO.out]; rfl, fun hn => by
      obtain ⟨ad, h1, h2, h3⟩ := hOR.rb hn
      exact ⟨ad, h1, Nat.le_trans hz h2, h3⟩, hle, b3⟩
/-- What Name returns. -/
def OM.nameE (o : OM) : List UInt8 × Int := if o.ok then (Sha.of o.enc, 0) else (List.replicate 32 0, 8)
theorem OM.name_len (o : OM) : o.nameE.1.length = 32 := by
  unfold OM.nameE
  split
  · exact Sha.dig_length _
  · simp
def RetId (w : World) (m : List UInt8 × Int) (e : Ending) (w' : World) : Prop := e = .returned (.tuple #[.agg (idc m.1).toArray, .int .i64 m.2]) ∧ Ab w w'
set_option maxRecDepth 100000 in
set_option maxHeartbeats 1000000 in
theorem name9_any (o : OM) (w : World) (hG : Glob w) (h : OL w o) : Calls Tryz.prog 22 #[.agg o.cells.toArray] w (RetId w o.nameE) := by
  have hcl := OM.len h.m.t
  have T1 := fun w' (hk : Ab w w') => encode9_any o w' (h.ab hk)
  have hnl := OM.name_len o
  cases hok : o.ok with
  | false =>
    have hO : Hid (o.nameE = (List.replicate 32 0, 8)) := by unfold Hid OM.nameE; rw [hok]; rfl
    have hE : o.encE = ([], 8) := by unfold OM.encE; rw [hok]; rfl
    rw [hE] at T1
    clear hE hok h hnl
    generalize OM.nameE o = q at *
    generalize OM.cells o = cs at *
    go_enter Tryz.func22, Tryz.ntmps22
    have V0 : VB ((w.alloc (.cells cs.toArray 32)).alloc (.cells (idc (List.replicate 32 0)).toArray 27)) w.heap.size cs := VB.box (xs := cs.toArray) (T := 32) (by (repeat (first | exact new_plain wnA | with_reducible refine old_alloc ?_ | with_reducible refine old_drew ?_ | with_reducible refine old_set ?_ wnA | with_reducible refine old_ab (by assumption) ?_)))
    have Z0 : VB ((w.alloc (.cells cs.toArray 32)).alloc (.cells (idc (List.replicate 32 0)).toArray 27)) (w.heap.size + 1) (idc (List.replicate 32 0)) := VB.box (xs := (idc (List.replicate 32 0)).toArray) (T := 27) (by (repeat (first | exact new_plain wnA | with_reducible refine old_alloc ?_ | with_reducible refine old_drew ?_ | with_reducible refine old_set ?_ wnA | with_reducible refine old_ab (by assumption) ?_)))
    have b0 : Ab w ((w.alloc (.cells cs.toArray 32)).alloc (.cells (idc (List.replicate 32 0)).toArray 27)) := abA
    go_wp2_with (refine list_ldM (o := ⟨some 7, _, _, _, _, _⟩) _ 0 cs (VB.range V0) infoOM Tryz.underlying32 rfl (by kernel_rfl) _ rfl rfl hcl ?_)
    refine (T1 _ b0).mono ?_
    rintro e w1 ⟨A, c, L, hL, rfl, hR, hc, hb1⟩
    have Z1 := Z0.ab hb1
    go_wp2_with (refine list_stV (o := ⟨none, _, _, _, _, _⟩) (us := idc (List.replicate 32 0)) _ infoIdT rfl _ _ rfl rfl rfl Z1 rfl (by simp [idc]) (idc_one _) ?_
                 intro w9 h9)
    refine bodyPost_ret (res_V2 _ infoIdT Tryz.underlying27 rfl Tryz.results22 _ rfl (h9.v.ab abA) (by simp [idc])) rfl ?_
    exact ⟨by rw [hO.out]; rfl, Ab.trans (h9.ab _ (b0.trans hb1) (by omega)) abA⟩
  | true =>
    have hO : Hid (o.nameE = (Sha.of o.enc, 0)) := by unfold Hid OM.nameE; rw [hok]; rfl
    have hE : o.encE = (o.enc, 0) := by unfold OM.encE; rw [hok]; rfl
    have hle := ok_len o hok h.l h.m.l h.m.t
    rw [hE] at T1
    clear hE hok h hnl
    generalize OM.enc o = en at *
    have S1 : ∀ w' (hk : Ab w w') (A : Option Addr) (c : Nat), RB w' 0 A en → en.length ≤ c → Calls Tryz.prog 53 #[.slice A en.length c] w' fun e w2 => e = .returned (.tuple #[.agg (idc (Sha.of en)).toArray, .int .i64 0]) ∧ Ab w' w2 := fun w' hk A c hb hc => by
      have := sum_any A en c w' (hG.ab hk) hb hc (by omega)
      rw [show sumE en = (Sha.of en, 0) by unfold sumE; rw [if_pos (by omega)]] at this
      exact this
    have hol : (idc (Sha.of en)).length = 32 := idc_len rfl
    have HOL := Lib.hid hol
    clear hol
    generalize Sha.of en = dg at *
    generalize OM.nameE o = q at *
    generalize OM.cells o = cs at *
    go_enter Tryz.func22, Tryz.ntmps22
    have V0 : VB ((w.alloc (.cells cs.toArray 32)).alloc (.cells (idc (List.replicate 32 0)).toArray 27)) w.heap.size cs := VB.box (xs := cs.toArray) (T := 32) (by (repeat (first | exact new_plain wnA | with_reducible refine old_alloc ?_ | with_reducible refine old_drew ?_ | with_reducible refine old_set ?_ wnA | with_reducible refine old_ab (by assumption) ?_)))
    have Z0 : VB ((w.alloc (.cells cs.toArray 32)).alloc (.cells (idc (List.replicate 32 0)).toArray 27)) (w.heap.size + 1) (idc (List.replicate 32 0)) := VB.box (xs := (idc (List.replicate 32 0)).toArray) (T := 27) (by (repeat (first | exact new_plain wnA | with_reducible refine old_alloc ?_ | with_reducible refine old_drew ?_ | with_reducible refine old_set ?_ wnA | with_reducible refine old_ab (by assumption) ?_)))
    have b0 : Ab w ((w.alloc (.cells cs.toArray 32)).alloc (.cells (idc (List.replicate 32 0)).toArray 27)) := abA
    go_wp2_with (refine list_ldM (o := ⟨some 7, _, _, _, _, _⟩) _ 0 cs (VB.range V0) infoOM Tryz.underlying32 rfl (by kernel_rfl) _ rfl rfl hcl ?_)
    refine (T1 _ b0).mono ?_
    rintro e w1 ⟨A, c, L, hL, rfl, hR, hc, hb1⟩
    obtain rfl : L = en := hL.out
    have Z1 := Z0.ab hb1
    go_wp2_with fail
    refine (S1 w1 (b0.trans hb1) A c hR.zero hc).mono ?_
    rintro e w2 ⟨rfl, hb2⟩
    have Z2 := Z1.ab hb2
    go_wp2_with (refine list_stV (o := ⟨none, _, _, _, _, _⟩) (us := idc dg) _ infoIdT rfl _ _ rfl rfl rfl Z2 (by rw [HOL.out]; rfl) HOL.out (idc_one _) ?_
                 intro w9 h9)
    refine bodyPost_ret (res_V2 _ infoIdT Tryz.underlying27 rfl Tryz.results22 _ rfl (h9.v.ab abA) HOL.out) rfl ?_
    exact ⟨by rw [hO.out]; rfl, Ab.trans (h9.ab _ (b0.trans (hb1.trans hb2)) (by omega)) abA⟩
theorem CL.zero (w : World) : CL w CM.zero := ⟨by simp [CM.zero], Rw.nil, fun p hp => absurd hp (by simp [CM.zero]), Nat.le_refl _, by simp [CM.zero], by simp [CM.zero], by simp [CM.zero], by simp [CM.zero]⟩
/-- A blob, a commit as objects. -/
def obB (A : Option Addr) (t : List UInt8) (c : Nat) : OM := ⟨1, A, t, c, none, [], 0, CM.zero⟩
def obC (m : CM) : OM := ⟨3, none, [], 0, none, [], 0, m⟩
theorem OL.blob {w : World} {A : Option Addr} {t : List UInt8} {c : Nat} (hb : RB w 0 A t) (hc : t.length ≤ c) (hl : t.length ≤ 9223372036854775807) : OL w (obB A t c) :=
  ⟨by simp [obB], hb, hc, hl, Rw.nil, fun e he => absurd he (by simp [obB]), fun e he => absurd he (by simp [obB]), Nat.le_refl _, by simp [obB], CL.zero w⟩
theorem OL.com {w : World} {m : CM} (h : CL w m) : OL w (obC m) :=
  ⟨by simp [obC], RB.nil, Nat.le_refl _, by simp [obC], Rw.nil, fun e he => absurd he (by simp [obC]), fun e he => absurd he (by simp [obC]), Nat.le_refl _, by simp [obC], h⟩
set_option maxRecDepth 100000 in
theorem blob9_any (A : Option Addr) (t : List UInt8) (c : Nat) (w : World) (hG : Glob w) (hb : RB w 0 A t) (hc : t.length ≤ c) (hl : t.length ≤ 9223372036854775807) : Calls Tryz.prog 16 #[.slice A t.length c] w (RetId w (obB A t c).nameE) := by
  have T1 : ∀ w', Ab w w' → Calls Tryz.prog 22 #[.agg (obB A t c).cells.toArray] w' (RetId w' (obB A t c).nameE) := fun w' hk => name9_any (obB A t c) w' (hG.ab hk) (OL.blob (hb.ab hk) hc hl)
  have hnl := idc_len (OM.name_len (obB A t c))
  generalize (obB A t c).nameE = q at *
  have HNL := Lib.hid hnl
  clear hnl
  go_enter Tryz.func16, Tryz.ntmps16
  have Z0 : VB (w.alloc (.cells (idc (List.replicate 32 0)).toArray 27)) w.heap.size (idc (List.replicate 32 0)) := VB.box (xs := (idc (List.replicate 32 0)).toArray) (T := 27) (by (repeat (first | exact new_plain wnA | with_reducible refine old_alloc ?_ | with_reducible refine old_drew ?_ | with_reducible refine old_set ?_ wnA | with_reducible refine old_ab (by assumption) ?_)))
  have b0 : Ab w (w.alloc (.cells (idc (List.replicate 32 0)).toArray 27)) := abA
  go_wp2_with fail
  refine (T1 _ b0).mono ?_
  rintro e w1 ⟨rfl, hb1⟩
  have Z1 := Z0.ab hb1
  go_wp2_with (refine list_stV (o := ⟨none, _, _, _, _, _⟩) (us := idc q.1) _ infoIdT rfl _ _ rfl rfl rfl Z1 (by rw [HNL.out]; rfl) HNL.out (idc_one _) ?_
               intro w9 h9)
  refine bodyPost_ret (res_V2 _ infoIdT Tryz.underlying27 rfl Tryz.results16 _ rfl (h9.v.ab abA) HNL.out) rfl ?_
  exact ⟨rfl, Ab.trans (h9.ab _ (b0.trans hb1) (by omega)) abA⟩
/-- A struct built around an inner one. -/
theorem fold_set (k : Nat) : ∀ (ms pre mid : List Value) (j : Nat), pre.length = k + j → mid.length = ms.length → List.foldl (fun (cs : Array Value) (x : Value × Nat) => cs.setIfInBounds (k + x.snd) x.fst) (pre ++ mid).toArray (ms.zipIdx j) = (pre ++ ms).toArray
  | [], pre, mid, j, _, h => by
    have : mid = [] := List.eq_nil_of_length_eq_zero (by simpa using h)
    subst this
    rfl
  | x :: ms, pre, mid, j, hp, h => by
    obtain ⟨y, mid, rfl⟩ : ∃ y m, mid = y :: m := by
      cases mid with
      | nil => simp at h
      | cons y m => exact ⟨y, m, rfl⟩
    have ih := fold_set k ms (pre ++ [x]) mid (j + 1) (by simp; omega) (by simpa using h)
    have e : (pre ++ y :: mid).toArray.setIfInBounds (k + j) x = ((pre ++ [x]) ++ mid).toArray := by
      rw [← hp]
      simp [List.set_append_right]
    rw [List.zipIdx_cons, List.foldl_cons]
    show List.foldl _ ((pre ++ y :: mid).toArray.setIfInBounds (k + j) x) _ = _
    rw [e, ih]
    simp
set_option maxRecDepth 100000 in
theorem commit9_any (m : CM) (w : World) (hG : Glob w) (h : CL w m) : Calls Tryz.prog 25 #[.agg m.cells.toArray] w (RetId w (obC m).nameE) := by
  have T1 : ∀ w', Ab w w' → Calls Tryz.prog 22 #[.agg (obC m).cells.toArray] w' (RetId w' (obC m).nameE) := fun w' hk => name9_any (obC m) w' (hG.ab hk) (OL.com (h.ab hk))
  have hnl := idc_len (OM.name_len (obC m))
  have hml := CM.len h.t
  have e : (obC m).cells = .int .u8 3 :: .slice none 0 0 :: .slice none 0 0 :: m.cells := rfl
  rw [e] at T1
  generalize (obC m).nameE = q at *
  clear e h
  generalize m.cells = ms at *
  have HNL := Lib.hid hnl
  clear hnl
  have HF : List.foldl (fun (cs : Array Value) (x : Value × Nat) => cs.setIfInBounds (3 + x.snd) x.fst) #[.int .u8 3, .slice none 0 0, .slice none 0 0, .int .u8 0, .int .u8 0, .int .u8 0, .int .u8 0, .int .u8 0, .int .u8 0, .int .u8 0, .int .u8 0, .int .u8 0, .int .u8 0, .int .u8 0, .int .u8 0, .int .u8 0, .int .u8 0, .int .u8 0, .int .u8 0, .int .u8 0, .int .u8 0, .int .u8 0, .int .u8 0, .int .u8 0, .int .u8 0, .int .u8 0, .int .u8 0, .int .u8 0, .int .u8 0, .int .u8 0, .int .u8 0, .int .u8 0, .int .u8 0, .int .u8 0, .int .u8 0, .slice none 0 0, .string ⟨#[]⟩, .int .i64 0] ms.zipIdx = (.int .u8 3 :: .slice none 0 0 :: .slice none 0 0 :: ms).toArray := fold_set 3 ms [.int .u8 3, .slice none 0 0, .slice none 0 0] CM.zero.cells 0 rfl (by rw [hml]; rfl)
  go_enter Tryz.func25, Tryz.ntmps25
  have V0 : VB ((w.alloc (.cells ms.toArray 30)).alloc (.cells (idc (List.replicate 32 0)).toArray 27)) w.heap.size ms := VB.box (xs := ms.toArray) (T := 30) (by (repeat (first | exact new_plain wnA | with_reducible refine old_alloc ?_ | with_reducible refine old_drew ?_ | with_reducible refine old_set ?_ wnA | with_reducible refine old_ab (by assumption) ?_)))
  have Z0 : VB ((w.alloc (.cells ms.toArray 30)).alloc (.cells (idc (List.replicate 32 0)).toArray 27)) (w.heap.size + 1) (idc (List.replicate 32 0)) := VB.box (xs := (idc (List.replicate 32 0)).toArray) (T := 27) (by (repeat (first | exact new_plain wnA | with_reducible refine old_alloc ?_ | with_reducible refine old_drew ?_ | with_reducible refine old_set ?_ wnA | with_reducible refine old_ab (by assumption) ?_)))
  have b0 : Ab w ((w.alloc (.cells ms.toArray 30)).alloc (.cells (idc (List.replicate 32 0)).toArray 27)) := abA
  go_wp2_with (refine list_ldM (o := ⟨some 4, _, _, _, _, _⟩) _ 0 ms (VB.range V0) infoCM Tryz.underlying30 rfl (by kernel_rfl) _ rfl rfl hml ?_)
  refine (T1 _ b0).mono ?_
  rintro e w1 ⟨rfl, hb1⟩
  have Z1 := Z0.ab hb1
  go_wp2_with (refine list_stV (o := ⟨none, _, _, _, _, _⟩) (us := idc q.1) _ infoIdT rfl _ _ rfl rfl rfl Z1 (by rw [HNL.out]; rfl) HNL.out (idc_one _) ?_
               intro w9 h9)
  refine bodyPost_ret (res_V2 _ infoIdT Tryz.underlying27 rfl Tryz.results25 _ rfl (h9.v.ab abA) HNL.out) rfl ?_
  exact ⟨rfl, Ab.trans (h9.ab _ (b0.trans hb1) (by omega)) abA⟩
end Go.Proofs.YthfffbpcmlgoiaaGreatDoor
