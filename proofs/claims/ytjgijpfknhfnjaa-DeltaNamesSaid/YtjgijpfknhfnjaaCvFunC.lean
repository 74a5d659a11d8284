/- Values and lists taken, walked. Own work. -/
import Derived.Test.YtjgijpfknhfnjaaCvFunB
import Derived.Test.YtjgijpfknhfnjaaCvVals
set_option linter.unusedVariables false
set_option linter.unusedSimpArgs false
namespace Go.Proofs.Ytjgijpfknhfnjaa
open Go.RowKit
open Codec (V)

/-- What takeValue returns: the value with which the bytes begin. -/
def RetV (d : Nat) (w : World) (R : Nat) (l : List UInt8) (e : Ending) (w' : World) : Prop := w.grownBy w' (some R) ∧ match Codec.read d l with
  | some (v, u) => ∃ x : VM, e = .returned (.tuple #[x.val, .bool true]) ∧ x.v = v ∧ VL d w' (fun g => w.heap.size ≤ g) x ∧ Rd w' R (l.drop u)
  | none => ∃ x : VM, e = .returned (.tuple #[x.val, .bool false])
/-- What takeList returns. -/
def RetL (d n : Nat) (w : World) (R : Nat) (l : List UInt8) (e : Ending) (w' : World) : Prop := w.grownBy w' (some R) ∧ match Codec.reads d n l with
  | some (vs, u) => ∃ A c, e = .returned (.tuple #[.slice A vs.length c, .bool true]) ∧ vs.length ≤ c ∧ vs.length ≤ 1000000 ∧ VLs d w' (fun g => w.heap.size ≤ g) A vs ∧ Rd w' R (l.drop u)
  | none => e = .returned (.tuple #[.slice none 0 0, .bool false])
theorem read_used {d : Nat} {l : List UInt8} {v : V} {u : Nat} (h : Codec.read d l = some (v, u)) (hl : l.length ≤ 1000000) : 1 ≤ u ∧ u ≤ l.length := by
  obtain ⟨a1, a2, a3, a4⟩ := Codec.read_back d l v u (by omega) h
  have h1 := Codec.enc_pos a1
  have h2 := congrArg List.length a4
  rw [List.length_append] at h2
  omega
theorem infoV : (Try.prog.info? 58).map (·.size) = some 4 := by kernel_rfl
theorem grown_of {w w' : World} {r : Option Nat} (h : Ab w w') : w.grownBy w' r := ⟨h.out.os, h.out.tape, h.out.output, h.out.size, fun g hg _ => h.out.block g hg⟩
def Vs (d : Nat) : Prop := ∀ (R : Nat) (l : List UInt8) (w : World), Rd w R l → Calls Try.prog 66 #[.pointer (some ⟨R, 0, none⟩), .int .i64 (d : Int)] w (RetV d w R l)
theorem Vs.out {d : Nat} (h : Vs d) (R : Nat) (l : List UInt8) (w : World) (hR : Rd w R l) : Calls Try.prog 66 #[.pointer (some ⟨R, 0, none⟩), .int .i64 (d : Int)] w (RetV d w R l) := h R l w hR
theorem reads_step {d n : Nat} {l t : List UInt8} {ys : List V} {u : Nat} (k : Nat) (hk : k < n) (hu : Hid (t = l.drop u)) (hr : Hid (Codec.reads d n l = (Codec.reads d (n - k) t).map fun p => (ys ++ p.1, u + p.2))) :
    (Codec.read d t = none → Codec.reads d n l = none) ∧ ∀ v q, Codec.read d t = some (v, q) → Codec.reads d n l = (Codec.reads d (n - (k + 1)) (t.drop q)).map fun p => ((ys ++ [v]) ++ p.1, (u + q) + p.2) := by
  have e : n - k = (n - (k + 1)) + 1 := by omega
  rw [e] at hr
  refine ⟨fun h => ?_, fun v q h => ?_⟩
  · rw [hr.out, Codec.reads, h]; rfl
  · rw [hr.out, Codec.reads, h]
    simp only
    cases Codec.reads d (n - (k + 1)) (t.drop q) with
    | none => rfl
    | some p => simp [Nat.add_assoc]
set_option maxRecDepth 100000 in
theorem takeList_of (d : Nat) (hV : Vs d) (R n : Nat) (hn : n < 18446744073709551616) (l : List UInt8) (w : World) (h : Rd w R l) :
    Calls Try.prog 77 #[.pointer (some ⟨R, 0, none⟩), .int .u64 (n : Int), .int .i64 (d : Int)] w (RetL d n w R l) := by
  have ll := h.len
  have hRlt : R < w.heap.size := by obtain ⟨A, c, hv, _⟩ := h; exact hv.lt
  have hN := Lib.hid hn
  clear hn
  have HV := Lib.hid hV
  clear hV
  go_enter Try.func77, Try.ntmps77
  go_wp2
  go_loopw [8, 12] (fun s8 i w' => ∃ (k : Nat) (A : Option Addr) (c : Nat) (ys : List VM) (t : List UInt8) (u : Nat), k ≤ n ∧ i = .int .u64 (k : Int) ∧ s8 = .slice A ys.length c ∧ OwnVs d w.heap.size w' A c ys ∧ Rd w' R t ∧ w.grownBy w' (some R) ∧ Hid (ys.length = k) ∧ Hid (k + t.length ≤ l.length) ∧ Hid (t = l.drop u) ∧ Hid (Codec.reads d n l = (Codec.reads d (n - k) t).map fun p => (ys.map VM.v ++ p.1, u + p.2))) (fun _ i _ => n - (intOf i).toNat)
  case atStart => exact ⟨0, none, 0, [], l, 0, by omega, rfl, rfl, OwnVs.nil, h, World.grownBy.refl w _, Lib.hid rfl, Lib.hid (by omega), Lib.hid (by simp), Lib.hid (by simp)⟩
  case round =>
    obtain ⟨k, A, c, ys, t, u, hk, rfl, rfl, ho, hR, hg, hyl, hkt, htu, hr⟩ := hrel
    rename World => w1
    by_cases hlt : k < n
    · have hkn : (k : Int) < (n : Int) := by omega
      obtain ⟨q1, q2⟩ := reads_step k hlt htu hr
      have Q1 := Lib.hid q1
      have Q2 := Lib.hid q2
      clear q1 q2
      have tl := hR.len
      have hs1 := hg.size
      go_wp2_with fail
      refine (HV.out.out R t _ hR).mono ?_
      rintro e w2 ⟨hg2, hm⟩
      have hgg := grown_trans hg hg2
      rcases hrd : Codec.read d t with _ | ⟨v, q⟩
      · rw [hrd] at hm
        obtain ⟨x, rfl⟩ := hm
        have HN := Lib.hid (Q1.out hrd)
        have Y2 : VB (w2.alloc (.cells VM.zero.cells.toArray 58)) w2.heap.size VM.zero.cells := VB.box (xs := VM.zero.cells.toArray) (T := 58) (by (repeat (first | exact new_plain wnA | with_reducible refine old_alloc ?_ | with_reducible refine old_drew ?_ | with_reducible refine old_set ?_ wnA | with_reducible refine old_ab (by assumption) ?_)))
        go_wp2_with (first
          | (refine list_stV (o := ⟨none, _, _, _, _, _⟩) (us := x.cells) _ infoV rfl _ _ rfl rfl rfl Y2 rfl rfl x.one ?_
             intro w3 h3
             have b3 : Ab w2 w3 := h3.ab _ ((Ab.refl _).alloc _) (Nat.le_refl _)
             clear h3 Y2))
        go_ret2
        refine ⟨grown_trans hgg (grown_of b3), ?_⟩
        rw [HN.out]
        rfl
      · rw [hrd] at hm
        obtain ⟨⟨xk, xn, xA, xb, xc, xL, xl, xd⟩, rfl, hxv, hx, hR2⟩ := hm
        have HN := Lib.hid (Q2.out v q hrd)
        have ho2 := ho.grown hg2 (fun g hg => by cases hg; exact hRlt)
        have hus := read_used hrd tl
        have HU := Lib.hid hus
        clear hrd hus
        have Y2 : VB (w2.alloc (.cells VM.zero.cells.toArray 58)) w2.heap.size VM.zero.cells := VB.box (xs := VM.zero.cells.toArray) (T := 58) (by (repeat (first | exact new_plain wnA | with_reducible refine old_alloc ?_ | with_reducible refine old_drew ?_ | with_reducible refine old_set ?_ wnA | with_reducible refine old_ab (by assumption) ?_)))
        go_upto_region 7 with (first
          | (refine list_stV (o := ⟨none, _, _, _, _, _⟩) (us := VM.cells ⟨xk, xn, xA, xb, xc, xL, xl, xd⟩) _ infoV rfl _ _ rfl rfl rfl Y2 rfl rfl rfl ?_
             intro w3 h3
             have b3 : Ab w2 w3 := h3.ab _ ((Ab.refl _).alloc _) (Nat.le_refl _)
             have v3 : VB w3 w2.heap.size [.int .u8 (xk : Int), .int .i64 xn, .slice xA xb.length xc, .slice xL xl.length xd] := h3.v
             clear h3 Y2))
        have ho3 := ho2.ab b3
        have hx3 : VL d w3 (fun g => w.heap.size ≤ g ∧ A.map (·.block) ≠ some g) ⟨xk, xn, xA, xb, xc, xL, xl, xd⟩ := by
          refine VL.mono ?_ (hx.ab b3)
          intro g hgl
          refine ⟨by omega, fun e => ?_⟩
          have := ho.lt e
          omega
        have hyl' : ys.length ≤ 1000000 := by have := hyl.out; have := hkt.out; omega
        have b3s := b3.size
        have hs2 := hg2.size
        have kw : IntKind.u64.wrap ((k : Int) + 1) = (k : Int) + 1 := wrapu _ (by omega) (by have := hkt.out; omega)
        go_wp2_with (first
          | (refine list_ldV (o := ⟨some 23, _, _, _, _, _⟩) _ infoV Try.underlying58 rfl rfl _ rfl rfl v3 rfl ?_)
          | ((at_builtin
              refine listAppVs (x := ⟨xk, xn, xA, xb, xc, xL, xl, xd⟩) rfl _ _ rfl rfl rfl (ho3.ab (w' := _) abA) (by simp; omega) (by (repeat (first | exact new_plain wnA | with_reducible refine old_alloc ?_ | with_reducible refine old_drew ?_ | with_reducible refine old_set ?_ wnA | with_reducible refine old_ab (by assumption) ?_))) (hx3.ab abA) hyl' ?_
              intro g4 c4 w4 zs hzs ho4 hg4 _)))
        have hgr : ∀ g, A.map (·.block) = some g → w.heap.size ≤ g := fun g e => ho.low e
        go_roundw
        case rel =>
          refine ⟨k + 1, _, c4, zs, t.drop q, u + q, by omega, by go_num, rfl, ho4, ?_, ?_, Lib.hid ?_, Lib.hid ?_, Lib.hid (by rw [htu.out, List.drop_drop]), Lib.hid ?_⟩
          · exact ((hR2.ab b3).ab abA).grownA hg4 fun g e => Nat.lt_of_lt_of_le hRlt (hgr g e)
          · refine grown_low hg4 hgr ?_ ?_
            · simp; omega
            · exact grown_trans (grown_trans hgg (grown_of b3)) (grown_of abA)
          · rw [hzs.out, List.length_append, hyl.out]; rfl
          · have := HU.out; have := hkt.out; rw [List.length_drop]; omega
          · rw [HN.out, hzs.out, List.map_append, ← hxv]; rfl
        case measure => simp [intOf]; omega
    · obtain rfl : k = n := by omega
      go_wp2
      go_ret2
      refine ⟨hg, ?_⟩
      have e0 : Codec.reads d 0 t = some ([], 0) := by rw [Codec.reads]
      rw [hr.out, Nat.sub_self, e0]
      refine ⟨A, c, by simp, by simpa using ho.le, by have := hyl.out; have := hkt.out; simp; omega, ho.vls (by simp), ?_⟩
      rw [Nat.add_zero, ← htu.out]
      exact hR
end Go.Proofs.Ytjgijpfknhfnjaa
