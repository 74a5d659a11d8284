/- WalLives: the bytes of an append are filled. Own work. -/
import Derived.Test.YtehagdpcegpbjaaWLiveC
set_option linter.unusedVariables false
set_option linter.unusedSimpArgs false
namespace Go.Proofs.Ytehagdpcegpbjaa
open Go.RowKit

/-- Behind the make: the bytes b in slot 8. -/
def LMade (w wr : World) (S : Option Addr) (n0 c0 : Nat) (W : Option Addr) (len cw a i nb : Nat) (act : Act) (wx : World) : Prop :=
  ∃ (G : Nat) (bs : List UInt8), act.defers = [] ∧ LFrm w S n0 c0 W len cw a i act.tmps ∧ act.tmps.getD 8 undef = .slice (some ⟨G, 0, none⟩) nb nb ∧ Hid (bs.length = nb) ∧ OR 5 wr.heap.size wx (some ⟨G, 0, none⟩) nb bs ∧ Ab wr wx
/-- At the head of the loop that fills them. -/
def LFill (w wr : World) (S : Option Addr) (n0 c0 : Nat) (W : Option Addr) (len cw a i nb : Nat) (act : Act) (wx : World) : Prop :=
  ∃ (k G : Nat) (bs : List UInt8), k ≤ nb ∧ act.defers = [] ∧ LFrm w S n0 c0 W len cw a i act.tmps ∧ act.tmps.getD 8 undef = .slice (some ⟨G, 0, none⟩) nb nb ∧ act.tmps.getD 9 undef = .int .i64 (k : Int) ∧ Hid (bs.length = nb) ∧ OR 5 wr.heap.size wx (some ⟨G, 0, none⟩) nb bs ∧ Ab wr wx
def LFillMu (nb : Nat) (act : Act) : Nat := nb - (intOf (act.tmps.getD 9 undef)).toNat
noncomputable def lvFill : Code := (loopIn lvA).getD .skip
set_option maxRecDepth 1000000 in
set_option maxHeartbeats 9600000 in
theorem lv_fill (w wr : World) (S : Option Addr) (n0 c0 : Nat) (W : Option Addr) (len cw a i nb : Nat) (hi : i < 20) (hnb : nb ≤ 50) (Q0 : Exit → Act → World → Prop) (hexit : ∀ a' w', LMade w wr S n0 c0 W len cw a i nb a' w' → Q0 (.exit 3) a' w') (act : Act) (wx : World) (hI : LFill w wr S n0 c0 W len cw a i nb act wx) :
    Code.wp Try.prog lvFill (Exit.then (fun a' w' => LFill w wr S n0 c0 W len cw a i nb a' w' ∧ LFillMu nb a' < LFillMu nb act) Q0) act wx := by
  obtain ⟨k, G, bs, hk, hd, ⟨hs, f1, f2, f5, f6, f7⟩, f8, f9, hbs, hO, hb⟩ := hI
  obtain ⟨T, d⟩ := act
  simp only at hd hs f1 f2 f5 f6 f7 f8 f9
  subst hd
  have HMu : Hid (LFillMu nb ⟨T, []⟩ = nb - k) := Lib.hid (by unfold LFillMu; simp only; rw [f9]; simp [intOf])
  rw [HMu.out]
  obtain ⟨g, hg, hT⟩ := opq_lit 196 T hs
  rw [lit_196] at hT
  have e1 := (hg 1).trans f1; have e2 := (hg 2).trans f2; have e5 := (hg 5).trans f5; have e6 := (hg 6).trans f6; have e7 := (hg 7).trans f7; have e8 := (hg 8).trans f8; have e9 := (hg 9).trans f9
  clear hg hs f1 f2 f5 f6 f7 f8 f9 HMu
  subst hT
  rw [e1, e2, e5, e6, e7, e8, e9]
  clear e1 e2 e5 e6 e7 e8 e9
  have i0 : (0 : Int) ≤ (i : Int) := by omega
  have k0 : (0 : Int) ≤ (k : Int) := by omega
  by_cases hlt : k < nb
  · clear hexit
    have hkl : k < bs.length := by rw [hbs.out]; exact hlt
    have hc := hO.cellAt hkl
    have hf := hO.unfrozen k
    have hw : IntKind.u8.wrap ((i : Int) + (k : Int)) = ((UInt8.ofNat (i + k)).toNat : Int) := by
      rw [IntKind.wrap_u8, UInt8.toNat_ofNat']; omega
    have HW := Lib.hid hw; clear hw
    conv => arg 2; whnf
    go_wp2
    have hv : Value.int .u8 ((i : Int) + (k : Int)) = cb (UInt8.ofNat (i + k)) := by
      unfold cb
      rw [UInt8.toNat_ofNat']
      congr 1
      omega
    have hG := (hO.rng _ rfl).1
    simp only at hG
    refine ⟨⟨k + 1, G, bs.set k (UInt8.ofNat (i + k)), by omega, rfl, ⟨rfl, rfl, rfl, rfl, rfl, rfl⟩, rfl, ?_, Lib.hid (by rw [List.length_set]; exact hbs.out), ?_, (by repeat (first | with_reducible exact Ab.refl _ | with_reducible assumption | with_reducible refine Ab.drew ?_ | with_reducible refine Ab.drewN ?_ _ | with_reducible refine Ab.alloc ?_ _ | with_reducible refine Ab.trans ?_ (by assumption) | with_reducible refine Ab.set ?_ (by first | (simp; done) | omega | (simp; omega)) _))⟩, ?_⟩
    · show Value.int .i64 ((k : Int) + 1) = _
      go_num
    · rw [hv]; exact hO.store k _
    · show nb - (intOf (Value.int .i64 ((k : Int) + 1))).toNat < nb - k
      simp [intOf]
      omega
  · obtain rfl : k = nb := by omega
    have hexit' := fun (a' : Act) (h : LMade w wr S n0 c0 W len cw a i k a' wx) => hexit a' wx h
    clear hexit
    conv => arg 2; whnf
    go_wp2
    exact ⟨G, bs, rfl, ⟨rfl, rfl, rfl, rfl, rfl, rfl⟩, rfl, hbs, hO, hb⟩
end Go.Proofs.Ytehagdpcegpbjaa
