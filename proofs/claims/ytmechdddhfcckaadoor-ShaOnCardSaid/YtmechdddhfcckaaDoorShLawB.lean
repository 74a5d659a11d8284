/- The chapter's examples, hashes compared. Own work. -/
import Derived.Test.YtmechdddhfcckaaDoorShLawA
set_option linter.unusedVariables false
set_option linter.unusedSimpArgs false
namespace Go.Proofs.YtmechdddhfcckaaDoor
open Go.RowKit

theorem is_true' (l : List UInt8) (a b c d z : UInt8) (va vb vc vd vz : Int) (ea : va = (a.toNat : Int)) (eb : vb = (b.toNat : Int)) (ec : vc = (c.toNat : Int)) (ed : vd = (d.toNat : Int)) (ez : vz = (z.toNat : Int)) (w : World) (hG : Glob w) (hlen : l.length ≤ 1000) (h : (Sha.of l)[0]? = some a ∧ (Sha.of l)[1]? = some b ∧ (Sha.of l)[2]? = some c ∧ (Sha.of l)[3]? = some d ∧ (Sha.of l)[31]? = some z) :
    Calls Tryd.prog 8 #[.string ⟨l.toArray⟩, .int .u8 va, .int .u8 vb, .int .u8 vc, .int .u8 vd, .int .u8 vz] w (RetTrue w) := by
  subst ea eb ec ed ez
  exact is_true l a b c d z w hG hlen h.1 h.2.1 h.2.2.1 h.2.2.2.1 h.2.2.2.2
theorem ex_none : (Sha.of [])[0]? = some 0xe3 ∧ (Sha.of [])[1]? = some 0xb0 ∧ (Sha.of [])[2]? = some 0xc4 ∧ (Sha.of [])[3]? = some 0x42 ∧ (Sha.of [])[31]? = some 0x55 := by decide +kernel
theorem ex_abc : (Sha.of [97, 98, 99])[0]? = some 0xba ∧ (Sha.of [97, 98, 99])[1]? = some 0x78 ∧ (Sha.of [97, 98, 99])[2]? = some 0x16 ∧ (Sha.of [97, 98, 99])[3]? = some 0xbf ∧ (Sha.of [97, 98, 99])[31]? = some 0xad := by decide +kernel
theorem pad_ok (n : Int) (k : Nat) (hn : n = (k : Int)) (hk : k ≤ 1000000) (w : World) :
    Calls Tryd.prog 10 #[.int .i64 n] w fun e w' => ∃ g, w.heap.size ≤ g ∧ e = .returned (.tuple #[.slice (some ⟨g, 0, none⟩) (Sha.zeros k + 9) (Sha.zeros k + 9), .int .i64 0]) ∧ OR 5 w.heap.size w' (some ⟨g, 0, none⟩) (Sha.zeros k + 9) (Sha.pad k) ∧ Ab w w' := by
  subst hn
  have h1 : 0 ≤ (k : Int) := by omega
  have h2 : (k : Int) ≤ 1000000 := by omega
  go_enter Tryd.func10, Tryd.ntmps10
  go_wp2_with fail
  refine (padding_any k _ hk).mono ?_
  rintro e w' ⟨g, hg, rfl, ho, hb⟩
  go_wp2
  go_ret2
  exact ⟨g, hg, rfl, ho, hb⟩
theorem ex_pad3 : (Sha.pad 3).length = 61 ∧ (Sha.pad 3)[0]? = some 128 ∧ (Sha.pad 3)[60]? = some 24 ∧ (∀ i : Fin 59, (Sha.pad 3)[i.val + 1]? = some 0) := by decide +kernel
theorem OR.at' {e : TypeId} {lo : Nat} {w : World} {g c i : Nat} {l : List UInt8} {x : UInt8} (h : OR e lo w (some ⟨g, 0, none⟩) c l) (hx : l[i]? = some x) : w.cell? ⟨g, i, none⟩ = some (.int .u8 (x.toNat : Int)) := by
  obtain ⟨hi, he⟩ := List.getElem?_eq_some_iff.1 hx
  have := h.cellAt hi
  rw [he] at this; exact this
set_option maxHeartbeats 1600000 in
theorem alive_true (w : World) (hG : Glob w) : Calls Tryd.prog 14 #[] w (RetTrue w) := by
  go_enter Tryd.func14, Tryd.ntmps14
  go_wp2_with fail
  refine (pad_ok 3 3 rfl (by omega) _).mono ?_
  rintro e w1 ⟨g, hg, rfl, ho, hb1⟩
  go_wp2_with fail
  refine (pad_ok 56 56 rfl (by omega) _).mono ?_
  rintro e w2 ⟨g2, hg2, rfl, ho2, hb2⟩
  have ho1 := OR.keep ho hb2
  obtain ⟨x1, x2, x3, x4⟩ := ex_pad3
  have c0 := ho1.at' x2
  have c60 := ho1.at' x3
  have HX := Lib.hid (fun (i : Nat) (h1 : 1 ≤ i) (h2 : i < 60) => by
    have := x4 ⟨i - 1, by omega⟩
    have e : i - 1 + 1 = i := by omega
    simp only [e] at this
    exact ho1.at' this)
  clear x1 x2 x3 x4
  have hz3 : Hid (Sha.zeros 3 + 9 = 61) := rfl
  go_wp2
  go_loop [0, 5] (fun r i => ∃ k : Nat, 1 ≤ k ∧ k ≤ 60 ∧ r = .bool false ∧ i = .int .i64 k) (fun _ i => 60 - (intOf i).toNat)
  case atStart => exact ⟨1, by omega, by omega, rfl, rfl⟩
  case round =>
    obtain ⟨k, h1, hk, rfl, rfl⟩ := hrel
    by_cases hlt : k < 60
    · have ck := HX.out k h1 hlt
      have hT : (k : Int) < 60 := by omega
      have hT2 : (k : Int) < 61 := by omega
      clear HX
      go_wp2
      go_round
      case rel => exact ⟨k + 1, by omega, by omega, rfl, by go_num⟩
      case measure => simp [intOf]; omega
    · have hT : ¬ (k : Int) < 60 := by omega
      have hab2 : Ab w w2 := hb1.trans hb2
      clear HX
      go_wp2_with fail
      refine (is_true' [] 0xe3 0xb0 0xc4 0x42 0x55 _ _ _ _ _ rfl rfl rfl rfl rfl _ (hG.ab hab2) (by simp) ex_none).mono ?_
      rintro e w3 ⟨rfl, hb3⟩
      go_wp2_with fail
      refine (is_true' [97, 98, 99] 0xba 0x78 0x16 0xbf 0xad _ _ _ _ _ rfl rfl rfl rfl rfl _ (hG.ab (hab2.trans hb3)) (by simp) ex_abc).mono ?_
      rintro e w4 ⟨rfl, hb4⟩
      go_wp2
      go_ret
      exact ⟨rfl, hab2.trans (hb3.trans hb4)⟩
set_option maxHeartbeats 1000000 in
/-- Two equal hashes. -/
theorem same_true (h : Sha.W8) (R S : Option Addr) (r : List UInt8) (c d : Nat) (n : Int) (w : World) (hr : RB w 0 R r) (hs : RB w 0 S r) (lr : r.length ≤ 9223372036854775807) :
    Calls Tryd.prog 20 #[.agg (hv h R r.length c n).toArray, .agg (hv h S r.length d n).toArray] w (RetTrue w) := by
  have hE := fun w => run_eq8 h w
  go_enter Tryd.func20, Tryd.ntmps20
  have V0 : VB (w.alloc (.cells (hv h R r.length c n).toArray 36)) w.heap.size (hv h R r.length c n) := VB.box (xs := (hv h R r.length c n).toArray) (T := 36) (by (repeat (first | exact new_plain wnA | with_reducible refine old_alloc ?_ | with_reducible refine old_drew ?_ | with_reducible refine old_set ?_ wnA | with_reducible refine old_ab (by assumption) ?_)))
  have V1 : VB ((w.alloc (.cells (hv h R r.length c n).toArray 36)).alloc (.cells (hv h S r.length d n).toArray 36)) (w.heap.size + 1) (hv h S r.length d n) := VB.box (xs := (hv h S r.length d n).toArray) (T := 36) (by (repeat (first | exact new_plain wnA | with_reducible refine old_alloc ?_ | with_reducible refine old_drew ?_ | with_reducible refine old_set ?_ wnA | with_reducible refine old_ab (by assumption) ?_)))
  replace V0 := V0.ab (show Ab _ ((w.alloc (.cells (hv h R r.length c n).toArray 36)).alloc (.cells (hv h S r.length d n).toArray 36)) from abA)
  have hab : Ab w ((w.alloc (.cells (hv h R r.length c n).toArray 36)).alloc (.cells (hv h S r.length d n).toArray 36)) := abA
  go_upto_region 1 with fail
  generalize ((w.alloc (.cells (hv h R r.length c n).toArray 36)).alloc (.cells (hv h S r.length d n).toArray 36)) = w0 at *
  have a8 := V0.at 8 rfl
  have a9 := V0.at 9 rfl
  have b8 := V1.at 8 rfl
  have b9 := V1.at 9 rfl
  go_wp2_with (first
    | (refine list_ldR (o := ⟨some 7, _, _, _, _, _⟩) _ 0 (w8 h) (VB.pre V0) info8 Tryd.underlying32 rfl rfl _ rfl rfl rfl ?_)
    | (refine list_ldR (o := ⟨some 9, _, _, _, _, _⟩) _ 0 (w8 h) (VB.pre V1) info8 Tryd.underlying32 rfl rfl _ rfl rfl rfl ?_))
  have hr0 := hr.ab hab
  have hs0 := hs.ab hab
  clear V0 V1 hr hs hE
  go_loopw [4, 5] (fun s i wr => ∃ k : Nat, k ≤ r.length ∧ s = .bool false ∧ i = .int .i64 k ∧ ∃ n, wr = w0.drewN n) (fun _ i _ => r.length - (intOf i).toNat)
  case atStart => exact ⟨0, Nat.zero_le _, rfl, rfl, 0, rfl⟩
  case round =>
    obtain ⟨k, hk, rfl, rfl, n, rfl⟩ := hrel
    by_cases hlt : k < r.length
    · obtain ⟨ad, rfl, _, ha⟩ := hr0 (by omega)
      obtain ⟨bd, rfl, _, hb⟩ := hs0 (by omega)
      have hac : w0.cell? (ad.add k) = some (.int .u8 (r[k].toNat : Int)) := ha k hlt
      have hbc : w0.cell? (bd.add k) = some (.int .u8 (r[k].toNat : Int)) := hb k hlt
      have hxl : (k : Int) < r.length := by omega
      clear ha hb
      go_wp2
      go_quiet (fail)
      go_wp2
      go_roundw
      case rel => exact ⟨k + 1, by omega, rfl, by go_num, _, rfl⟩
      case measure => simp [intOf]; omega
    · go_wp2
      go_ret
      exact ⟨rfl, hab.drewN _⟩
end Go.Proofs.YtmechdddhfcckaaDoor
