/- The texts CvRefA, CodecS, CvRefB, CvTry, CvRefC, CvRefD, one behind the other. Own work. -/
import Derived.Test.YthfffbpcmlgoiaaGreatDoorCCvFunE
import Derived.Test.YthfffbpcmlgoiaaGreatDoorCKA
import Derived.Test.YthfffbpcmlgoiaaGreatDoorProg
import Derived.Test.YthfffbpcmlgoiaaGreatDoorCCvFunI
set_option linter.unusedVariables false
set_option linter.unusedSimpArgs false
/- The reference of the codec: codes read, walked. Own work. -/
namespace Go.Proofs.YthfffbpcmlgoiaaGreatDoor
open Go.RowKit

/-- What coded returns. -/
def RetCd (w : World) (l : List UInt8) (e : Ending) (w' : World) : Prop := w = w' ∧ match Codec.coded l with
  | some (n, m) => e = .returned (.tuple #[.int .u64 (n : Int), .int .i64 (m : Int)])
  | none => e = .returned (.tuple #[.int .u64 0, .int .i64 0])
end Go.Proofs.YthfffbpcmlgoiaaGreatDoor

/- Plain mathematics of layer 7: values compared. No program is named. Own work. -/
namespace Go.Proofs.YthfffbpcmlgoiaaGreatDoor
namespace Codec

/-- Not deeper than d. -/
def dep : Nat → V → Prop
  | 0, _ => False
  | d + 1, v => ∀ e ∈ v.l, dep d e
/-- The same value, not deeper than d. -/
def same : Nat → V → V → Bool
  | 0, _, _ => true
  | d + 1, a, b => a.kind == b.kind && (a.num == b.num && (a.b == b.b && (a.l.length == b.l.length && (a.l.zip b.l).all fun p => same d p.1 p.2)))
theorem zip_true {f : V → V → Bool} {a b : List V} (hl : a.length = b.length) (h : ∀ i (h : i < a.length) (h' : i < b.length), f a[i] b[i] = true) : ((a.zip b).all fun p => f p.1 p.2) = true := by
  rw [List.all_eq_true]
  intro p hp
  obtain ⟨i, hi, rfl⟩ := List.mem_iff_getElem.1 hp
  rw [List.length_zip] at hi
  rw [List.getElem_zip]
  exact h i (by omega) (by omega)
theorem zip_false {f : V → V → Bool} {a b : List V} (i : Nat) (h : i < a.length) (h' : i < b.length) (hf : f a[i] b[i] = false) : ((a.zip b).all fun p => f p.1 p.2) = false := by
  rw [List.all_eq_false]
  refine ⟨(a[i], b[i]), ?_, by simp [hf]⟩
  rw [List.mem_iff_getElem]
  exact ⟨i, by rw [List.length_zip]; omega, by rw [List.getElem_zip]⟩
theorem zip_back {f : V → V → Bool} {a b : List V} (h : ((a.zip b).all fun p => f p.1 p.2) = true) (i : Nat) (h1 : i < a.length) (h2 : i < b.length) : f a[i] b[i] = true := by
  refine Decidable.byContradiction fun hf => ?_
  rw [zip_false i h1 h2 (by simpa using hf)] at h
  cases h
theorem same_eq : ∀ {d : Nat} {a b : V}, dep d a → same d a b = true → a = b := by
  intro d
  induction d with
  | zero => intro a b h; exact h.elim
  | succ d ih =>
    intro a b hd h
    unfold same at h
    simp only [Bool.and_eq_true, beq_iff_eq] at h
    obtain ⟨h1, h2, h3, h4, h5⟩ := h
    rw [V.eta a, V.eta b, h1, h2, h3]
    congr 1
    refine List.ext_getElem h4 fun i k1 k2 => ?_
    exact ih (hd _ (List.getElem_mem k1)) (zip_back h5 i k1 k2)
theorem same_refl : ∀ (d : Nat) (a : V), same d a a = true := by
  intro d
  induction d with
  | zero => intro a; rfl
  | succ d ih =>
    intro a
    unfold same
    simp only [Bool.and_eq_true, beq_iff_eq, true_and]
    exact zip_true rfl fun i _ _ => ih _
theorem same_iff {d : Nat} {a b : V} (h : dep d a) : same d a b = true ↔ a = b := ⟨same_eq h, fun e => e ▸ same_refl d a⟩
theorem kinds_dep : ∀ {d : Nat} {v : V}, kinds d v = true → dep d v := by
  intro d
  induction d with
  | zero => intro v h; simp [kinds] at h
  | succ d ih =>
    intro v h
    rcases kinds_cases h with ⟨n, rfl⟩ | ⟨b, rfl⟩ | ⟨l, rfl, hl⟩
    · intro e he; simp [V.l] at he
    · intro e he; simp [V.l] at he
    · intro e he; exact ih (hl e he)
end Codec
end Go.Proofs.YthfffbpcmlgoiaaGreatDoor

/- The reference of the codec: values read, walked. Own work. -/
namespace Go.Proofs.YthfffbpcmlgoiaaGreatDoor
open Go.RowKit
open Codec (V)

/-- What the reference's read returns. -/
def RetR (d : Nat) (w : World) (l : List UInt8) (e : Ending) (w' : World) : Prop := Ab w w' ∧ match Codec.read d l with
  | some (v, u) => ∃ x : VM, e = .returned (.tuple #[x.val, .int .i64 (u : Int)]) ∧ x.v = v ∧ VL d w' (fun g => w.heap.size ≤ g) x
  | none => e = .returned (.tuple #[VM.zero.val, .int .i64 0])
theorem reads_many {d n : Nat} {t : List UInt8} (ht : t.length ≤ 1000000) (h : t.length < n) : Codec.reads d n t = none := by
  rcases hr : Codec.reads d n t with _ | ⟨vs, u⟩
  · rfl
  · obtain ⟨a1, a2, a3, a4, a5⟩ := Codec.reads_back (fun t v u ht h => Codec.read_back d t v u ht h) n t vs u (by omega) hr
    have h1 := Codec.flat_ge vs a2
    have h2 := congrArg List.length a5
    rw [List.length_append] at h2
    omega
end Go.Proofs.YthfffbpcmlgoiaaGreatDoor

/- Bytes compared, however many. Own work. -/
namespace Go.Proofs.YthfffbpcmlgoiaaGreatDoor
open Go.RowKit


theorem sameBytes_all (A B : Option Addr) (c d : Nat) (x y : List UInt8) (w : World) (hx : RB w 0 A x) (hy : RB w 0 B y) (hl : x.length ≤ 9223372036854775807) (hl' : y.length ≤ 9223372036854775807) :
    Calls Tryz.prog 28 #[.slice A x.length c, .slice B y.length d] w fun e w' => e = .returned (.bool (x == y)) ∧ ∃ n, w' = w.drewN n := by
  by_cases hne : x.length = y.length
  · have hq : ((x.length : Int) != (y.length : Int)) = false := by simp [hne]
    have H := Lib.hid hne; clear hne
    go_enter Tryz.func28, Tryz.ntmps28
    go_wp2
    go_loopw [4, 5] (fun r i wr => ∃ k : Nat, k ≤ x.length ∧ r = .bool false ∧ i = .int .i64 k ∧ x.take k = y.take k ∧ ∃ n, wr = w.drewN n) (fun _ i _ => x.length - (intOf i).toNat)
    case atStart => exact ⟨0, Nat.zero_le _, rfl, rfl, rfl, 0, rfl⟩
    case round =>
      obtain ⟨k, hk, rfl, rfl, ht, n, rfl⟩ := hrel
      by_cases hlt : k < x.length
      · obtain ⟨ad, rfl, _, ha⟩ := hx (by omega)
        obtain ⟨bd, rfl, _, hb⟩ := hy (by have := H.out; omega)
        have hac : w.cell? (ad.add k) = some (.int .u8 (x[k].toNat : Int)) := ha k hlt
        have hyk : k < y.length := by have := H.out; omega
        have hbc : w.cell? (bd.add k) = some (.int .u8 (y[k].toNat : Int)) := hb k hyk
        have hyl : (k : Int) < y.length := by omega
        have hxl : (k : Int) < x.length := by omega
        clear ha hb
        by_cases hxy : x[k] = y[k]
        · have hcmp : ((x[k].toNat : Int) != (y[k].toNat : Int)) = false := by simp [hxy]
          have HT := Lib.hid ht; clear ht
          have HXY := Lib.hid hxy; clear hxy
          go_wp2
          go_quiet (fail)
          go_wp2
          go_roundw
          case rel => exact ⟨k + 1, by omega, rfl, by go_num, by rw [List.take_succ_eq_append_getElem hlt, List.take_succ_eq_append_getElem hyk, HT.out, HXY.out], _, rfl⟩
          case measure => simp [intOf]; omega
        · have hcmp : ((x[k].toNat : Int) != (y[k].toNat : Int)) = true := by
            simp only [bne_iff_ne, ne_eq, Int.natCast_inj]; exact fun e => hxy (UInt8.toNat.inj e)
          have hfin : (x == y) = false := by
            rw [beq_eq_false_iff_ne]; rintro rfl; exact hxy rfl
          have HF := Lib.hid hfin; clear hfin hxy ht
          go_wp2
          go_quiet (fail)
          go_wp2
          go_ret
          exact ⟨ret_bool (by rw [HF.out]), _, World.drewN_drewN _ _ _⟩
      · have hkl : k = x.length := by omega
        have hfin : (x == y) = true := by
          rw [beq_iff_eq]; rw [hkl, List.take_length] at ht; rw [ht, H.out, List.take_length]
        have HF := Lib.hid hfin; clear hfin hkl ht
        go_wp2
        go_ret
        exact ⟨ret_bool (by rw [HF.out]), _, rfl⟩
  · have hq : ((x.length : Int) != (y.length : Int)) = true := by simp; omega
    have hfin : (x == y) = false := by rw [beq_eq_false_iff_ne]; rintro rfl; exact hne rfl
    have HF := Lib.hid hfin; clear hfin hne
    go_enter Tryz.func28, Tryz.ntmps28
    go_wp2
    go_ret
    exact ⟨ret_bool (by rw [HF.out]), 0, rfl⟩
end Go.Proofs.YthfffbpcmlgoiaaGreatDoor

/- The reference of the codec: Next, Decode; values compared, walked. Own work. -/
namespace Go.Proofs.YthfffbpcmlgoiaaGreatDoor
open Go.RowKit
open Codec (V)

theorem VL.dep : ∀ {d : Nat} {w : World} {S : Nat → Prop} {x : VM}, VL d w S x → Codec.dep d x.v := by
  intro d
  induction d with
  | zero => intro w S x h; exact h.elim
  | succ d ih =>
    intro w S x h e he
    obtain ⟨i, hi, rfl⟩ := List.mem_iff_getElem.1 he
    obtain ⟨g, o, _, _, h3⟩ := h.2.2 (by show 0 < x.l.length; have : i < x.l.length := hi; omega)
    obtain ⟨y, y1, _, y3⟩ := h3 i hi
    have := ih y3
    rw [y1] at this
    exact this
/-- An element's four cells, as the walk reads them. -/
theorem VLs.at_ {d : Nat} {w : World} {S : Nat → Prop} {L : Option Addr} {l : List V} (h : VLs d w S L l) {k : Nat} (hk : k < l.length) : ∃ (a : Addr) (y : VM), L = some a ∧ y.v = l[k] ∧ VL d w S y ∧
    w.cell? (a.add (k * 4)) = some (.int .u8 (y.kind : Int)) ∧ w.cell? ⟨(a.add (k * 4)).block, (a.add (k * 4)).off + 1, none⟩ = some (.int .i64 y.num) ∧
    w.cell? ⟨(a.add (k * 4)).block, (a.add (k * 4)).off + 2, none⟩ = some (.slice y.A y.b.length y.c) ∧ w.cell? ⟨(a.add (k * 4)).block, (a.add (k * 4)).off + 3, none⟩ = some (.slice y.L y.l.length y.d) := by
  obtain ⟨g, o, h1, h2, h3⟩ := h (by omega)
  obtain ⟨y, y1, y2, y3⟩ := h3 k hk
  have e : (⟨g, o, none⟩ : Addr).add (k * 4) = ⟨g, o + k * 4, none⟩ := by
    unfold Addr.add
    split
    · rename_i h0; rw [h0]; rfl
    · rfl
  refine ⟨⟨g, o, none⟩, y, h1, y1, y3, ?_, ?_, ?_, ?_⟩
  · rw [e]; exact y2 0 _ rfl
  · rw [e]; exact y2 1 _ rfl
  · rw [e]; exact y2 2 _ rfl
  · rw [e]; exact y2 3 _ rfl
end Go.Proofs.YthfffbpcmlgoiaaGreatDoor

/- The reference of the codec: kinds, folds, codes, walked. Own work. -/
namespace Go.Proofs.YthfffbpcmlgoiaaGreatDoor
open Go.RowKit
open Codec (V)

theorem rfold_any (n : Int) (w : World) (h1 : -9223372036854775808 ≤ n) (h2 : n ≤ 9223372036854775807) :
    Calls Tryz.prog 81 #[.int .i64 n] w fun e w' => e = .returned (.int .u64 (Codec.fold n : Int)) ∧ w = w' := by
  by_cases h : 0 ≤ n
  · have HF : Hid ((Codec.fold n : Int) = 2 * n) := by unfold Hid Codec.fold; rw [if_pos h]; omega
    have j1 : IntKind.u64.wrap n = n := wrapu _ h (by omega)
    have j2 : IntKind.u64.wrap (2 * n) = 2 * n := wrapu _ (by omega) (by omega)
    clear h1 h2
    go_enter Tryz.func81, Tryz.ntmps81
    go_wp2
    go_ret
    exact ⟨ret_int (by rw [HF.out]), rfl⟩
  · have HF : Hid ((Codec.fold n : Int) = 2 * (-(n + 1)) + 1) := by unfold Hid Codec.fold; rw [if_neg h]; omega
    obtain ⟨z, hz⟩ : ∃ z, z = -(n + 1) := ⟨_, rfl⟩
    have j0 : IntKind.i64.wrap (n + 1) = n + 1 := IntWalk.i64_in _ (by omega)
    have j1 : IntKind.u64.wrap (-(n + 1)) = -(n + 1) := wrapu _ (by omega) (by omega)
    have j2 : IntKind.u64.wrap (2 * (-(n + 1))) = 2 * (-(n + 1)) := wrapu _ (by omega) (by omega)
    have j3 : IntKind.u64.wrap (2 * (-(n + 1)) + 1) = 2 * (-(n + 1)) + 1 := wrapu _ (by omega) (by omega)
    have j4 : IntKind.i64.wrap (-(n + 1)) = -(n + 1) := IntWalk.i64_in _ (by omega)
    have hlo : -9223372036854775807 ≤ n + 1 := by omega
    clear hz
    go_enter Tryz.func81, Tryz.ntmps81
    go_wp2
    go_ret
    exact ⟨ret_int (by rw [HF.out]), rfl⟩
set_option maxRecDepth 100000 in
theorem rcode_any (n : Nat) (w : World) (hn : n < 18446744073709551616) :
    Calls Tryz.prog 80 #[.int .u64 (n : Int)] w fun e w' => ∃ A' c' L, e = .returned (.slice A' L.length c') ∧ Hid (L = Codec.code n) ∧ OR 5 w.heap.size w' A' c' L ∧ Ab w w' := by
  have h10 := Lib.hid (code_10 hn)
  have HN := Lib.hid hn
  clear hn
  go_enter Tryz.func80, Tryz.ntmps80
  go_wp2
  go_loopw [0, 3] (fun s1 s0 w' => ∃ (A' : Option Addr) (c' k : Nat) (L : List UInt8), s0 = .slice A' L.length c' ∧ s1 = .int .u64 (k : Int) ∧ Apd w.heap.size w none w' A' c' L ∧ Hid (k < 18446744073709551616) ∧ Hid (L ++ Codec.code k = Codec.code n)) (fun s1 _ _ => (intOf s1).toNat)
  case atStart => exact ⟨none, 0, n, [], rfl, rfl, ⟨OR.none_, World.grownBy.refl w _, Nxt.refl _ _⟩, HN, Lib.hid rfl⟩
  case round =>
    obtain ⟨B, d, k, L, rfl, rfl, hp, hkn, hL⟩ := hrel
    rename World => w1
    have hs1 := hp.g.size
    have hLl : L.length ≤ 10 := by
      have := congrArg List.length hL.out
      rw [List.length_append] at this
      have := h10.out
      omega
    by_cases hlt : k < 128
    · have hk : ¬ (128 : Int) ≤ (k : Int) := by omega
      obtain ⟨x, hx⟩ : ∃ x, x = UInt8.ofNat k := ⟨_, rfl⟩
      have hv : (k : Int) = (x.toNat : Int) := by rw [hx]; simp; omega
      have HR : Hid (L ++ [x] = Codec.code n) := by have := hL.out; rw [Codec.code_small hlt] at this; rw [hx]; exact this
      have HV := Lib.hid hv
      have hkb : (k : Int) ≤ 127 := by omega
      clear hlt hx hv
      go_wp2_with ((at_builtin
                    refine listApn rfl _ _ rfl rfl rfl (m := [x]) rfl (hp.o.alloc _) (by simp; omega) (rb_one (by (repeat (first | exact new_plain wnA | with_reducible refine old_alloc ?_ | with_reducible refine old_drew ?_ | with_reducible refine old_set ?_ wnA | with_reducible refine old_ab (by assumption) ?_))) HV.out) (Nat.le_refl _) (by simp; omega) ?_
                    intro A2 c2 w2 L2 hL2 h2))
      go_ret
      have hq := (hp.ab abA).step h2
      exact ⟨A2, c2, L2, rfl, Lib.hid (by rw [hL2.out]; exact HR.out), hq.o, grown_ab (Ab.refl _) hq.g (fun g e => by cases e)⟩
    · have hk : (128 : Int) ≤ (k : Int) := by omega
      obtain ⟨x, hx⟩ : ∃ x, x = UInt8.ofNat (k % 128 + 128) := ⟨_, rfl⟩
      have hv : (k : Int) % 128 + 128 = (x.toNat : Int) := by rw [hx]; simp; omega
      have HR : Hid ((L ++ [x]) ++ Codec.code (k / 128) = Codec.code n) := by have := hL.out; rw [Codec.code_big hlt] at this; rw [hx, List.append_assoc]; exact this
      have HV := Lib.hid hv
      have jq : IntKind.u64.wrap ((k : Int) / 128) = ((k / 128 : Nat) : Int) := by rw [wrapu _ (by omega) (by have := hkn.out; omega)]; omega
      have JQ := Lib.hid jq
      clear hlt hx hv
      go_wp2_with ((at_builtin
                    refine listApn rfl _ _ rfl rfl rfl (m := [x]) rfl (hp.o.alloc _) (by simp; omega) (rb_one (by (repeat (first | exact new_plain wnA | with_reducible refine old_alloc ?_ | with_reducible refine old_drew ?_ | with_reducible refine old_set ?_ wnA | with_reducible refine old_ab (by assumption) ?_))) HV.out) (Nat.le_refl _) (by simp; omega) ?_
                    intro A2 c2 w2 L2 hL2 h2))
      go_roundw
      case rel => exact ⟨A2, c2, k / 128, L2, rfl, (by first | rfl | exact congrArg (Value.int .u64) (by omega) | (rw [JQ.out])), (hp.ab abA).step h2, Lib.hid (by have := hkn.out; omega), Lib.hid (by rw [hL2.out]; exact HR.out)⟩
      case measure =>
        clear jq
        first | (simp [intOf]; omega) | (rw [JQ.out]; simp [intOf]; omega)
end Go.Proofs.YthfffbpcmlgoiaaGreatDoor
