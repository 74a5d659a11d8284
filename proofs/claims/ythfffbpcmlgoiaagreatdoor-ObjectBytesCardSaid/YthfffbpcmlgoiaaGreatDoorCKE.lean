/- The texts CodecT, CvFunA, CvFunB, CvFunC, one behind the other. Own work. -/
import Derived.Test.YthfffbpcmlgoiaaGreatDoorCKA
import Derived.Test.YthfffbpcmlgoiaaGreatDoorCKI
import Derived.Deep.DeepCutAuto
import Derived.Lib.LazyBuf
import Derived.Test.YthfffbpcmlgoiaaGreatDoorCKH
set_option linter.unusedVariables false
set_option linter.unusedSimpArgs false
/- Plain mathematics of layer 7: the package's way of taking the code of a whole number. No program is named. Own work. -/
namespace Go.Proofs.YthfffbpcmlgoiaaGreatDoor
namespace Codec

/-- Behind s bytes, which say n: the number, and how many bytes more it has. -/
def tc : Nat → Nat → List UInt8 → Option (Nat × Nat)
  | _, _, [] => none
  | s, n, x :: t => if 18446744073709551616 ≤ x.toNat % 128 * 128 ^ s then none
    else if x.toNat < 128 then (if 0 < x.toNat ∨ s = 0 then some (n + x.toNat % 128 * 128 ^ s, 1) else none)
    else match tc (s + 1) (n + x.toNat % 128 * 128 ^ s) t with
      | none => none
      | some (m, u) => some (m, u + 1)
theorem tc_none : ∀ (t : List UInt8) (s n : Nat), 10 ≤ s → tc s n t = none := by
  intro t
  induction t with
  | nil => intro s n _; rfl
  | cons x t ih =>
    intro s n hs
    have hp : 128 ^ 10 ≤ 128 ^ s := Nat.pow_le_pow_right (by decide) hs
    have h10 : (128 : Nat) ^ 10 = 1180591620717411303424 := by decide
    unfold tc
    by_cases h1 : 18446744073709551616 ≤ x.toNat % 128 * 128 ^ s
    · rw [if_pos h1]
    · rw [if_neg h1]
      have h0 : x.toNat % 128 = 0 := by
        refine Decidable.byContradiction fun h => h1 ?_
        have : 1 * 128 ^ s ≤ x.toNat % 128 * 128 ^ s := Nat.mul_le_mul_right _ (by omega)
        omega
      by_cases h2 : x.toNat < 128
      · rw [if_pos h2, if_neg (by omega)]
      · rw [if_neg h2, ih (s + 1) _ (by omega)]
theorem fits {s n x : Nat} (h9 : s ≤ 9) (hn : n < 128 ^ s) (hx : x * 128 ^ s < 18446744073709551616) : n + x * 128 ^ s < 18446744073709551616 := by
  have : s = 0 ∨ s = 1 ∨ s = 2 ∨ s = 3 ∨ s = 4 ∨ s = 5 ∨ s = 6 ∨ s = 7 ∨ s = 8 ∨ s = 9 := by omega
  rcases this with rfl | rfl | rfl | rfl | rfl | rfl | rfl | rfl | rfl | rfl <;> simp only [Nat.reducePow] at hn hx ⊢ <;> omega
theorem tc_take : ∀ (t : List UInt8) (s n : Nat), 1 ≤ s → s ≤ 10 → n < 128 ^ s → tc s n t = match take (10 - s) t with
    | none => none
    | some (m, u) => if m = 0 then none else if n + m * 128 ^ s < 18446744073709551616 then some (n + m * 128 ^ s, u) else none := by
  intro t
  induction t with
  | nil =>
    intro s n _ _ _
    rcases h : 10 - s with _ | k <;> rfl
  | cons x t ih =>
    intro s n h1 h10 hn
    by_cases hs : s = 10
    · subst hs
      rw [tc_none _ _ _ (by omega)]
      rfl
    obtain ⟨k, hk⟩ : ∃ k, 10 - s = k + 1 := ⟨9 - s, by omega⟩
    have hx := x.toNat_lt
    rw [hk, take, tc]
    by_cases h2 : x.toNat < 128
    · have hm : x.toNat % 128 = x.toNat := by omega
      rw [if_pos h2, if_pos h2, hm]
      simp only
      by_cases h0 : x.toNat = 0
      · rw [if_neg (by rw [h0]; simp), if_neg (by omega), if_pos h0]
      · rw [if_neg h0]
        by_cases h3 : 18446744073709551616 ≤ x.toNat * 128 ^ s
        · rw [if_pos h3, if_neg (by omega)]
        · rw [if_neg h3, if_pos (.inl (by omega)), if_pos (fits (by omega) hn (by omega))]
    · rw [if_neg h2, if_neg h2]
      have hm : x.toNat % 128 = x.toNat - 128 := by omega
      rw [hm]
      have hp : n + (x.toNat - 128) * 128 ^ s < 128 ^ (s + 1) := by
        have h4 : (x.toNat - 128) * 128 ^ s ≤ 127 * 128 ^ s := Nat.mul_le_mul_right _ (by omega)
        rw [Nat.pow_succ]
        omega
      have hi := ih (s + 1) (n + (x.toNat - 128) * 128 ^ s) (by omega) (by omega) hp
      rw [show 10 - (s + 1) = k by omega] at hi
      rw [hi]
      rcases take k t with _ | ⟨m, u⟩
      · simp only
        split <;> rfl
      · simp only
        by_cases hm0 : m = 0
        · rw [if_pos hm0, if_pos hm0]
          split <;> rfl
        · rw [if_neg hm0, if_neg hm0]
          simp only
          have e : n + (x.toNat - 128 + 128 * m) * 128 ^ s = n + (x.toNat - 128) * 128 ^ s + m * 128 ^ (s + 1) := by
            rw [Nat.add_mul, Nat.pow_succ, ← Nat.add_assoc]
            congr 1
            rw [Nat.mul_comm 128 m, Nat.mul_assoc, Nat.mul_comm 128 (128 ^ s)]
          rw [if_neg (show ¬ (x.toNat - 128 + 128 * m = 0) by omega), e]
          by_cases h3 : 18446744073709551616 ≤ (x.toNat - 128) * 128 ^ s
          · rw [if_pos h3, if_neg (by omega)]
          · rw [if_neg h3]
            by_cases h5 : n + (x.toNat - 128) * 128 ^ s + m * 128 ^ (s + 1) < 18446744073709551616
            · rw [if_pos h5, if_pos h5]
            · rw [if_neg h5, if_neg h5]
theorem tc_coded (t : List UInt8) : tc 0 0 t = coded t := by
  cases t with
  | nil => rfl
  | cons x t =>
    have hx := x.toNat_lt
    unfold coded
    rw [take, tc]
    simp only [Nat.pow_zero, Nat.mul_one, Nat.zero_add]
    rw [if_neg (by omega)]
    by_cases h2 : x.toNat < 128
    · rw [if_pos h2, if_pos h2, if_pos (.inr trivial)]
      simp only
      rw [if_pos (by omega), show x.toNat % 128 = x.toNat by omega]
    · rw [if_neg h2, if_neg h2, tc_take t 1 _ (by omega) (by omega) (by omega)]
      rcases take 9 t with _ | ⟨m, u⟩
      · rfl
      · simp only
        by_cases hm0 : m = 0
        · rw [if_pos hm0, if_pos hm0]
        · rw [if_neg hm0, if_neg hm0]
          simp only
          rw [show x.toNat % 128 + m * 128 ^ 1 = x.toNat - 128 + 128 * m by omega]
          by_cases h5 : x.toNat - 128 + 128 * m < 18446744073709551616
          · rw [if_pos h5, if_pos h5]
          · rw [if_neg h5, if_neg h5]
end Codec
end Go.Proofs.YthfffbpcmlgoiaaGreatDoor

/- The reader of the codec: a byte, walked. Own work. -/
namespace Go.Proofs.YthfffbpcmlgoiaaGreatDoor
open Go.RowKit

/-- The reader in block R has the bytes l before it. -/
def Rd (w : World) (R : Nat) (l : List UInt8) : Prop := ∃ A c, VB w R [.slice A l.length c] ∧ RS w (· < R) A l ∧ l.length ≤ c ∧ l.length ≤ 1000000
theorem Rd.grown {w w' : World} {R : Nat} {l : List UInt8} {r : Option Nat} (h : Rd w R l) (k : w.grownBy w' r) (hr : ∀ g, r = some g → w.heap.size ≤ g) : Rd w' R l := by
  obtain ⟨A, c, h1, h2, h3⟩ := h
  have hb : Ab w w' := grown_ab (Ab.refl w) k hr
  exact ⟨A, c, h1.ab hb, h2.keep fun g _ hg => hb.out.block g hg, h3⟩
/-- A list of the call's own, laid behind the reader, is appended to. -/
theorem Rd.grownA {w w' : World} {R : Nat} {l : List UInt8} {r : Option Nat} (h : Rd w R l) (k : w.grownBy w' r) (hr : ∀ g, r = some g → R < g) : Rd w' R l := by
  obtain ⟨A, c, h1, h2, h3⟩ := h
  have hb : ∀ g, g ≤ R → g < w.heap.size → w'.heap[g]? = w.heap[g]? := fun g hg hl => k.block g hl fun e => absurd (hr g e.symm) (by omega)
  refine ⟨A, c, ?_, h2.keep fun g hg hl => hb g (Nat.le_of_lt hg) hl, h3⟩
  have hb2 := hb R (Nat.le_refl _) h1.lt
  refine ⟨Nat.lt_of_lt_of_le h1.lt k.size, fun i v hi => ?_, fun i => ?_⟩
  · exact (World.cell?_of_block (a := ⟨R, i, none⟩) hb2).trans (h1.q i v hi)
  · refine Eq.trans ?_ (h1.g i)
    unfold World.frozen?
    rw [show (⟨R, i, none⟩ : Addr).block = R from rfl, hb2]
theorem Rd.ab {w w' : World} {R : Nat} {l : List UInt8} (h : Rd w R l) (hb : Ab w w') : Rd w' R l := by
  obtain ⟨A, c, h1, h2, h3⟩ := h
  exact ⟨A, c, h1.ab hb, h2.keep fun g _ hg => hb.out.block g hg, h3⟩
theorem grown_trans {a b c : World} {r : Option Nat} (h : a.grownBy b r) (k : b.grownBy c r) : a.grownBy c r :=
  ⟨k.os.trans h.os, k.tape.trans h.tape, k.output.trans h.output, Nat.le_trans h.size k.size, fun g hg hne => (k.block g (Nat.lt_of_lt_of_le hg h.size) hne).trans (h.block g hg hne)⟩
theorem Rd.store {w : World} {R c : Nat} {A : Option Addr} {l : List UInt8} {v : Value} (hv : VB w R [v]) (hs : RS w (· < R) A l) (hc : l.length ≤ c) (ll : l.length ≤ 1000000) :
    Rd (w.setCell ⟨R, 0, none⟩ (.slice A l.length c)) R l :=
  ⟨A, c, hv.set 0 (by simp) _, hs.setb (Nat.lt_irrefl _) _, hc, ll⟩
theorem grown_low {a b c : World} {r q : Option Nat} (k : b.grownBy c r) (hr : ∀ g, r = some g → a.heap.size ≤ g) (hs : a.heap.size ≤ b.heap.size) (h : a.grownBy b q) : a.grownBy c q :=
  ⟨k.os.trans h.os, k.tape.trans h.tape, k.output.trans h.output, Nat.le_trans h.size k.size, fun g hg hne => (k.block g (Nat.lt_of_lt_of_le hg h.size) fun e => absurd (hr g e.symm) (by omega)).trans (h.block g hg hne)⟩
theorem grown_cell0 (w : World) (R : Nat) (u : Value) : w.grownBy (w.setCell ⟨R, 0, none⟩ u) (some R) := grown_set (World.grownBy.refl w _) u
theorem takeByte_nil (R : Nat) (w : World) (h : Rd w R []) :
    Calls Tryz.prog 116 #[.pointer (some ⟨R, 0, none⟩)] w fun e w' => e = .returned (.tuple #[.int .u8 0, .bool false]) ∧ w = w' := by
  obtain ⟨A, c, hv, _⟩ := h
  have c0 := hv.at 0 rfl
  clear hv
  go_enter Tryz.func116, Tryz.ntmps116
  go_wp2
  go_ret2
  exact ⟨rfl, rfl⟩
theorem takeByte_cons (R : Nat) (x : UInt8) (l : List UInt8) (w : World) (h : Rd w R (x :: l)) :
    Calls Tryz.prog 116 #[.pointer (some ⟨R, 0, none⟩)] w fun e w' => e = .returned (.tuple #[.int .u8 (x.toNat : Int), .bool true]) ∧ Rd w' R l ∧ w.grownBy w' (some R) := by
  obtain ⟨A, c, hv, hs, hc, ll⟩ := h
  have c0 := hv.at 0 rfl
  have g0 := hv.g 0
  obtain ⟨ad, rfl, hne, hcell⟩ := hs (by simp)
  have cx : w.cell? ad = some (.int .u8 (x.toNat : Int)) := hcell 0 (by simp)
  have HS := Lib.hid (hs.cut 1 c hc)
  have HV := Lib.hid hv
  rw [List.length_cons] at hc ll c0
  obtain ⟨n, hn⟩ : ∃ n, n = l.length := ⟨_, rfl⟩
  rw [← hn] at c0 hc ll
  have HL := Lib.hid hn
  have hl0 : (0 : Int) < (n : Int) + 1 := by omega
  have M : ∀ w0, (Instr.slice 24 (.slice (some ad) (n + 1) c) (some (.int .i64 1)) none none).run Tryz.prog w0 = .ok (.slice (cutA (some ad) c 1) n (c - 1)) w0 := fun w0 => run_cut 1 .i64 (some ad) (n + 1) c w0 (by omega)
  clear hn hs hcell hne hv
  go_enter Tryz.func116, Tryz.ntmps116
  go_wp2
  go_ret2
  refine ⟨rfl, ?_, grown_cell0 _ _ _⟩
  have := Rd.store HV.out HS.out (c := c - 1) (by rw [List.drop_one, List.tail_cons]; have := HL.out; omega) (by rw [List.drop_one, List.tail_cons]; have := HL.out; omega)
  rw [List.drop_one, List.tail_cons, ← HL.out] at this
  exact this
/-- The bytes that say so. -/
def RetC (w : World) (R : Nat) (l : List UInt8) (e : Ending) (w' : World) : Prop := w.grownBy w' (some R) ∧ match Codec.coded l with
  | some (n, u) => e = .returned (.tuple #[.int .u64 (n : Int), .bool true]) ∧ Rd w' R (l.drop u)
  | none => ∃ n : Int, e = .returned (.tuple #[.int .u64 n, .bool false])
set_option maxRecDepth 100000 in
theorem takeCode_any (R : Nat) (l : List UInt8) (w : World) (h : Rd w R l) :
    Calls Tryz.prog 117 #[.pointer (some ⟨R, 0, none⟩)] w (RetC w R l) := by
  have ll : l.length ≤ 1000000 := by obtain ⟨A, c, _, _, _, h⟩ := h; exact h
  go_enter Tryz.func117, Tryz.ntmps117
  go_wp2
  go_loopw [4, 5] (fun n5 s5 w' => ∃ (s n : Nat) (t : List UInt8), n5 = .int .u64 (n : Int) ∧ s5 = .int .i64 (7 * s : Nat) ∧ n < 128 ^ s ∧ n < 18446744073709551616 ∧ Rd w' R t ∧ w.grownBy w' (some R) ∧ Hid (s + t.length = l.length) ∧ Hid (t = l.drop s) ∧ Hid (Codec.coded l = (Codec.tc s n t).map fun p => (p.1, p.2 + s))) (fun _ s5 _ => 7 * l.length + 7 - (intOf s5).toNat)
  case atStart => exact ⟨0, 0, l, rfl, rfl, by simp, by omega, h, World.grownBy.refl w _, Lib.hid (by simp), Lib.hid (by simp), Lib.hid (by rw [Codec.tc_coded]; cases Codec.coded l <;> rfl)⟩
  case round =>
    obtain ⟨s, n, t, rfl, rfl, hn, hn64, hR, hg, hst, htd, htc⟩ := hrel
    rename World => w1
    cases t with
    | nil =>
      go_wp2_with fail
      refine (takeByte_nil R _ hR).mono ?_
      rintro e w2 ⟨rfl, rfl⟩
      go_wp2
      go_ret2
      refine ⟨hg, ?_⟩
      rw [htc.out]
      exact ⟨0, rfl⟩
    | cons x t =>
      go_wp2_with fail
      refine (takeByte_cons R x t _ hR).mono ?_
      rintro e w2 ⟨rfl, hR2, hg2⟩
      obtain ⟨p, hp⟩ : ∃ p, p = x.toNat % 128 := ⟨_, rfl⟩
      have hpl : p < 128 := by omega
      have hpx : (x.toNat : Int) % 128 = (p : Int) := by omega
      have hx := x.toNat_lt
      obtain ⟨P, hP⟩ : ∃ P, P = p * 128 ^ s % 18446744073709551616 := ⟨_, rfl⟩
      obtain ⟨q, hq⟩ : ∃ q, q = P / 2 ^ min (7 * s) 64 := ⟨_, rfl⟩
      have SL : Op.shift .shl .u64 (p : Int) .i64 (7 * (s : Int)) = pure (.int .u64 (P : Int)) := by rw [shl7 p s _ rfl, hP]
      have SR : Op.shift .shr .u64 (P : Int) .i64 (7 * (s : Int)) = pure (.int .u64 (q : Int)) := by rw [shr7 P s _ rfl, hq]
      have hqp : q = p ↔ p * 128 ^ s < 18446744073709551616 := by rw [hq, hP]; exact back7 p s hpl
      have hgg := grown_trans hg hg2
      by_cases hbig : 18446744073709551616 ≤ p * 128 ^ s
      · have HN : Hid (Codec.coded l = none) := by
          unfold Hid
          rw [htc.out, Codec.tc, ← hp, if_pos hbig]; rfl
        have hne : ((q : Int) != (p : Int)) = true := by
          have : q ≠ p := fun e => by have := hqp.1 e; omega
          simp; omega
        clear hqp hP hq hp hn hbig
        go_wp2
        go_ret2
        refine ⟨hgg, ?_⟩
        rw [HN.out]
        exact ⟨0, rfl⟩
      · have hne : ((q : Int) != (p : Int)) = false := by
          have := hqp.2 (by omega)
          simp; omega
        have hPv : P = p * 128 ^ s := by rw [hP, Nat.mod_eq_of_lt (by omega)]
        have OR_ : bits .or .u64 (n : Int) (P : Int) = ((n + P : Nat) : Int) := or64 n P (7 * s) (by rw [← pow7]; exact hn) p (by rw [hPv, pow7]) (by omega) hn64
        have HT : Hid (Codec.tc s n (x :: t) = if x.toNat < 128 then (if 0 < x.toNat ∨ s = 0 then some (n + P, 1) else none) else (Codec.tc (s + 1) (n + P) t).map fun r => (r.1, r.2 + 1)) := by
          unfold Hid
          rw [Codec.tc, ← hp, if_neg hbig, ← hPv]
          split
          · rfl
          · rcases Codec.tc (s + 1) (n + P) t with _ | ⟨m, u⟩ <;> rfl
        have HB : n + P < 128 ^ (s + 1) ∧ n + P < 18446744073709551616 := by
          rw [hPv]
          refine ⟨?_, ?_⟩
          · have h4 : p * 128 ^ s ≤ 127 * 128 ^ s := Nat.mul_le_mul_right _ (by omega)
            rw [Nat.pow_succ]; omega
          · by_cases h10 : s ≤ 9
            · exact Codec.fits h10 hn (by omega)
            · have h0 : p = 0 := by
                refine Decidable.byContradiction fun h0 => hbig ?_
                have h1 : 128 ^ 10 ≤ 128 ^ s := Nat.pow_le_pow_right (by decide) (by omega)
                have h2 : 1 * 128 ^ s ≤ p * 128 ^ s := Nat.mul_le_mul_right _ (by omega)
                have h3 : (128 : Nat) ^ 10 = 1180591620717411303424 := by decide
                omega
              rw [h0]; omega
        have HP := Lib.hid HB
        obtain ⟨m, hm⟩ : ∃ m, n + P = m := ⟨_, rfl⟩
        rw [hm] at OR_ HT HP
        have HOR := Lib.hid OR_
        have HPp := Lib.hid (fun h : s = 0 => show P = p by rw [hPv, h]; simp)
        clear hqp hq hbig hP hPv hp HB hn hn64 hm
        have ls : s ≤ 1000000 := by have := hst.out; omega
        have hst2 : Hid (s + 1 + t.length = l.length) := by have := hst.out; unfold Hid; rw [List.length_cons] at this; omega
        have htd2 : Hid (t = l.drop (s + 1)) := by unfold Hid; rw [← List.drop_drop, ← htd.out, List.drop_one, List.tail_cons]
        by_cases hlt : x.toNat < 128
        · have HT2 : Hid (Codec.coded l = if 0 < x.toNat ∨ s = 0 then some (m, 1 + s) else none) := by
            unfold Hid
            rw [htc.out, HT.out, if_pos hlt]
            split <;> rfl
          by_cases h0 : 0 < x.toNat
          · go_wp2
            go_ret2
            refine ⟨hgg, ?_⟩
            rw [HT2.out, if_pos (.inl h0)]
            exact ⟨rfl, by rw [Nat.add_comm, ← htd2.out]; exact hR2⟩
          · by_cases hs0 : s = 0
            · have hs1 : (7 * (s : Int) == 0) = true := by simp; omega
              go_wp2
              go_ret2
              refine ⟨hgg, ?_⟩
              rw [HT2.out, if_pos (.inr hs0)]
              have e := HOR.out
              rw [HPp.out hs0] at e
              refine ⟨?_, by rw [Nat.add_comm, ← htd2.out]; exact hR2⟩
              show Ending.returned (.tuple #[.int .u64 (bits .or .u64 (n : Int) (p : Int)), .bool true]) = _
              rw [e]
            · have hs1 : (7 * (s : Int) == 0) = false := by simp; omega
              go_wp2
              go_ret2
              refine ⟨hgg, ?_⟩
              rw [HT2.out, if_neg (by omega)]
              exact ⟨_, rfl⟩
        · go_wp2
          go_roundw
          case rel => exact ⟨s + 1, m, t, rfl, by go_num, HP.out.1, HP.out.2, hR2, hgg, hst2, htd2, Lib.hid (by rw [htc.out, HT.out, if_neg hlt]; rcases Codec.tc (s + 1) m t with _ | ⟨m, u⟩; rfl; simp; omega)⟩
          case measure => simp [intOf]; have := hst2.out; omega
end Go.Proofs.YthfffbpcmlgoiaaGreatDoor

/- Bytes taken, the number of a fold, walked. Own work. -/
namespace Go.Proofs.YthfffbpcmlgoiaaGreatDoor
open Go.RowKit

theorem bclone_any (A : Option Addr) (l : List UInt8) (c : Nat) (w : World) (h : RB w 0 A l) (hc : l.length ≤ c) (ll : l.length ≤ 1000000) :
    Calls Tryz.prog 43 #[.slice A l.length c] w fun e w' => ∃ A' c' L, Hid (L = l) ∧ e = .returned (.slice A' L.length c') ∧ OR 5 w.heap.size w' A' c' L ∧ Ab w w' := by
  cases A with
  | none =>
    have hl : l = [] := List.eq_nil_of_length_eq_zero (by rcases Nat.eq_zero_or_pos l.length with h0 | h0; exact h0; obtain ⟨a, ha, _⟩ := h h0; cases ha)
    subst hl
    have hq := fun w => run_eql_slice_nil (P := Tryz.prog) w 24 5 none 0 c Tryz.underlying24
    simp at hq
    go_enter Tryz.func43, Tryz.ntmps43
    go_wp2
    go_ret
    exact ⟨none, 0, [], Lib.hid rfl, rfl, OR.none_, Ab.refl _⟩
  | some ad =>
    have hq := fun w => run_eql_slice_nil (P := Tryz.prog) w 24 5 (some ad) l.length c Tryz.underlying24
    simp at hq
    go_enter Tryz.func43, Tryz.ntmps43
    go_wp2_with ((at_builtin
                  refine listLit rfl _ _ rfl rfl rfl (m := l) rfl (by (repeat (first | exact new_plain wnA | with_reducible refine old_alloc ?_ | with_reducible refine old_drew ?_ | with_reducible refine old_set ?_ wnA | with_reducible refine old_ab (by assumption) ?_))) (RB.ab h abA) hc (by omega) ?_
                  intro A1 c1 w1 L1 e1 a1 o1
                  have p1 := o1 w.heap.size (by omega) (by simp)
                  have b1 : Ab w w1 := abA))
    go_ret
    exact ⟨A1, c1, L1, e1, rfl, p1, b1⟩
/-- s[:h] of bytes. -/
theorem cv_head (h : Nat) (kd : IntKind) (a : Option Addr) (len cap : Nat) (w : World) (h2 : h ≤ cap) :
    (Instr.slice 24 (.slice a len cap) none (some (.int kd (h : Int))) none).run Tryz.prog w = .ok (.slice a h cap) w := by
  have hu : Tryz.prog.underlying 24 = some (.slice (Tryz.prog.elem 24)) := by kernel_rfl
  obtain ⟨i0, hi0, _, hz1, _⟩ := info_parts infoU8
  have he : Tryz.prog.elem 24 = 5 := by kernel_rfl
  rw [run_slice_h w 24 a len cap hu kd (h : Int) (by omega) (by omega), he]
  simp only [sizeOf, typeInfo, sliced, Int.toNat_natCast, Sem.run_bind, Sem.run_pure]
  simp [hi0, hz1]
  intro _
  cases a <;> simp [Addr.add]
theorem unfold_form (n : Nat) (hn : n < 18446744073709551616) : bits .xor .i64 ((n : Int) / 2) (wrap64 (-wrap64 (bits .and .u64 (n : Int) 1))) = Codec.unfold_ n := by
  rw [and1 n hn]
  have e : (n : Int) / 2 = ((n / 2 : Nat) : Int) := by omega
  rw [e]
  unfold Codec.unfold_
  by_cases h : n % 2 = 0
  · rw [if_pos h, h]
    have e0 : wrap64 (-wrap64 ((0 : Nat) : Int)) = 0 := by decide +kernel
    rw [e0]
    exact xor_00 (n / 2) (by omega)
  · have h1 : n % 2 = 1 := by omega
    rw [if_neg h, h1]
    have e0 : wrap64 (-wrap64 ((1 : Nat) : Int)) = -1 := by decide +kernel
    rw [e0]
    exact xor_m1 (n / 2) (by omega)
theorem Rd.len {w : World} {R : Nat} {l : List UInt8} (h : Rd w R l) : l.length ≤ 1000000 := by obtain ⟨A, c, _, _, _, h⟩ := h; exact h
theorem takeBytes_no (R : Nat) (l : List UInt8) (n : Nat) (w : World) (h : Rd w R l) (hn : l.length < n) :
    Calls Tryz.prog 119 #[.pointer (some ⟨R, 0, none⟩), .int .u64 (n : Int)] w fun e w' => e = .returned (.tuple #[.slice none 0 0, .bool false]) ∧ w = w' := by
  obtain ⟨A, c, hv, hs, hc, ll⟩ := h
  have c0 := hv.at 0 rfl
  clear hv
  have hx : ((l.length : Nat) : Int) < (n : Int) := by omega
  go_enter Tryz.func119, Tryz.ntmps119
  go_wp2
  go_ret2
  exact ⟨rfl, rfl⟩
theorem takeBytes_ok (R : Nat) (l : List UInt8) (n : Nat) (w : World) (h : Rd w R l) (hn : n ≤ l.length) :
    Calls Tryz.prog 119 #[.pointer (some ⟨R, 0, none⟩), .int .u64 (n : Int)] w fun e w' => ∃ A' c', e = .returned (.tuple #[.slice A' n c', .bool true]) ∧ RS w' (fun g => w.heap.size ≤ g) A' (l.take n) ∧ n ≤ c' ∧ Rd w' R (l.drop n) ∧ w.grownBy w' (some R) := by
  obtain ⟨A, c, hv, hs, hc, ll⟩ := h
  have c0 := hv.at 0 rfl
  have g0 := hv.g 0
  have HV := Lib.hid hv
  have zR := hv.lt
  have HS := Lib.hid (hs.cut n c hc)
  have htl : (l.take n).length = n := by rw [List.length_take]; omega
  have CL : ∀ w', Ab w w' → Calls Tryz.prog 43 #[.slice A n c] w' (fun e w2 => ∃ A' c' L, Hid (L = l.take n) ∧ e = .returned (.slice A' L.length c') ∧ OR 5 w'.heap.size w2 A' c' L ∧ Ab w' w2) := fun w' hk => by
    have := bclone_any A (l.take n) c w' ((hs.rb.take n).ab hk) (by omega) (by omega)
    rwa [htl] at this
  have HT := Lib.hid htl
  have hx : ¬ ((l.length : Nat) : Int) < (n : Int) := by omega
  have M1 : ∀ w0, (Instr.slice 24 (.slice A l.length c) none (some (.int .u64 (n : Int))) none).run Tryz.prog w0 = .ok (.slice A n c) w0 := fun w0 => cv_head n .u64 A l.length c w0 (by omega)
  have M2 : ∀ w0, (Instr.slice 24 (.slice A l.length c) (some (.int .u64 (n : Int))) none none).run Tryz.prog w0 = .ok (.slice (cutA A c n) (l.length - n) (c - n)) w0 := fun w0 => run_cut n .u64 A l.length c w0 hn
  clear hv htl hs
  go_enter Tryz.func119, Tryz.ntmps119
  go_wp2_with fail
  refine (CL _ (Ab.refl _)).mono ?_
  rintro e w1 ⟨A1, c1, L, hL, rfl, ho, hb⟩
  have d0 := hb.at c0
  have d1 := hb.fr (by exact zR) g0
  go_wp2
  go_ret2
  have hl : L.length = n := by rw [hL.out]; exact HT.out
  rw [hl]
  refine ⟨A1, c1, rfl, ?_, by rw [← hl]; exact ho.le, ?_, ?_⟩
  · rw [← hL.out]
    exact ((ho.rb.rs (S := fun g => w.heap.size ≤ g) (fun g h => h)).setb (by simp; omega) _)
  · have hs1 := HS.out.ab hb
    have := Rd.store (HV.out.ab hb) hs1 (c := c - n) (by rw [List.length_drop]; omega) (by rw [List.length_drop]; omega)
    rwa [List.length_drop] at this
  · exact grown_trans ⟨hb.out.os, hb.out.tape, hb.out.output, hb.out.size, fun g hg _ => hb.out.block g hg⟩ (grown_cell0 _ _ _)
theorem unfold_any (n : Nat) (w : World) (hn : n < 18446744073709551616) :
    Calls Tryz.prog 118 #[.int .u64 (n : Int)] w fun e w' => e = .returned (.int .i64 (Codec.unfold_ n)) ∧ w = w' := by
  go_enter Tryz.func118, Tryz.ntmps118
  go_wp2
  go_ret
  exact ⟨ret_int (unfold_form n hn), rfl⟩
end Go.Proofs.YthfffbpcmlgoiaaGreatDoor

/- Values and lists taken, walked. Own work. -/
namespace Go.Proofs.YthfffbpcmlgoiaaGreatDoor
open Go.RowKit
open Codec (V)

/-- What takeValue returns: the value with which the bytes begin. -/
def RetV (d : Nat) (w : World) (R : Nat) (l : List UInt8) (e : Ending) (w' : World) : Prop := w.grownBy w' (some R) ∧ match Codec.read d l with
  | some (v, u) => ∃ x : VM, e = .returned (.tuple #[x.val, .bool true]) ∧ x.v = v ∧ VL d w' (fun g => w.heap.size ≤ g) x ∧ Rd w' R (l.drop u)
  | none => ∃ x : VM, e = .returned (.tuple #[x.val, .bool false])
/-- What takeList returns. -/
def RetL (d n : Nat) (w : World) (R : Nat) (l : List UInt8) (e : Ending) (w' : World) : Prop := w.grownBy w' (some R) ∧ match Codec.reads d n l with
  | some (vs, u) => ∃ A c, e = .returned (.tuple #[.slice A vs.length c, .bool true]) ∧ vs.length ≤ c ∧ vs.length ≤ 1000000 ∧ VLs d w' (fun g => w.heap.size ≤ g) A vs ∧ Rd w' R (l.drop u)
  | none => e = .returned (.tuple #[.slice none 0 0, .bool false])
theorem read_used {d : Nat} {l : List UInt8} {v : V} {u : Nat} (h : Codec.read d l = some (v, u)) (hl : l.length ≤ 1000000) : 1 ≤ u ∧ u ≤ l.length := by
  obtain ⟨a1, a2, a3, a4⟩ := Codec.read_back d l v u (by omega) h
  have h1 := Codec.enc_pos a1
  have h2 := congrArg List.length a4
  rw [List.length_append] at h2
  omega
theorem infoV : (Tryz.prog.info? 88).map (·.size) = some 4 := by kernel_rfl
theorem grown_of {w w' : World} {r : Option Nat} (h : Ab w w') : w.grownBy w' r := ⟨h.out.os, h.out.tape, h.out.output, h.out.size, fun g hg _ => h.out.block g hg⟩
def Vs (d : Nat) : Prop := ∀ (R : Nat) (l : List UInt8) (w : World), Rd w R l → Calls Tryz.prog 97 #[.pointer (some ⟨R, 0, none⟩), .int .i64 (d : Int)] w (RetV d w R l)
theorem Vs.out {d : Nat} (h : Vs d) (R : Nat) (l : List UInt8) (w : World) (hR : Rd w R l) : Calls Tryz.prog 97 #[.pointer (some ⟨R, 0, none⟩), .int .i64 (d : Int)] w (RetV d w R l) := h R l w hR
theorem reads_step {d n : Nat} {l t : List UInt8} {ys : List V} {u : Nat} (k : Nat) (hk : k < n) (hu : Hid (t = l.drop u)) (hr : Hid (Codec.reads d n l = (Codec.reads d (n - k) t).map fun p => (ys ++ p.1, u + p.2))) :
    (Codec.read d t = none → Codec.reads d n l = none) ∧ ∀ v q, Codec.read d t = some (v, q) → Codec.reads d n l = (Codec.reads d (n - (k + 1)) (t.drop q)).map fun p => ((ys ++ [v]) ++ p.1, (u + q) + p.2) := by
  have e : n - k = (n - (k + 1)) + 1 := by omega
  rw [e] at hr
  refine ⟨fun h => ?_, fun v q h => ?_⟩
  · rw [hr.out, Codec.reads, h]; rfl
  · rw [hr.out, Codec.reads, h]
    simp only
    cases Codec.reads d (n - (k + 1)) (t.drop q) with
    | none => rfl
    | some p => simp [Nat.add_assoc]
set_option maxRecDepth 100000 in
theorem takeList_of (d : Nat) (hV : Vs d) (R n : Nat) (hn : n < 18446744073709551616) (l : List UInt8) (w : World) (h : Rd w R l) :
    Calls Tryz.prog 120 #[.pointer (some ⟨R, 0, none⟩), .int .u64 (n : Int), .int .i64 (d : Int)] w (RetL d n w R l) := by
  have ll := h.len
  have hRlt : R < w.heap.size := by obtain ⟨A, c, hv, _⟩ := h; exact hv.lt
  have hN := Lib.hid hn
  clear hn
  have HV := Lib.hid hV
  clear hV
  go_enter Tryz.func120, Tryz.ntmps120
  go_wp2
  go_loopw [8, 12] (fun s8 i w' => ∃ (k : Nat) (A : Option Addr) (c : Nat) (ys : List VM) (t : List UInt8) (u : Nat), k ≤ n ∧ i = .int .u64 (k : Int) ∧ s8 = .slice A ys.length c ∧ OwnVs d w.heap.size w' A c ys ∧ Rd w' R t ∧ w.grownBy w' (some R) ∧ Hid (ys.length = k) ∧ Hid (k + t.length ≤ l.length) ∧ Hid (t = l.drop u) ∧ Hid (Codec.reads d n l = (Codec.reads d (n - k) t).map fun p => (ys.map VM.v ++ p.1, u + p.2))) (fun _ i _ => n - (intOf i).toNat)
  case atStart => exact ⟨0, none, 0, [], l, 0, by omega, rfl, rfl, OwnVs.nil, h, World.grownBy.refl w _, Lib.hid rfl, Lib.hid (by omega), Lib.hid (by simp), Lib.hid (by simp)⟩
  case round =>
    obtain ⟨k, A, c, ys, t, u, hk, rfl, rfl, ho, hR, hg, hyl, hkt, htu, hr⟩ := hrel
    rename World => w1
    by_cases hlt : k < n
    · have hkn : (k : Int) < (n : Int) := by omega
      obtain ⟨q1, q2⟩ := reads_step k hlt htu hr
      have Q1 := Lib.hid q1
      have Q2 := Lib.hid q2
      clear q1 q2
      have tl := hR.len
      have hs1 := hg.size
      go_wp2_with fail
      refine (HV.out.out R t _ hR).mono ?_
      rintro e w2 ⟨hg2, hm⟩
      have hgg := grown_trans hg hg2
      rcases hrd : Codec.read d t with _ | ⟨v, q⟩
      · rw [hrd] at hm
        obtain ⟨x, rfl⟩ := hm
        have HN := Lib.hid (Q1.out hrd)
        have Y2 : VB (w2.alloc (.cells VM.zero.cells.toArray 88)) w2.heap.size VM.zero.cells := VB.box (xs := VM.zero.cells.toArray) (T := 88) (by (repeat (first | exact new_plain wnA | with_reducible refine old_alloc ?_ | with_reducible refine old_drew ?_ | with_reducible refine old_set ?_ wnA | with_reducible refine old_ab (by assumption) ?_)))
        go_wp2_with (first
          | (refine list_stV (o := ⟨none, _, _, _, _, _⟩) (us := x.cells) _ infoV rfl _ _ rfl rfl rfl Y2 rfl rfl x.one ?_
             intro w3 h3
             have b3 : Ab w2 w3 := h3.ab _ ((Ab.refl _).alloc _) (Nat.le_refl _)
             clear h3 Y2))
        go_ret2
        refine ⟨grown_trans hgg (grown_of b3), ?_⟩
        rw [HN.out]
        rfl
      · rw [hrd] at hm
        obtain ⟨⟨xk, xn, xA, xb, xc, xL, xl, xd⟩, rfl, hxv, hx, hR2⟩ := hm
        have HN := Lib.hid (Q2.out v q hrd)
        have ho2 := ho.grown hg2 (fun g hg => by cases hg; exact hRlt)
        have hus := read_used hrd tl
        have HU := Lib.hid hus
        clear hrd hus
        have Y2 : VB (w2.alloc (.cells VM.zero.cells.toArray 88)) w2.heap.size VM.zero.cells := VB.box (xs := VM.zero.cells.toArray) (T := 88) (by (repeat (first | exact new_plain wnA | with_reducible refine old_alloc ?_ | with_reducible refine old_drew ?_ | with_reducible refine old_set ?_ wnA | with_reducible refine old_ab (by assumption) ?_)))
        go_upto_region 7 with (first
          | (refine list_stV (o := ⟨none, _, _, _, _, _⟩) (us := VM.cells ⟨xk, xn, xA, xb, xc, xL, xl, xd⟩) _ infoV rfl _ _ rfl rfl rfl Y2 rfl rfl rfl ?_
             intro w3 h3
             have b3 : Ab w2 w3 := h3.ab _ ((Ab.refl _).alloc _) (Nat.le_refl _)
             have v3 : VB w3 w2.heap.size [.int .u8 (xk : Int), .int .i64 xn, .slice xA xb.length xc, .slice xL xl.length xd] := h3.v
             clear h3 Y2))
        have ho3 := ho2.ab b3
        have hx3 : VL d w3 (fun g => w.heap.size ≤ g ∧ A.map (·.block) ≠ some g) ⟨xk, xn, xA, xb, xc, xL, xl, xd⟩ := by
          refine VL.mono ?_ (hx.ab b3)
          intro g hgl
          refine ⟨by omega, fun e => ?_⟩
          have := ho.lt e
          omega
        have hyl' : ys.length ≤ 1000000 := by have := hyl.out; have := hkt.out; omega
        have b3s := b3.size
        have hs2 := hg2.size
        have kw : IntKind.u64.wrap ((k : Int) + 1) = (k : Int) + 1 := wrapu _ (by omega) (by have := hkt.out; omega)
        go_wp2_with (first
          | (refine list_ldV (o := ⟨some 23, _, _, _, _, _⟩) _ infoV Tryz.underlying88 rfl rfl _ rfl rfl v3 rfl ?_)
          | ((at_builtin
              refine listAppVs (x := ⟨xk, xn, xA, xb, xc, xL, xl, xd⟩) rfl _ _ rfl rfl rfl (ho3.ab (w' := _) abA) (by simp; omega) (by (repeat (first | exact new_plain wnA | with_reducible refine old_alloc ?_ | with_reducible refine old_drew ?_ | with_reducible refine old_set ?_ wnA | with_reducible refine old_ab (by assumption) ?_))) (hx3.ab abA) hyl' ?_
              intro g4 c4 w4 zs hzs ho4 hg4 _)))
        have hgr : ∀ g, A.map (·.block) = some g → w.heap.size ≤ g := fun g e => ho.low e
        go_roundw
        case rel =>
          refine ⟨k + 1, _, c4, zs, t.drop q, u + q, by omega, by go_num, rfl, ho4, ?_, ?_, Lib.hid ?_, Lib.hid ?_, Lib.hid (by rw [htu.out, List.drop_drop]), Lib.hid ?_⟩
          · exact ((hR2.ab b3).ab abA).grownA hg4 fun g e => Nat.lt_of_lt_of_le hRlt (hgr g e)
          · refine grown_low hg4 hgr ?_ ?_
            · simp; omega
            · exact grown_trans (grown_trans hgg (grown_of b3)) (grown_of abA)
          · rw [hzs.out, List.length_append, hyl.out]; rfl
          · have := HU.out; have := hkt.out; rw [List.length_drop]; omega
          · rw [HN.out, hzs.out, List.map_append, ← hxv]; rfl
        case measure => simp [intOf]; omega
    · obtain rfl : k = n := by omega
      go_wp2
      go_ret2
      refine ⟨hg, ?_⟩
      have e0 : Codec.reads d 0 t = some ([], 0) := by rw [Codec.reads]
      rw [hr.out, Nat.sub_self, e0]
      refine ⟨A, c, by simp, by simpa using ho.le, by have := hyl.out; have := hkt.out; simp; omega, ho.vls (by simp), ?_⟩
      rw [Nat.add_zero, ← htu.out]
      exact hR
end Go.Proofs.YthfffbpcmlgoiaaGreatDoor
