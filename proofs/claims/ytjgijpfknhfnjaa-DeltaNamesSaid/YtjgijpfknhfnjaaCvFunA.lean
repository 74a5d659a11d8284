/- The reader of the codec: a byte, walked. Own work. -/
import Derived.Test.YtjgijpfknhfnjaaCvMem
import Derived.Test.YtjgijpfknhfnjaaCodecT
import Derived.Test.YtjgijpfknhfnjaaCvInt
import Derived.Deep.DeepCutAuto
set_option linter.unusedVariables false
set_option linter.unusedSimpArgs false
namespace Go.Proofs.Ytjgijpfknhfnjaa
open Go.RowKit

/-- The reader in block R has the bytes l before it. -/
def Rd (w : World) (R : Nat) (l : List UInt8) : Prop := ∃ A c, VB w R [.slice A l.length c] ∧ RS w (· < R) A l ∧ l.length ≤ c ∧ l.length ≤ 1000000
theorem Rd.grown {w w' : World} {R : Nat} {l : List UInt8} {r : Option Nat} (h : Rd w R l) (k : w.grownBy w' r) (hr : ∀ g, r = some g → w.heap.size ≤ g) : Rd w' R l := by
  obtain ⟨A, c, h1, h2, h3⟩ := h
  have hb : Ab w w' := grown_ab (Ab.refl w) k hr
  exact ⟨A, c, h1.ab hb, h2.keep fun g _ hg => hb.out.block g hg, h3⟩
/-- A list of the call's own, laid behind the reader, is appended to. -/
theorem Rd.grownA {w w' : World} {R : Nat} {l : List UInt8} {r : Option Nat} (h : Rd w R l) (k : w.grownBy w' r) (hr : ∀ g, r = some g → R < g) : Rd w' R l := by
  obtain ⟨A, c, h1, h2, h3⟩ := h
  have hb : ∀ g, g ≤ R → g < w.heap.size → w'.heap[g]? = w.heap[g]? := fun g hg hl => k.block g hl fun e => absurd (hr g e.symm) (by omega)
  refine ⟨A, c, ?_, h2.keep fun g hg hl => hb g (Nat.le_of_lt hg) hl, h3⟩
  have hb2 := hb R (Nat.le_refl _) h1.lt
  refine ⟨Nat.lt_of_lt_of_le h1.lt k.size, fun i v hi => ?_, fun i => ?_⟩
  · exact (World.cell?_of_block (a := ⟨R, i, none⟩) hb2).trans (h1.q i v hi)
  · refine Eq.trans ?_ (h1.g i)
    unfold World.frozen?
    rw [show (⟨R, i, none⟩ : Addr).block = R from rfl, hb2]
theorem Rd.ab {w w' : World} {R : Nat} {l : List UInt8} (h : Rd w R l) (hb : Ab w w') : Rd w' R l := by
  obtain ⟨A, c, h1, h2, h3⟩ := h
  exact ⟨A, c, h1.ab hb, h2.keep fun g _ hg => hb.out.block g hg, h3⟩
theorem grown_trans {a b c : World} {r : Option Nat} (h : a.grownBy b r) (k : b.grownBy c r) : a.grownBy c r :=
  ⟨k.os.trans h.os, k.tape.trans h.tape, k.output.trans h.output, Nat.le_trans h.size k.size, fun g hg hne => (k.block g (Nat.lt_of_lt_of_le hg h.size) hne).trans (h.block g hg hne)⟩
theorem Rd.store {w : World} {R c : Nat} {A : Option Addr} {l : List UInt8} {v : Value} (hv : VB w R [v]) (hs : RS w (· < R) A l) (hc : l.length ≤ c) (ll : l.length ≤ 1000000) :
    Rd (w.setCell ⟨R, 0, none⟩ (.slice A l.length c)) R l :=
  ⟨A, c, hv.set 0 (by simp) _, hs.setb (Nat.lt_irrefl _) _, hc, ll⟩
theorem grown_low {a b c : World} {r q : Option Nat} (k : b.grownBy c r) (hr : ∀ g, r = some g → a.heap.size ≤ g) (hs : a.heap.size ≤ b.heap.size) (h : a.grownBy b q) : a.grownBy c q :=
  ⟨k.os.trans h.os, k.tape.trans h.tape, k.output.trans h.output, Nat.le_trans h.size k.size, fun g hg hne => (k.block g (Nat.lt_of_lt_of_le hg h.size) fun e => absurd (hr g e.symm) (by omega)).trans (h.block g hg hne)⟩
theorem grown_cell0 (w : World) (R : Nat) (u : Value) : w.grownBy (w.setCell ⟨R, 0, none⟩ u) (some R) := grown_set (World.grownBy.refl w _) u
theorem takeByte_nil (R : Nat) (w : World) (h : Rd w R []) :
    Calls Try.prog 73 #[.pointer (some ⟨R, 0, none⟩)] w fun e w' => e = .returned (.tuple #[.int .u8 0, .bool false]) ∧ w = w' := by
  obtain ⟨A, c, hv, _⟩ := h
  have c0 := hv.at 0 rfl
  clear hv
  go_enter Try.func73, Try.ntmps73
  go_wp2
  go_ret2
  exact ⟨rfl, rfl⟩
theorem takeByte_cons (R : Nat) (x : UInt8) (l : List UInt8) (w : World) (h : Rd w R (x :: l)) :
    Calls Try.prog 73 #[.pointer (some ⟨R, 0, none⟩)] w fun e w' => e = .returned (.tuple #[.int .u8 (x.toNat : Int), .bool true]) ∧ Rd w' R l ∧ w.grownBy w' (some R) := by
  obtain ⟨A, c, hv, hs, hc, ll⟩ := h
  have c0 := hv.at 0 rfl
  have g0 := hv.g 0
  obtain ⟨ad, rfl, hne, hcell⟩ := hs (by simp)
  have cx : w.cell? ad = some (.int .u8 (x.toNat : Int)) := hcell 0 (by simp)
  have HS := Lib.hid (hs.cut 1 c hc)
  have HV := Lib.hid hv
  rw [List.length_cons] at hc ll c0
  obtain ⟨n, hn⟩ : ∃ n, n = l.length := ⟨_, rfl⟩
  rw [← hn] at c0 hc ll
  have HL := Lib.hid hn
  have hl0 : (0 : Int) < (n : Int) + 1 := by omega
  have M : ∀ w0, (Instr.slice 22 (.slice (some ad) (n + 1) c) (some (.int .i64 1)) none none).run Try.prog w0 = .ok (.slice (cutA (some ad) c 1) n (c - 1)) w0 := fun w0 => run_cut 1 .i64 (some ad) (n + 1) c w0 (by omega)
  clear hn hs hcell hne hv
  go_enter Try.func73, Try.ntmps73
  go_wp2
  go_ret2
  refine ⟨rfl, ?_, grown_cell0 _ _ _⟩
  have := Rd.store HV.out HS.out (c := c - 1) (by rw [List.drop_one, List.tail_cons]; have := HL.out; omega) (by rw [List.drop_one, List.tail_cons]; have := HL.out; omega)
  rw [List.drop_one, List.tail_cons, ← HL.out] at this
  exact this
/-- The bytes that say so. -/
def RetC (w : World) (R : Nat) (l : List UInt8) (e : Ending) (w' : World) : Prop := w.grownBy w' (some R) ∧ match Codec.coded l with
  | some (n, u) => e = .returned (.tuple #[.int .u64 (n : Int), .bool true]) ∧ Rd w' R (l.drop u)
  | none => ∃ n : Int, e = .returned (.tuple #[.int .u64 n, .bool false])
set_option maxRecDepth 100000 in
theorem takeCode_any (R : Nat) (l : List UInt8) (w : World) (h : Rd w R l) :
    Calls Try.prog 74 #[.pointer (some ⟨R, 0, none⟩)] w (RetC w R l) := by
  have ll : l.length ≤ 1000000 := by obtain ⟨A, c, _, _, _, h⟩ := h; exact h
  go_enter Try.func74, Try.ntmps74
  go_wp2
  go_loopw [4, 5] (fun n5 s5 w' => ∃ (s n : Nat) (t : List UInt8), n5 = .int .u64 (n : Int) ∧ s5 = .int .i64 (7 * s : Nat) ∧ n < 128 ^ s ∧ n < 18446744073709551616 ∧ Rd w' R t ∧ w.grownBy w' (some R) ∧ Hid (s + t.length = l.length) ∧ Hid (t = l.drop s) ∧ Hid (Codec.coded l = (Codec.tc s n t).map fun p => (p.1, p.2 + s))) (fun _ s5 _ => 7 * l.length + 7 - (intOf s5).toNat)
  case atStart => exact ⟨0, 0, l, rfl, rfl, by simp, by omega, h, World.grownBy.refl w _, Lib.hid (by simp), Lib.hid (by simp), Lib.hid (by rw [Codec.tc_coded]; cases Codec.coded l <;> rfl)⟩
  case round =>
    obtain ⟨s, n, t, rfl, rfl, hn, hn64, hR, hg, hst, htd, htc⟩ := hrel
    rename World => w1
    cases t with
    | nil =>
      go_wp2_with fail
      refine (takeByte_nil R _ hR).mono ?_
      rintro e w2 ⟨rfl, rfl⟩
      go_wp2
      go_ret2
      refine ⟨hg, ?_⟩
      rw [htc.out]
      exact ⟨0, rfl⟩
    | cons x t =>
      go_wp2_with fail
      refine (takeByte_cons R x t _ hR).mono ?_
      rintro e w2 ⟨rfl, hR2, hg2⟩
      obtain ⟨p, hp⟩ : ∃ p, p = x.toNat % 128 := ⟨_, rfl⟩
      have hpl : p < 128 := by omega
      have hpx : (x.toNat : Int) % 128 = (p : Int) := by omega
      have hx := x.toNat_lt
      obtain ⟨P, hP⟩ : ∃ P, P = p * 128 ^ s % 18446744073709551616 := ⟨_, rfl⟩
      obtain ⟨q, hq⟩ : ∃ q, q = P / 2 ^ min (7 * s) 64 := ⟨_, rfl⟩
      have SL : Op.shift .shl .u64 (p : Int) .i64 (7 * (s : Int)) = pure (.int .u64 (P : Int)) := by rw [shl7 p s _ rfl, hP]
      have SR : Op.shift .shr .u64 (P : Int) .i64 (7 * (s : Int)) = pure (.int .u64 (q : Int)) := by rw [shr7 P s _ rfl, hq]
      have hqp : q = p ↔ p * 128 ^ s < 18446744073709551616 := by rw [hq, hP]; exact back7 p s hpl
      have hgg := grown_trans hg hg2
      by_cases hbig : 18446744073709551616 ≤ p * 128 ^ s
      · have HN : Hid (Codec.coded l = none) := by
          unfold Hid
          rw [htc.out, Codec.tc, ← hp, if_pos hbig]; rfl
        have hne : ((q : Int) != (p : Int)) = true := by
          have : q ≠ p := fun e => by have := hqp.1 e; omega
          simp; omega
        clear hqp hP hq hp hn hbig
        go_wp2
        go_ret2
        refine ⟨hgg, ?_⟩
        rw [HN.out]
        exact ⟨0, rfl⟩
      · have hne : ((q : Int) != (p : Int)) = false := by
          have := hqp.2 (by omega)
          simp; omega
        have hPv : P = p * 128 ^ s := by rw [hP, Nat.mod_eq_of_lt (by omega)]
        have OR_ : bits .or .u64 (n : Int) (P : Int) = ((n + P : Nat) : Int) := or64 n P (7 * s) (by rw [← pow7]; exact hn) p (by rw [hPv, pow7]) (by omega) hn64
        have HT : Hid (Codec.tc s n (x :: t) = if x.toNat < 128 then (if 0 < x.toNat ∨ s = 0 then some (n + P, 1) else none) else (Codec.tc (s + 1) (n + P) t).map fun r => (r.1, r.2 + 1)) := by
          unfold Hid
          rw [Codec.tc, ← hp, if_neg hbig, ← hPv]
          split
          · rfl
          · rcases Codec.tc (s + 1) (n + P) t with _ | ⟨m, u⟩ <;> rfl
        have HB : n + P < 128 ^ (s + 1) ∧ n + P < 18446744073709551616 := by
          rw [hPv]
          refine ⟨?_, ?_⟩
          · have h4 : p * 128 ^ s ≤ 127 * 128 ^ s := Nat.mul_le_mul_right _ (by omega)
            rw [Nat.pow_succ]; omega
          · by_cases h10 : s ≤ 9
            · exact Codec.fits h10 hn (by omega)
            · have h0 : p = 0 := by
                refine Decidable.byContradiction fun h0 => hbig ?_
                have h1 : 128 ^ 10 ≤ 128 ^ s := Nat.pow_le_pow_right (by decide) (by omega)
                have h2 : 1 * 128 ^ s ≤ p * 128 ^ s := Nat.mul_le_mul_right _ (by omega)
                have h3 : (128 : Nat) ^ 10 = 1180591620717411303424 := by decide
                omega
              rw [h0]; omega
        have HP := Lib.hid HB
        obtain ⟨m, hm⟩ : ∃ m, n + P = m := ⟨_, rfl⟩
        rw [hm] at OR_ HT HP
        have HOR := Lib.hid OR_
        have HPp := Lib.hid (fun h : s = 0 => show P = p by rw [hPv, h]; simp)
        clear hqp hq hbig hP hPv hp HB hn hn64 hm
        have ls : s ≤ 1000000 := by have := hst.out; omega
        have hst2 : Hid (s + 1 + t.length = l.length) := by have := hst.out; unfold Hid; rw [List.length_cons] at this; omega
        have htd2 : Hid (t = l.drop (s + 1)) := by unfold Hid; rw [← List.drop_drop, ← htd.out, List.drop_one, List.tail_cons]
        by_cases hlt : x.toNat < 128
        · have HT2 : Hid (Codec.coded l = if 0 < x.toNat ∨ s = 0 then some (m, 1 + s) else none) := by
            unfold Hid
            rw [htc.out, HT.out, if_pos hlt]
            split <;> rfl
          by_cases h0 : 0 < x.toNat
          · go_wp2
            go_ret2
            refine ⟨hgg, ?_⟩
            rw [HT2.out, if_pos (.inl h0)]
            exact ⟨rfl, by rw [Nat.add_comm, ← htd2.out]; exact hR2⟩
          · by_cases hs0 : s = 0
            · have hs1 : (7 * (s : Int) == 0) = true := by simp; omega
              go_wp2
              go_ret2
              refine ⟨hgg, ?_⟩
              rw [HT2.out, if_pos (.inr hs0)]
              have e := HOR.out
              rw [HPp.out hs0] at e
              refine ⟨?_, by rw [Nat.add_comm, ← htd2.out]; exact hR2⟩
              show Ending.returned (.tuple #[.int .u64 (bits .or .u64 (n : Int) (p : Int)), .bool true]) = _
              rw [e]
            · have hs1 : (7 * (s : Int) == 0) = false := by simp; omega
              go_wp2
              go_ret2
              refine ⟨hgg, ?_⟩
              rw [HT2.out, if_neg (by omega)]
              exact ⟨_, rfl⟩
        · go_wp2
          go_roundw
          case rel => exact ⟨s + 1, m, t, rfl, by go_num, HP.out.1, HP.out.2, hR2, hgg, hst2, htd2, Lib.hid (by rw [htc.out, HT.out, if_neg hlt]; rcases Codec.tc (s + 1) m t with _ | ⟨m, u⟩; rfl; simp; omega)⟩
          case measure => simp [intOf]; have := hst2.out; omega
end Go.Proofs.Ytjgijpfknhfnjaa
