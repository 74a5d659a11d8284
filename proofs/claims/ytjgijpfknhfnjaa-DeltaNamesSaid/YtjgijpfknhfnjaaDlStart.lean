/- How the least delta of each end begins, walked. Own work. -/
import Derived.Test.YtjgijpfknhfnjaaDlLib
import Derived.Test.YtjgijpfknhfnjaaDlRow
set_option linter.unusedVariables false
set_option linter.unusedSimpArgs false
namespace Go.Proofs.Ytjgijpfknhfnjaa
open Go.RowKit

theorem run_headB (h : Nat) (kd : IntKind) (a : Option Addr) (len cap : Nat) (w : World) (h2 : h ≤ cap) :
    (Instr.slice 22 (.slice a len cap) none (some (.int kd (h : Int))) none).run Try.prog w = .ok (.slice a h cap) w := by
  have hu : Try.prog.underlying 22 = some (.slice (Try.prog.elem 22)) := by kernel_rfl
  obtain ⟨i0, hi0, _, hz1, _⟩ := info_parts infoU8
  have he : Try.prog.elem 22 = 5 := by kernel_rfl
  rw [run_slice_h w 22 a len cap hu kd (h : Int) (by omega) (by omega), he]
  simp only [sizeOf, typeInfo, sliced, Int.toNat_natCast, Sem.run_bind, Sem.run_pure]
  simp [hi0, hz1]
  try (cases a <;> simp [Addr.add])
theorem run_tailS (k : Nat) (kd : IntKind) (b len cap : Nat) (w : World) (h : k ≤ len) (h2 : k < cap) :
    (Instr.slice 61 (.slice (some ⟨b, 0, none⟩) len cap) (some (.int kd (k : Int))) none none).run Try.prog w = .ok (.slice (some ⟨b, k * 3, none⟩) (len - k) (cap - k)) w := by
  have hu : Try.prog.underlying 61 = some (.slice (Try.prog.elem 61)) := by kernel_rfl
  have he : Try.prog.elem 61 = 64 := by kernel_rfl
  rw [run_slice_l w 61 (some ⟨b, 0, none⟩) len cap hu kd (k : Int) (by omega) (by omega), he]
  simp only [sizeOf, typeInfo, sliced, Int.toNat_natCast, Sem.run_bind, Sem.run_pure]
  have hi3 := infoS
  cases hq : Try.prog.info? 64 with
  | none => rw [hq] at hi3; cases hi3
  | some i0 =>
    rw [hq] at hi3
    have h3 : i0.size = 3 := by simpa using hi3
    have hne : ¬ cap = k := by omega
    simp [hq, h3, hne, Addr.add]
    intro h0
    omega
set_option maxRecDepth 100000 in
set_option maxHeartbeats 1000000 in
theorem longest_any (A D : Option Addr) (c d : Nat) (s t : List UInt8) (most : Nat) (w : World) (hM : MaxL w) (hs : RB w 0 A s) (ht : RB w 0 D t) (hc : s.length ≤ c) (hd : t.length ≤ d) (hA : A = none → c = 0) (hsl : s.length ≤ 100000) (htl : t.length ≤ 100000)
    (hm : most ≤ t.length) (hmax : ∀ m, m ≤ t.length → Dl.has s (t.take m) = true → m ≤ most) :
    Calls Try.prog 50 #[.slice A s.length c, .slice D t.length d, .int .i64 (most : Int)] w fun e w' => ∃ lg : Nat, e = .returned (.int .i64 (lg : Int)) ∧ Hid (Dl.Long s t lg) ∧ Ab w w' := by
  have TC := Lib.hid (fun (i : Nat) (hi : i ≤ t.length) w' (k : Ab w w') => (show Calls Try.prog 63 #[.slice A s.length c, .slice D i d] w' fun e w2 => e = .returned (.bool (Dl.has s (t.take i))) ∧ Ab w' w2 by
    have := bcontains_any A D c d s (t.take i) w' (hM.ab k) (hs.ab k) ((ht.take i).ab k) hc hA hsl (by simp; omega)
    rwa [show (t.take i).length = i by simp; omega] at this))
  have H0 := Lib.hid (Dl.has_nil s)
  have HX := Lib.hid hmax
  clear hmax hs ht hM
  go_enter Try.func50, Try.ntmps50
  go_wp2_with fail
  go_loopw [7] (fun n w' => ∃ i : Nat, i ≤ most ∧ n = .int .i64 (i : Int) ∧ Hid (∀ m, m ≤ t.length → Dl.has s (t.take m) = true → m ≤ i) ∧ Ab w w') (fun n _ => (intOf n).toNat)
  case atStart => exact ⟨most, Nat.le_refl _, rfl, Lib.hid HX.out, abA⟩
  case round =>
    obtain ⟨i, hi, rfl, hX, hb⟩ := hrel
    rename World => w1
    have M : ∀ w0, (Instr.slice 22 (.slice D t.length d) none (some (.int .i64 (i : Int))) none).run Try.prog w0 = .ok (.slice D i d) w0 := fun w0 => run_headB i .i64 _ _ _ w0 (by omega)
    have TC1 := TC.out i (by omega) w1 hb
    have HL : Hid (Dl.has s (t.take i) = true → Dl.Long s t i) := Lib.hid (fun h => ⟨by omega, h, hX.out⟩)
    have HN : Hid (Dl.has s (t.take i) = false → i ≠ 0 ∧ ∀ m, m ≤ t.length → Dl.has s (t.take m) = true → m ≤ i - 1) := Lib.hid (fun h => by
      refine ⟨fun e => ?_, fun m h1 h2 => ?_⟩
      · rw [e, List.take_zero, H0.out] at h; cases h
      · have := hX.out m h1 h2
        by_cases e : m = i
        · rw [e, h] at h2; cases h2
        · omega)
    clear hX
    generalize Dl.has s (t.take i) = q at *
    go_wp2_with fail
    refine TC1.mono ?_
    rintro e w2 ⟨rfl, hb2⟩
    cases q with
    | true =>
      have HL2 := Lib.hid (HL.out rfl)
      clear HL HN
      go_wp2
      go_ret
      exact ⟨i, rfl, HL2, hb.trans hb2⟩
    | false =>
      obtain ⟨h0, hN⟩ := HN.out rfl
      clear HN HL
      have HN2 := Lib.hid hN
      clear hN
      have hw2 : IntKind.i64.wrap ((i : Int) - 1) = ((i - 1 : Nat) : Int) := by rw [show ((i - 1 : Nat) : Int) = (i : Int) - 1 by omega]; exact IntWalk.i64_in _ (by omega)
      go_wp2
      go_roundw
      case rel => exact ⟨i - 1, by omega, by go_num, HN2, hb.trans hb2⟩
      case measure => simp [intOf] <;> omega
/-- The starts from j on are those of the least deltas. -/
structure Dl.Done (s T : List UInt8) (ss : List SM) (j : Nat) : Prop where
  len : ss.length = T.length + 1
  tab : ∃ gf : Nat → Nat, Dl.Tab s T (fun i => (ss.getD i SM.zero).c) gf j ∧ ∀ i, j ≤ i → i < T.length → Dl.Start T.length (fun i => (ss.getD i SM.zero).c) gf i (ss.getD i SM.zero).k (ss.getD i SM.zero).cp
theorem Dl.Done.start (s T : List UInt8) : Dl.Done s T (List.replicate (T.length + 1) SM.zero) T.length := by
  refine ⟨by simp, fun _ => 0, ⟨fun i h1 h2 => by omega, by simp [SM.zero], fun i m h1 h2 => by omega, fun i m h1 h2 => by omega, fun i h1 h2 => by omega⟩, fun i h1 h2 => by omega⟩
theorem Dl.Done.step {s T : List UInt8} {ss : List SM} {i lg k : Nat} {c : Int} {cp : Bool} (h : Dl.Done s T ss (i + 1)) (hi : i < T.length) (hl : Dl.Long s (T.drop i) lg) (hB : Dl.Best (fun j => (ss.getD (i + j) SM.zero).c) lg (T.length - i) c k cp) :
    Dl.Done s T (ss.set i ⟨c, k, cp⟩) i := by
  obtain ⟨gf, ht, hs⟩ := h.tab
  have hlen := h.len
  have e1 : ∀ j, i + 1 ≤ j → (ss.set i ⟨c, k, cp⟩).getD j SM.zero = ss.getD j SM.zero := fun j hj => by
    simp only [List.getD_eq_getElem?_getD]
    rw [List.getElem?_set_ne (by omega)]
  have e2 : (ss.set i ⟨c, k, cp⟩).getD i SM.zero = ⟨c, k, cp⟩ := by
    simp only [List.getD_eq_getElem?_getD]
    rw [List.getElem?_set_self (by omega)]; rfl
  have hk := hB.one
  have hkl := hB.le
  have hT := ht.step (f' := fun j => ((ss.set i ⟨c, k, cp⟩).getD j SM.zero).c) (g' := fun j => if j = i then lg else gf j) (k := k) (cp := cp) hi hl (fun j hj => by rw [e1 j hj]) (fun j hj => by rw [if_neg (by omega)]) (if_pos rfl) hk (by omega)
    (fun j h1 h2 => by rw [e2]; exact hB.copy j h1 h2) (fun j h1 h2 => by rw [e2]; exact hB.ins j h1 (by omega)) (fun h => ⟨(hB.t h).1, by rw [e2]; exact (hB.t h).2.1⟩) (fun h => by rw [e2]; exact (hB.f h).1)
  refine ⟨by simpa using hlen, _, hT, fun j h1 h2 => ?_⟩
  by_cases e : j = i
  · subst e
    rw [e2]
    refine ⟨hk, by show j + k ≤ T.length; omega, fun h => ?_, fun h => ?_⟩
    · obtain ⟨t1, t2, t3⟩ := hB.t h
      refine ⟨by rw [if_pos rfl]; exact t1, by rw [e2, e1 (j + k) (by omega)]; exact t2, fun m h3 h4 => ?_⟩
      rw [if_pos rfl] at h4
      rw [e2, e1 (j + m) (by omega)]
      exact t3 m h3 h4
    · obtain ⟨t1, t2, t3⟩ := hB.f h
      refine ⟨fun m h3 h4 => ?_, by rw [e2, e1 (j + k) (by omega)]; exact t1, fun m h3 h4 => ?_⟩
      · rw [if_pos rfl] at h4
        rw [e2, e1 (j + m) (by omega)]
        exact t2 m h3 h4
      · rw [e2, e1 (j + m) (by omega)]
        exact t3 m h3 h4
  · have hg : gf j = (if j = i then lg else gf j) := by rw [if_neg e]
    have := hs j (by omega) h2
    have h1k := this.one
    rw [e1 j (by omega)]
    have hr := ht.room (i := j) (by omega) h2
    refine ⟨this.one, this.room, fun h => ?_, fun h => ?_⟩
    · obtain ⟨t1, t2, t3⟩ := this.c h
      refine ⟨by rw [if_neg e]; exact t1, by rw [e1 j (by omega), e1 (j + (ss.getD j SM.zero).k) (by omega)]; exact t2, fun m h3 h4 => ?_⟩
      rw [if_neg e] at h4
      rw [e1 j (by omega), e1 (j + m) (by omega)]
      exact t3 m h3 h4
    · obtain ⟨t1, t2, t3⟩ := this.d h
      refine ⟨fun m h3 h4 => ?_, by rw [e1 j (by omega), e1 (j + (ss.getD j SM.zero).k) (by omega)]; exact t2, fun m h3 h4 => ?_⟩
      · rw [if_neg e] at h4
        rw [e1 j (by omega), e1 (j + m) (by omega)]
        exact t1 m h3 h4
      · rw [e1 j (by omega), e1 (j + m) (by omega)]
        exact t3 m h3 h4
/-- What startsOf returns. -/
def RetStarts (n : Nat) (s T : List UInt8) (w : World) (e : Ending) (w' : World) : Prop := ∃ (g : Nat) (ss : List SM), e = .returned (.slice (some ⟨g, 0, none⟩) n n) ∧ VB w' g (scells ss) ∧ w.heap.size ≤ g ∧ Hid (Dl.Done s T ss 0) ∧ Ab w w'
theorem Dl.Done.bound {s T : List UInt8} {ss : List SM} {j : Nat} (h : Dl.Done s T ss j) (i : Nat) (h1 : j ≤ i) (h2 : i ≤ T.length) : 0 ≤ (ss.getD i SM.zero).c ∧ (ss.getD i SM.zero).c ≤ 1 + T.length := by
  obtain ⟨gf, ht, _⟩ := h.tab
  have := ht.nonneg (T.length - i) i (by omega) h1
  exact ⟨this.1, by have := this.2.1; omega⟩
set_option maxRecDepth 100000 in
set_option maxHeartbeats 4000000 in
theorem starts_any (A D : Option Addr) (c d : Nat) (s T : List UInt8) (w : World) (hM : MaxL w) (hs : RB w 0 A s) (ht : RB w 0 D T) (hc : s.length ≤ c) (hd : T.length ≤ d) (hA : A = none → c = 0) (hsl : s.length ≤ 300) (htl : T.length ≤ 300) :
    Calls Try.prog 30 #[.slice A s.length c, .slice D T.length d] w (RetStarts (T.length + 1) s T w) := by
  obtain ⟨N1, hN1⟩ : ∃ N1 : Nat, N1 = T.length + 1 := ⟨_, rfl⟩
  obtain ⟨Z, hZ, HZ⟩ := make_starts N1 (by omega) (N1 : Int) rfl
  have HN1 := Lib.hid hN1
  have hN1' : N1 ≤ 301 := by omega
  have hw0 : IntKind.i64.wrap ((T.length : Int) + 1) = (N1 : Int) := by rw [show (N1 : Int) = (T.length : Int) + 1 by omega]; exact IntWalk.i64_in _ (by omega)
  have hw1 : IntKind.i64.wrap ((T.length : Int) - 1) = (T.length : Int) - 1 := IntWalk.i64_in _ (by omega)
  have HX := Lib.hid (⟨hM, hs, ht⟩ : MaxL w ∧ RB w 0 A s ∧ RB w 0 D T)
  rw [← hN1]
  clear hM hs ht hN1
  go_enter Try.func30, Try.ntmps30
  go_upto_region 2 with fail
  have b0 : Ab w (w.alloc (.cells Z 64)) := abA
  have R0 : VB (w.alloc (.cells Z 64)) w.heap.size (scells (List.replicate N1 SM.zero)) := HZ.out _ _ (by (repeat (first | exact new_plain wnA | with_reducible refine old_alloc ?_ | with_reducible refine old_drew ?_ | with_reducible refine old_set ?_ wnA | with_reducible refine old_ab (by assumption) ?_)))
  generalize w.alloc (.cells Z 64) = w0 at *
  go_wp2_with fail
  go_loopw [6, 7] (fun l n w' => ∃ (j lg : Nat) (ss : List SM), j ≤ T.length ∧ l = .int .i64 (lg : Int) ∧ n = .int .i64 ((j : Int) - 1) ∧ Hid (Dl.Long s (T.drop j) lg) ∧ Hid (Dl.Done s T ss j) ∧ VB w' w.heap.size (scells ss) ∧ Ab w w') (fun _ n _ => (intOf n + 1).toNat)
  case atStart => exact ⟨T.length, 0, _, Nat.le_refl _, rfl, rfl, Lib.hid (by rw [List.drop_of_length_le (Nat.le_refl _)]; exact Dl.Long.nil s), Lib.hid (by rw [HN1.out]; exact Dl.Done.start s T), R0, b0⟩
  case round =>
    clear R0 b0 hZ HZ
    obtain ⟨j, lg, ss, hj, rfl, rfl, hL, hD, R1, hb⟩ := hrel
    rename World => w1
    by_cases h0 : j = 0
    · subst h0
      have hT : ¬ (0 : Int) ≤ ((0 : Nat) : Int) - 1 := by omega
      go_wp2
      go_ret
      exact ⟨w.heap.size, ss, rfl, R1, Nat.le_refl _, hD, hb⟩
    · obtain ⟨i, hi⟩ : ∃ i, j = i + 1 := ⟨j - 1, by omega⟩
      have hi2 : ((j : Int) - 1) = (i : Int) := by omega
      rw [hi2]
      have hiT : i < T.length := by omega
      have hiI : (i : Int) < (T.length : Int) := by omega
      have hss : ss.length = T.length + 1 := hD.out.len
      obtain ⟨x, hx⟩ : ∃ x, T.drop i = x :: T.drop (i + 1) := ⟨T[i], List.drop_eq_getElem_cons hiT⟩
      have hlg : lg + 1 ≤ (T.drop i).length := by
        have := hL.out.le
        rw [hi] at this
        simp at this ⊢
        omega
      have TL := longest_any A (cutA D d i) c (d - i) s (T.drop i) (lg + 1) w1 (HX.out.1.ab hb) (HX.out.2.1.ab hb) ((HX.out.2.2.cut i d hd).ab hb) hc (by simp; omega) hA (by omega) (by simp; omega) hlg (fun m h1 h2 => by
        rw [hx] at h1 h2
        have h3 := hL.out
        rw [hi] at h3
        exact h3.next (by simpa using h1) h2)
      rw [show (T.drop i).length = T.length - i by simp] at TL
      have M : ∀ w0, (Instr.slice 22 (.slice D T.length d) (some (.int .i64 (i : Int))) none none).run Try.prog w0 = .ok (.slice (cutA D d i) (T.length - i) (d - i)) w0 := fun w0 => run_cut i .i64 _ _ _ w0 (by omega)
      obtain ⟨l1, hl1⟩ : ∃ l1 : Nat, l1 = lg + 1 := ⟨_, rfl⟩
      rw [← hl1] at TL
      have hlgb : lg ≤ 300 := by simp at hlg; omega
      have hwl : IntKind.i64.wrap ((lg : Int) + 1) = (l1 : Int) := by rw [show (l1 : Int) = (lg : Int) + 1 by omega]; exact IntWalk.i64_in _ (by omega)
      have HI := Lib.hid hi
      have HL1 := Lib.hid hl1
      have HH := Lib.hid (And.intro hi2 hlg)
      clear hi hl1 hx hi2 hlg hL
      go_wp2_with fail
      refine TL.mono ?_
      rintro e w2 ⟨lg2, rfl, hL2, hb2⟩
      have R2 := R1.ab hb2
      have b2 := hb.trans hb2
      have hlg2 : lg2 ≤ T.length - i := by have := hL2.out.le; simpa using this
      have hij := HI.out
      have hDD := hD.out
      rw [hij] at hDD
      have TB := best_any w.heap.size (i * 3) (N1 - i) lg2 (T.length - i) (fun j => (ss.getD (i + j) SM.zero).c) w2 (fun j h1 h2 => by
        have hlt : i + j < ss.length := by omega
        have := R2.at ((i + j) * 3 + 0) ((scells_at ss (i + j) hlt 0 (by omega)).trans rfl)
        rw [show (i + j) * 3 + 0 = i * 3 + j * 3 by omega] at this
        rw [this]
        simp [hlt]) (fun j h1 h2 => by
        have := hDD.bound (i + j) (by omega) (by omega)
        exact ⟨this.1, by omega⟩) (by omega) (by omega) hlg2
      rw [show T.length - i + 1 = N1 - i by have := HN1.out; omega] at TB
      have M2 : ∀ w0, (Instr.slice 61 (.slice (some ⟨w.heap.size, 0, none⟩) N1 N1) (some (.int .i64 (i : Int))) none none).run Try.prog w0 = .ok (.slice (some ⟨w.heap.size, i * 3, none⟩) (N1 - i) (N1 - i)) w0 := fun w0 => run_tailS i .i64 _ _ _ w0 (by have := HN1.out; omega) (by have := HN1.out; omega)
      have hiN : (i : Int) < (N1 : Int) := by have := HN1.out; omega
      have hw3 : IntKind.i64.wrap ((i : Int) - 1) = (i : Int) - 1 := IntWalk.i64_in _ (by omega)
      have HDD := Lib.hid hDD
      have HLG := Lib.hid hlg2
      clear hij hDD hlg2 M TL R1 hD
      go_wp2_with fail
      refine TB.mono ?_
      rintro e w3 ⟨cc, kk, cp, rfl, hB, hb3⟩
      have R3 := R2.ab hb3
      have b3 := b2.trans hb3
      have HDN := Lib.hid (HDD.out.step hiT hL2.out hB.out)
      clear TB R2 hB HDD
      go_wp2_with (refine list_stE ss i ⟨cc, kk, cp⟩ rfl _ _ rfl rfl rfl R3 (by omega) ?_; intro w4 h4)
      go_roundw
      case rel => exact ⟨i, lg2, ss.set i ⟨cc, kk, cp⟩, by omega, rfl, by go_num, hL2, HDN, h4.v, h4.ab w b3 (Nat.le_refl _)⟩
      case measure => simp [intOf] <;> omega
end Go.Proofs.Ytjgijpfknhfnjaa
