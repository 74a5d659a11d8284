/- Kinds of values, walked. Own work. -/
import Derived.Test.YtjgijpfknhfnjaaCvMem
import Derived.Test.YtjgijpfknhfnjaaCvVals
import Derived.Deep.DeepCutAuto
set_option linter.unusedVariables false
set_option linter.unusedSimpArgs false
namespace Go.Proofs.Ytjgijpfknhfnjaa
open Go.RowKit
open Codec (V)

theorem infoV0 : (Try.prog.info? 58).map (·.size) = some 4 := by kernel_rfl
/-- An element's four cells, as the walk reads them. -/
theorem VLs.at4 {d : Nat} {w : World} {S : Nat → Prop} {L : Option Addr} {l : List V} (h : VLs d w S L l) {k : Nat} (hk : k < l.length) : ∃ (a : Addr) (y : VM), L = some a ∧ y.v = l[k] ∧ VL d w S y ∧
    w.cell? (a.add (k * 4)) = some (.int .u8 (y.kind : Int)) ∧ w.cell? ⟨(a.add (k * 4)).block, (a.add (k * 4)).off + 1, none⟩ = some (.int .i64 y.num) ∧
    w.cell? ⟨(a.add (k * 4)).block, (a.add (k * 4)).off + 2, none⟩ = some (.slice y.A y.b.length y.c) ∧ w.cell? ⟨(a.add (k * 4)).block, (a.add (k * 4)).off + 3, none⟩ = some (.slice y.L y.l.length y.d) := by
  obtain ⟨g, o, h1, h2, h3⟩ := h (by omega)
  obtain ⟨y, y1, y2, y3⟩ := h3 k hk
  have e : (⟨g, o, none⟩ : Addr).add (k * 4) = ⟨g, o + k * 4, none⟩ := by
    unfold Addr.add
    split
    · rename_i h0; rw [h0]; rfl
    · rfl
  refine ⟨⟨g, o, none⟩, y, h1, y1, y3, ?_, ?_, ?_, ?_⟩
  · rw [e]; exact y2 0 _ rfl
  · rw [e]; exact y2 1 _ rfl
  · rw [e]; exact y2 2 _ rfl
  · rw [e]; exact y2 3 _ rfl
/-- What isValue returns, at most m. -/
def Iv (m : Nat) : Prop := ∀ (D : Nat) (S : Nat → Prop) (x : VM) (w : World), VL D w S x → Calls Try.prog 71 #[x.val, .int .i64 (m : Int)] w fun e w' => e = .returned (.bool (Codec.kinds m x.v)) ∧ Ab w w'
theorem Iv.out {m : Nat} (h : Iv m) {D : Nat} {S : Nat → Prop} (x : VM) (w : World) (hx : VL D w S x) : Calls Try.prog 71 #[x.val, .int .i64 (m : Int)] w fun e w' => e = .returned (.bool (Codec.kinds m x.v)) ∧ Ab w w' := h D S x w hx
theorem notValue_any (m : Nat) (hm : m ≤ 1000) (hI : Iv m) (D : Nat) (S : Nat → Prop) (x : VM) (g : Nat) (w : World) (hx : VL D w S x) (hg : w.cell? ⟨g, 0, none⟩ = some (.int .i64 ((m + 1 : Nat) : Int))) :
    Calls Try.prog 80 #[x.val, .pointer (some ⟨g, 0, none⟩)] w fun e w' => e = .returned (.bool (!Codec.kinds m x.v)) ∧ Ab w w' := by
  obtain ⟨k1, n1, A1, s1, c1, L1, l1, d1⟩ := x
  have HX := fun w' (hk : Ab w w') => hI.out ⟨k1, n1, A1, s1, c1, L1, l1, d1⟩ w' (hx.ab hk)
  have hj : IntKind.i64.wrap (((m + 1 : Nat) : Int) - 1) = (m : Int) := by rw [IntWalk.i64_in _ (by omega)]; omega
  have hj2 : ((m + 1 : Nat) : Int) - 1 = (m : Int) := by omega
  have hg' : (w.alloc (.cells #[.int .u8 (k1 : Int), .int .i64 n1, .slice A1 s1.length c1, .slice L1 l1.length d1] 58)).cell? ⟨g, 0, none⟩ = some (.int .i64 ((m + 1 : Nat) : Int)) := cell_alloc hg
  have lo : 1 ≤ ((m + 1 : Nat) : Int) := by omega
  have hi : ((m + 1 : Nat) : Int) ≤ 1001 := by omega
  generalize ((m + 1 : Nat) : Int) = M at *
  unfold VM.val VM.cells
  go_enter Try.func80, Try.ntmps80
  go_wp2_with fail
  refine (HX _ abA).mono ?_
  rintro e w2 ⟨rfl, hb2⟩
  rcases hkd : Codec.kinds m (VM.v ⟨k1, n1, A1, s1, c1, L1, l1, d1⟩) with _ | _
  all_goals
    have HK := Lib.hid hkd
    clear hkd
    go_wp2
    go_ret
    exact ⟨by (try rw [HK.out]); rfl, Ab.trans abA hb2⟩
theorem vindex_any (m : Nat) (hm : m ≤ 1000) (hI : Iv m) (D : Nat) (S : Nat → Prop) (L : Option Addr) (l : List V) (c g : Nat) (w : World) (hL : VLs D w S L l) (ll : l.length ≤ 9223372036854775807) (hg : w.cell? ⟨g, 0, none⟩ = some (.int .i64 ((m + 1 : Nat) : Int))) :
    Calls Try.prog 83 #[.slice L l.length c, .func (.func 80) #[] #[.pointer (some ⟨g, 0, none⟩)]] w fun e w' => ∃ v : Int, e = .returned (.int .i64 v) ∧ Hid (decide (0 ≤ v) = !l.all (Codec.kinds m)) ∧ Ab w w' := by
  have HN := fun (x : VM) w' (hk : Ab w w') (hx : VL D w' S x) => notValue_any m hm hI D S x g w' hx (hk.at hg)
  have HNN := Lib.hid HN
  clear HN hI hg
  go_enter Try.func83, Try.ntmps83
  go_wp2
  go_loopw [8] (fun i w' => ∃ k : Nat, k ≤ l.length ∧ i = .int .i64 (k : Int) ∧ Ab w w' ∧ Hid (∀ i (h : i < l.length), i < k → Codec.kinds m l[i] = true)) (fun i _ => l.length - (intOf i).toNat)
  case atStart => exact ⟨0, Nat.zero_le _, rfl, Ab.refl _, fun i _ h => absurd h (by omega)⟩
  case round =>
    obtain ⟨k, hk, rfl, hb, hq⟩ := hrel
    rename World => w1
    by_cases hlt : k < l.length
    · obtain ⟨p, ⟨k3, n3, A3, s3, c3, L3, l3, d3⟩, rfl, yv, yl, p0, p1, p2, p3⟩ := hL.at4 hlt
      have q0 := hb.at p0
      have q1 := hb.at p1
      have q2 := hb.at p2
      have q3 := hb.at p3
      have HC := HNN.out ⟨k3, n3, A3, s3, c3, L3, l3, d3⟩ w1 hb (yl.ab hb)
      have HY := Lib.hid yv
      have hki : (k : Int) < (l.length : Int) := by omega
      clear p0 p1 p2 p3 yv
      dsimp only at q0 q1 q2 q3
      unfold VM.val VM.cells at HC
      go_wp2_with fail
      refine HC.mono ?_
      rintro e w2 ⟨rfl, hb2⟩
      rcases hkd : Codec.kinds m (VM.v ⟨k3, n3, A3, s3, c3, L3, l3, d3⟩) with _ | _
      · have HF : Hid (l.all (Codec.kinds m) = false) := by
          unfold Hid
          rw [List.all_eq_false]
          exact ⟨l[k], List.getElem_mem hlt, by rw [← HY.out, hkd]; simp⟩
        clear hkd
        go_wp2
        go_ret
        exact ⟨(k : Int), rfl, Lib.hid (by rw [HF.out]; simp), hb.trans hb2⟩
      · have HT := Lib.hid hkd
        clear hkd
        go_wp2
        go_roundw
        case rel =>
          refine ⟨k + 1, by omega, by go_num, hb.trans hb2, fun i h hi => ?_⟩
          by_cases hik : i = k
          · subst hik; rw [← HY.out]; exact HT.out
          · exact hq.out i h (by omega)
        case measure => simp [intOf]; omega
    · have HT : Hid (l.all (Codec.kinds m) = true) := by
        unfold Hid
        rw [List.all_eq_true]
        intro x hx
        obtain ⟨i, hi, rfl⟩ := List.mem_iff_getElem.1 hx
        exact hq.out i hi (by omega)
      have hki : ¬ (k : Int) < (l.length : Int) := by omega
      go_wp2
      go_ret
      exact ⟨-1, rfl, Lib.hid (by rw [HT.out]; rfl), hb⟩
theorem vcontains_any (m : Nat) (hm : m ≤ 1000) (hI : Iv m) (D : Nat) (S : Nat → Prop) (L : Option Addr) (l : List V) (c g : Nat) (w : World) (hL : VLs D w S L l) (ll : l.length ≤ 9223372036854775807) (hg : w.cell? ⟨g, 0, none⟩ = some (.int .i64 ((m + 1 : Nat) : Int))) :
    Calls Try.prog 81 #[.slice L l.length c, .func (.func 80) #[] #[.pointer (some ⟨g, 0, none⟩)]] w fun e w' => e = .returned (.bool (!l.all (Codec.kinds m))) ∧ Ab w w' := by
  have HX := vindex_any m hm hI D S L l c g w hL ll hg
  clear hI hg
  go_enter Try.func81, Try.ntmps81
  go_wp2_with fail
  refine HX.mono ?_
  rintro e w2 ⟨v, rfl, hv, hb⟩
  by_cases h0 : 0 ≤ v
  · have H0 := Lib.hid h0
    go_wp2
    go_ret
    exact ⟨by rw [← hv.out, decide_eq_true H0.out]; rfl, hb⟩
  · have H0 := Lib.hid (decide_eq_false h0)
    go_wp2
    go_ret
    exact ⟨by rw [← hv.out, H0.out]; rfl, hb⟩
theorem isValue_0 (x : VM) (w : World) : Calls Try.prog 71 #[x.val, .int .i64 0] w fun e w' => e = .returned (.bool (Codec.kinds 0 x.v)) ∧ Ab w w' := by
  obtain ⟨k1, n1, A1, s1, c1, L1, l1, d1⟩ := x
  unfold VM.val VM.cells
  go_enter Try.func71, Try.ntmps71
  go_wp2
  go_ret
  exact ⟨rfl, abA⟩
theorem kinds_1 {m n : Nat} {z : Int} {b : List UInt8} {l : List V} (h : n = 1) : Codec.kinds (m + 1) (.mk n z b l) = (b.length = 0 && l.length = 0 : Bool) := by subst h; rfl
theorem kinds_2 {m n : Nat} {z : Int} {b : List UInt8} {l : List V} (h : n = 2) : Codec.kinds (m + 1) (.mk n z b l) = (z == 0 && l.length = 0 : Bool) := by subst h; rfl
theorem kinds_3 {m n : Nat} {z : Int} {b : List UInt8} {l : List V} (h : n = 3) : Codec.kinds (m + 1) (.mk n z b l) = (z == 0 && b.length = 0 && l.all (Codec.kinds m) : Bool) := by subst h; rfl
theorem kinds_4 {m n : Nat} {z : Int} {b : List UInt8} {l : List V} (h1 : n ≠ 1) (h2 : n ≠ 2) (h3 : n ≠ 3) : Codec.kinds (m + 1) (.mk n z b l) = false := by
  unfold Codec.kinds
  split <;> first | rfl | (rename_i h; exact absurd h (by assumption))
set_option maxRecDepth 100000 in
set_option maxHeartbeats 4000000 in
theorem isValue_1 (m : Nat) (hm : m ≤ 999) (hI : Iv m) (D : Nat) (S : Nat → Prop) (x : VM) (w : World) (hx : VL (D + 1) w S x) : Calls Try.prog 71 #[x.val, .int .i64 ((m + 1 : Nat) : Int)] w fun e w' => e = .returned (.bool (Codec.kinds (m + 1) x.v)) ∧ Ab w w' := by
  obtain ⟨k1, n1, A1, s1, c1, L1, l1, d1⟩ := x
  have ll : l1.length ≤ 9223372036854775807 := hx.1.2.2.2.2.2.2
  have hL := hx.els
  have HC := fun g w' (hk : Ab w w') (hg : w'.cell? ⟨g, 0, none⟩ = some (.int .i64 ((m + 1 : Nat) : Int))) => vcontains_any m (by omega) hI D S L1 l1 d1 g w' (hL.keep fun g _ hg => hk.out.block g hg) ll hg
  have HCC := Lib.hid HC
  have hM : ∀ (fn : Fn) (first cap : Array Value) (w : World), (Instr.makeFunc fn first cap).run Try.prog w = .ok (.func fn first cap) w := fun _ _ _ _ => rfl
  have m0 : (((m + 1 : Nat) : Int) == 0) = false := by rw [beq_eq_false_iff_ne]; omega
  generalize ((m + 1 : Nat) : Int) = M at *
  clear HC hL hx hI
  unfold VM.val VM.cells
  have key : ∀ r : Bool, Codec.kinds (m + 1) (VM.v ⟨k1, n1, A1, s1, c1, L1, l1, d1⟩) = r → Hid (Codec.kinds (m + 1) (VM.v ⟨k1, n1, A1, s1, c1, L1, l1, d1⟩) = r) := fun _ h => h
  by_cases h1 : k1 = 1
  · have K := kinds_1 (m := m) (z := n1) (b := s1) (l := l1) h1
    have e1 : ((k1 : Int) == 1) = true := by rw [beq_iff_eq]; omega
    by_cases hs : s1.length = 0
    · have es : ((s1.length : Int) == 0) = true := by rw [beq_iff_eq]; omega
      by_cases hl : l1.length = 0
      · have el : ((l1.length : Int) == 0) = true := by rw [beq_iff_eq]; omega
        have HR := key true (by show Codec.kinds (m + 1) (.mk k1 n1 s1 l1) = true; rw [K]; simp only [hs, hl]; rfl)
        clear K h1 hs hl key HCC
        go_enter Try.func71, Try.ntmps71
        go_wp2
        go_ret
        exact ⟨by rw [HR.out]; rfl, abA⟩
      · have el : ((l1.length : Int) == 0) = false := by rw [beq_eq_false_iff_ne]; omega
        have HR := key false (by show Codec.kinds (m + 1) (.mk k1 n1 s1 l1) = false; rw [K]; simp only [hs, hl]; rfl)
        clear K h1 hs hl key HCC
        go_enter Try.func71, Try.ntmps71
        go_wp2
        go_ret
        exact ⟨by rw [HR.out]; rfl, abA⟩
    · have es : ((s1.length : Int) == 0) = false := by rw [beq_eq_false_iff_ne]; omega
      have HR := key false (by show Codec.kinds (m + 1) (.mk k1 n1 s1 l1) = false; rw [K]; simp only [hs]; rfl)
      clear K h1 hs key HCC
      go_enter Try.func71, Try.ntmps71
      go_wp2
      go_ret
      exact ⟨by rw [HR.out]; rfl, abA⟩
  have e1 : ((k1 : Int) == 1) = false := by rw [beq_eq_false_iff_ne]; omega
  by_cases h2 : k1 = 2
  · have K := kinds_2 (m := m) (z := n1) (b := s1) (l := l1) h2
    have e2 : ((k1 : Int) == 2) = true := by rw [beq_iff_eq]; omega
    by_cases hs : n1 = 0
    · have es : (n1 == 0) = true := by rw [beq_iff_eq]; omega
      by_cases hl : l1.length = 0
      · have el : ((l1.length : Int) == 0) = true := by rw [beq_iff_eq]; omega
        have HR := key true (by show Codec.kinds (m + 1) (.mk k1 n1 s1 l1) = true; rw [K]; simp only [es, hl]; rfl)
        clear K h1 h2 hs hl key HCC
        go_enter Try.func71, Try.ntmps71
        go_wp2
        go_ret
        exact ⟨by rw [HR.out]; rfl, abA⟩
      · have el : ((l1.length : Int) == 0) = false := by rw [beq_eq_false_iff_ne]; omega
        have HR := key false (by show Codec.kinds (m + 1) (.mk k1 n1 s1 l1) = false; rw [K]; simp only [es, hl]; rfl)
        clear K h1 h2 hs hl key HCC
        go_enter Try.func71, Try.ntmps71
        go_wp2
        go_ret
        exact ⟨by rw [HR.out]; rfl, abA⟩
    · have es : (n1 == 0) = false := by rw [beq_eq_false_iff_ne]; exact hs
      have HR := key false (by show Codec.kinds (m + 1) (.mk k1 n1 s1 l1) = false; rw [K]; simp only [es]; rfl)
      clear K h1 h2 hs key HCC
      go_enter Try.func71, Try.ntmps71
      go_wp2
      go_ret
      exact ⟨by rw [HR.out]; rfl, abA⟩
  have e2 : ((k1 : Int) == 2) = false := by rw [beq_eq_false_iff_ne]; omega
  by_cases h3 : k1 = 3
  · have K := kinds_3 (m := m) (z := n1) (b := s1) (l := l1) h3
    have e3 : ((k1 : Int) == 3) = true := by rw [beq_iff_eq]; omega
    by_cases hs : n1 = 0
    · have es : (n1 == 0) = true := by rw [beq_iff_eq]; omega
      by_cases hl : s1.length = 0
      · have el : ((s1.length : Int) == 0) = true := by rw [beq_iff_eq]; omega
        have HR := key (l1.all (Codec.kinds m)) (by show Codec.kinds (m + 1) (.mk k1 n1 s1 l1) = _; rw [K]; simp only [es, hl]; simp)
        clear K h1 h2 h3 hs hl key
        go_enter Try.func71, Try.ntmps71
        go_wp2_with fail
        refine (HCC.out _ _ abA (by simp [go_sem])).mono ?_
        rintro e w4 ⟨rfl, hb4⟩
        rcases hall : l1.all (Codec.kinds m) with _ | _
        all_goals
          have HA := Lib.hid hall
          clear hall
          go_wp2
          go_ret
          exact ⟨by rw [HR.out, HA.out]; rfl, Ab.trans abA hb4⟩
      · have el : ((s1.length : Int) == 0) = false := by rw [beq_eq_false_iff_ne]; omega
        have HR := key false (by show Codec.kinds (m + 1) (.mk k1 n1 s1 l1) = false; rw [K]; simp only [es, hl]; rfl)
        clear K h1 h2 h3 hs hl key HCC
        go_enter Try.func71, Try.ntmps71
        go_wp2
        go_ret
        exact ⟨by rw [HR.out]; rfl, abA⟩
    · have es : (n1 == 0) = false := by rw [beq_eq_false_iff_ne]; exact hs
      have HR := key false (by show Codec.kinds (m + 1) (.mk k1 n1 s1 l1) = false; rw [K]; simp only [es]; rfl)
      clear K h1 h2 h3 hs key HCC
      go_enter Try.func71, Try.ntmps71
      go_wp2
      go_ret
      exact ⟨by rw [HR.out]; rfl, abA⟩
  · have e3 : ((k1 : Int) == 3) = false := by rw [beq_eq_false_iff_ne]; omega
    have HR := key false (kinds_4 h1 h2 h3)
    clear h1 h2 h3 key HCC
    go_enter Try.func71, Try.ntmps71
    go_wp2
    go_ret
    exact ⟨by rw [HR.out]; rfl, abA⟩
theorem isValue_any : ∀ m, m ≤ 1000 → Iv m := by
  intro m
  induction m with
  | zero => intro _ D S x w _; exact isValue_0 x w
  | succ m ih =>
    intro hm D S x w hx
    cases D with
    | zero => exact hx.elim
    | succ D => exact isValue_1 m (by omega) (ih (by omega)) D S x w hx
end Go.Proofs.Ytjgijpfknhfnjaa
