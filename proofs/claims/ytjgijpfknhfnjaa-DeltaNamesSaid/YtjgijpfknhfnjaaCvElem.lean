/- Values as elements of lists: numbers, bytes and lists of values, and how long their codes are; lists of values of the call's own, whose elements may lie in older memory. Own work. -/
import Derived.Test.YtjgijpfknhfnjaaCvVals
import Derived.Test.YtjgijpfknhfnjaaCvFunJ
import Derived.Test.YtjgijpfknhfnjaaLast
set_option linter.unusedVariables false
set_option linter.unusedSimpArgs false
namespace Go.Proofs.Ytjgijpfknhfnjaa
open Go.RowKit
open Codec (V)

theorem infoVT : (Try.prog.info? 58).map (·.size) = some 4 := by kernel_rfl
def Obj.N (n : Int) : V := .mk 1 n [] []
def Obj.B (l : List UInt8) : V := .mk 2 0 l []
def Obj.L (l : List V) : V := .mk 3 0 [] l
def vmN (n : Int) : VM := ⟨1, n, none, [], 0, none, [], 0⟩
def vmB (A : Option Addr) (l : List UInt8) (c : Nat) : VM := ⟨2, 0, A, l, c, none, [], 0⟩
def vmL (L : Option Addr) (l : List V) (c : Nat) : VM := ⟨3, 0, none, [], 0, L, l, c⟩
theorem vl_list {w : World} {g d c : Nat} {S : Nat → Prop} (ys : List VM) (hb : VB w g (vcells ys)) (hS : S g) (h : ∀ y ∈ ys, VL d w S y) (hc : ys.length ≤ c) (hl : ys.length ≤ 9223372036854775807) : VL (d + 1) w S (vmL (some ⟨g, 0, none⟩) (ys.map VM.v) c) := by
  refine ⟨⟨by simp [vmL], by simp [vmL], by simp [vmL], by simp [vmL], by simp [vmL], by simpa [vmL] using hc, by simpa [vmL] using hl⟩, RS.nil, fun hn => ⟨g, 0, rfl, hS, fun i hi => ?_⟩⟩
  have hi' : i < ys.length := by simpa [vmL] using hi
  refine ⟨ys[i], by simp [vmL], fun j v hv => ?_, h _ (List.getElem_mem hi')⟩
  rw [Nat.zero_add]
  exact hb.at _ (vcells_at ys i hi' j v hv)
theorem vl_B {w : World} {S : Nat → Prop} {A : Option Addr} {l : List UInt8} {c : Nat} (h : RS w S A l) (hc : l.length ≤ c) (hl : l.length ≤ 9223372036854775807) : VL 1 w S (vmB A l c) :=
  ⟨⟨by simp [vmB], by simp [vmB], by simp [vmB], hc, hl, by simp [vmB], by simp [vmB]⟩, h, fun hn => absurd hn (by simp [vmB])⟩
theorem vl_N {w : World} {S : Nat → Prop} {n : Int} (h0 : -9223372036854775808 ≤ n) (h1 : n ≤ 9223372036854775807) : VL 1 w S (vmN n) :=
  ⟨⟨by simp [vmN], h0, h1, by simp [vmN], by simp [vmN], by simp [vmN], by simp [vmN]⟩, RS.nil, fun hn => absurd hn (by simp [vmN])⟩
theorem code3_le {n : Nat} (h : n < 2097152) : (Codec.code n).length ≤ 3 := by
  by_cases h1 : n < 128
  · rw [Codec.code_small h1]; simp
  · rw [Codec.code_big h1]
    by_cases h2 : n / 128 < 128
    · rw [Codec.code_small h2]; simp
    · rw [Codec.code_big h2, Codec.code_small (by omega)]; simp
theorem kinds_N (d : Nat) (n : Int) : Codec.kinds (d + 1) (Obj.N n) = true := rfl
theorem kinds_B (d : Nat) (l : List UInt8) : Codec.kinds (d + 1) (Obj.B l) = true := rfl
theorem kinds_L (d : Nat) (vs : List V) (h : ∀ v ∈ vs, Codec.kinds d v = true) : Codec.kinds (d + 1) (Obj.L vs) = true := by
  show ((0 : Int) == 0 && decide (([] : List UInt8).length = 0) && vs.all (Codec.kinds d)) = true
  simpa using h
theorem enc_N (d : Nat) (n : Int) (h : Codec.fold n < 2097152) : (Codec.enc (d + 1) (Obj.N n)).length ≤ 4 := by
  show (1 :: Codec.code (Codec.fold n)).length ≤ 4
  have := code3_le h
  simp; omega
theorem enc_B (d : Nat) (l : List UInt8) (h : l.length < 2097152) : (Codec.enc (d + 1) (Obj.B l)).length ≤ l.length + 4 := by
  show (2 :: (Codec.code l.length ++ l)).length ≤ _
  have := code3_le h
  simp; omega
theorem flat_le {α : Type _} (f : α → List UInt8) (m : Nat) : ∀ l : List α, (∀ x ∈ l, (f x).length ≤ m) → (l.map f).flatten.length ≤ m * l.length
  | [], _ => by simp
  | x :: l, h => by
    have h1 := h x (by simp)
    have h2 := flat_le f m l fun y hy => h y (by simp [hy])
    simp only [List.map_cons, List.flatten_cons, List.length_append, List.length_cons]
    rw [Nat.mul_succ]
    omega
theorem enc_L (d : Nat) (vs : List V) (m : Nat) (hn : vs.length < 2097152) (h : ∀ v ∈ vs, (Codec.enc d v).length ≤ m) : (Codec.enc (d + 1) (Obj.L vs)).length ≤ m * vs.length + 4 := by
  have h1 := code3_le hn
  have h2 := flat_le (Codec.enc d) m vs h
  have e : Codec.enc (d + 1) (Obj.L vs) = 3 :: (Codec.code vs.length ++ (vs.map (Codec.enc d)).flatten) := rfl
  rw [e]
  simp only [List.length_cons, List.length_append]
  omega
theorem L_len (d : Nat) (vs : List V) (n : Nat) (hn : vs.length < 2097152) (h : ((vs.map (Codec.enc d)).flatten).length ≤ n) : (Codec.enc (d + 1) (Obj.L vs)).length ≤ n + 4 := by
  have h1 := code3_le hn
  have e : Codec.enc (d + 1) (Obj.L vs) = 3 :: (Codec.code vs.length ++ (vs.map (Codec.enc d)).flatten) := rfl
  rw [e]
  simp only [List.length_cons, List.length_append]
  omega
theorem OwnVs.list {d lo c : Nat} {w : World} {A : Option Addr} {ys : List VM} (h : OwnVs d lo w A c ys) (hl : ys.length ≤ 9223372036854775807) : VL (d + 1) w (fun _ => True) (vmL A (ys.map VM.v) c) :=
  ⟨⟨by simp [vmL], by simp [vmL], by simp [vmL], by simp [vmL], by simp [vmL], by have := h.le; simpa [vmL] using this, by simpa [vmL] using hl⟩, RS.nil, VLs.mono (fun _ _ => trivial) (h.vls rfl)⟩
theorem OwnVs.list' {d lo c : Nat} {w : World} {A : Option Addr} {ys : List VM} (h : OwnVs d lo w A c ys) (hl : ys.length ≤ 9223372036854775807) : VL (d + 1) w (fun g => lo ≤ g) (vmL A (ys.map VM.v) c) :=
  ⟨⟨by simp [vmL], by simp [vmL], by simp [vmL], by simp [vmL], by simp [vmL], by have := h.le; simpa [vmL] using this, by simpa [vmL] using hl⟩, RS.nil, h.vls rfl⟩
theorem OwnVs.deeper {d e lo c : Nat} {w : World} {A : Option Addr} {ys : List VM} (h : OwnVs d lo w A c ys) (k : d ≤ e) : OwnVs e lo w A c ys := ⟨h.1, fun y hy => (h.2 y hy).le k⟩
/-- Several values appended at once. -/
theorem OwnVs.apps {d lo c g c' : Nat} {w w' : World} {A : Option Addr} {ys xs : List VM} (h : OwnVs d lo w A c ys) (hx : ∀ x ∈ xs, VL d w (fun g => lo ≤ g ∧ A.map (·.block) ≠ some g) x)
    (hv : OV 58 4 lo w' (some ⟨g, 0, none⟩) (ys.length + xs.length) c' (vcells ys ++ vcells xs)) (hg : w.grownBy w' (A.map (·.block))) (hk : A.map (·.block) = some g ∨ g = w.heap.size) :
    OwnVs d lo w' (some ⟨g, 0, none⟩) c' (ys ++ xs) := by
  have key : ∀ y : VM, VL d w (fun g => lo ≤ g ∧ A.map (·.block) ≠ some g) y → VL d w' (fun k => lo ≤ k ∧ (some (⟨g, 0, none⟩ : Addr)).map (·.block) ≠ some k) y := by
    intro y hy
    refine VL.mono ?_ (hy.lt.keep fun k hk' hl => hg.block k hl fun e => hk'.1.2 e.symm)
    rintro k ⟨⟨h1, h2⟩, h3⟩
    refine ⟨h1, ?_⟩
    rcases hk with hk | hk
    · rw [hk] at h2; exact h2
    · simp; omega
  refine ⟨?_, fun y hy => ?_⟩
  · rw [vcells_append, List.length_append]; exact hv
  · rcases List.mem_append.1 hy with hy | hy
    · exact key y (h.2 y hy)
    · exact key y (hx y hy)
theorem vcells_len (xs : List VM) : (vcells xs).length = xs.length * 4 := by
  induction xs with
  | nil => rfl
  | cons x xs ih =>
    have e : vcells (x :: xs) = x.cells ++ vcells xs := by simp [vcells]
    rw [e, List.length_append, ih, VM.len, List.length_cons]; omega
theorem OwnVs.one {d lo g : Nat} {w : World} {x : VM} (hlo : lo ≤ g) (hg : w.heap[g]? = some (.cells x.cells.toArray 58 (0, 0))) (hx : VL d w (fun k => lo ≤ k ∧ k ≠ g) x) : OwnVs d lo w (some ⟨g, 0, none⟩) 1 [x] := by
  refine ⟨⟨(vcells_len [x]).trans rfl, .inr ⟨g, 1, x.cells.toArray, rfl, hlo, hg, Nat.le_refl _, by unfold maxLen; omega, rfl, rfl⟩⟩, fun y hy => ?_⟩
  obtain rfl : y = x := by simpa using hy
  exact hx.mono fun k hk => ⟨hk.1, fun e => hk.2 (by simpa using e.symm)⟩
theorem wp_appVm {lo d : Nat} {w : World} {A : Option Addr} {c : Nat} {ys xs : List VM} {o : Oper} {a : Act} {g e n : Nat} {K : Act → World → Prop} {Q : Exit → Act → World → Prop} (s y : Operand) (ho : o.op = .call { callee := .builtin .append, args := #[s, y], argTypes := #[56, 56] })
    (hs : a.eval s = .slice A ys.length c) (hy : a.eval y = .slice (some ⟨g, 0, none⟩) n e) (hn : n = xs.length) (h : OwnVs d lo w A c ys) (hlo : lo ≤ w.heap.size)
    (hg : VB w g (vcells xs)) (hx : ∀ x ∈ xs, VL d w (fun g => lo ≤ g ∧ A.map (·.block) ≠ some g) x) (h0 : 0 < xs.length) (h1 : xs.length ≤ 100) (hlen : ys.length ≤ 1000000)
    (hK : ∀ g' c' w' zs, Hid (zs = ys ++ xs) → OwnVs d lo w' (some ⟨g', 0, none⟩) c' zs → w.grownBy w' (A.map (·.block)) → (A.map (·.block) = some g' ∨ g' = w.heap.size) → K (a.put o.dst (.slice (some ⟨g', 0, none⟩) zs.length c')) w') : o.wp Try.prog a w K Q := by
  subst hn
  obtain ⟨i0, hi0, hz0, hz1, hz2⟩ := info_parts infoVal
  refine wp_appV (ws := vcells xs) s y _ ho i0 _ Try.underlying56 hi0 hz0 hz1 hz2 rfl (by omega) hs hy h.1 hlo (vcells_len xs) ?_ ?_ h0 (by unfold maxLen; omega) (by omega) ?_
  · intro j u hu
    have e : (⟨g, 0, none⟩ : Addr).add j = ⟨g, j, none⟩ := by unfold Addr.add; split <;> simp_all
    rw [e]
    exact hg.at j hu
  · intro u hu
    have : ∀ xs : List VM, u ∈ vcells xs → u.oneCell' = true := fun xs hu => by
      obtain ⟨l, hl, hul⟩ := List.mem_flatten.1 hu
      obtain ⟨x, _, rfl⟩ := List.mem_map.1 hl
      exact List.all_eq_true.1 x.one u hul
    exact this xs hu
  · intro g' c' w' h4 h5 h6
    have := hK g' c' w' (ys ++ xs) rfl (h.apps hx h4 h5 h6) h5 h6
    rwa [List.length_append] at this
/-- The call's own list of values, whose bytes and elements lie in blocks of P or in the call's own, none in the list's. -/
def OwnVp (d lo : Nat) (P : Nat → Prop) (w : World) (A : Option Addr) (c : Nat) (ys : List VM) : Prop :=
  OV 58 4 lo w A ys.length c (vcells ys) ∧ ∀ y ∈ ys, VL d w (fun g => (P g ∨ lo ≤ g) ∧ A.map (·.block) ≠ some g) y
section
variable {w w' : World} {lo c d : Nat} {P : Nat → Prop} {A : Option Addr} {ys : List VM} {x : VM}
theorem OwnVp.nil : OwnVp d lo P w none 0 [] := ⟨World.ownsRow_nil _ _ _ _, fun y h => absurd h (by simp)⟩
theorem OwnVp.keep (h : OwnVp d lo P w A c ys) (hk : ∀ g, (P g ∨ lo ≤ g) → g < w.heap.size → w'.heap[g]? = w.heap[g]?) : OwnVp d lo P w' A c ys :=
  ⟨h.1.keepB fun g h1 h2 => hk g (.inr h1) h2, fun y hy => (h.2 y hy).keep fun g hg hl => hk g hg.1 hl⟩
theorem OwnVp.ab (h : OwnVp d lo P w A c ys) (k : Ab w w') : OwnVp d lo P w' A c ys := h.keep fun g _ hg => k.out.block g hg
theorem OwnVp.le (h : OwnVp d lo P w A c ys) : ys.length ≤ c := h.1.le
theorem OwnVp.snoc {g c' : Nat} (h : OwnVp d lo P w A c ys) (hx : VL d w (fun g => (P g ∨ lo ≤ g) ∧ A.map (·.block) ≠ some g) x)
    (hv : OV 58 4 lo w' (some ⟨g, 0, none⟩) (ys.length + 1) c' (vcells ys ++ x.cells)) (hg : w.grownBy w' (A.map (·.block))) (hk : A.map (·.block) = some g ∨ g = w.heap.size) :
    OwnVp d lo P w' (some ⟨g, 0, none⟩) c' (ys ++ [x]) := by
  have key : ∀ y : VM, VL d w (fun g => (P g ∨ lo ≤ g) ∧ A.map (·.block) ≠ some g) y → VL d w' (fun k => (P k ∨ lo ≤ k) ∧ (some (⟨g, 0, none⟩ : Addr)).map (·.block) ≠ some k) y := by
    intro y hy
    refine VL.mono ?_ (hy.lt.keep fun k hk' hl => hg.block k hl fun e => hk'.1.2 e.symm)
    rintro k ⟨⟨h1, h2⟩, h3⟩
    refine ⟨h1, ?_⟩
    rcases hk with hk | hk
    · rw [hk] at h2; exact h2
    · simp; omega
  refine ⟨?_, fun y hy => ?_⟩
  · rw [vcells_append, vcells_one, List.length_append]; exact hv
  · rcases List.mem_append.1 hy with hy | hy
    · exact key y (h.2 y hy)
    · obtain rfl : y = x := by simpa using hy
      exact key y hx
theorem OwnVp.at_ (h : OwnVp d lo P w A c ys) {g : Nat} (e : A.map (·.block) = some g) : lo ≤ g ∧ g < w.heap.size := by
  rcases h.1.2 with ⟨h1, h0⟩ | ⟨k, cap, cur, hv, hb, hh, _⟩
  · injection h1 with h1; rw [h1] at e; cases e
  · have hA : A = some ⟨k, 0, none⟩ := by injection hv
    rw [hA] at e
    simp at e
    subst e
    rcases Nat.lt_or_ge k w.heap.size with h | h
    · exact ⟨hb, h⟩
    · rw [Array.getElem?_eq_none h] at hh; cases hh
theorem OwnVp.list (h : OwnVp d lo P w A c ys) (hl : ys.length ≤ 9223372036854775807) : VL (d + 1) w (fun _ => True) (vmL A (ys.map VM.v) c) := by
  refine ⟨⟨by simp [vmL], by simp [vmL], by simp [vmL], by simp [vmL], by simp [vmL], by have := h.le; simpa [vmL] using this, by simpa [vmL] using hl⟩, RS.nil, fun hn => ?_⟩
  have hn' : 0 < ys.length := by simpa [vmL] using hn
  rcases h.1.2 with ⟨_, h0⟩ | ⟨g, cap, cur, hv, hb, _⟩
  · omega
  · have hA : A = some ⟨g, 0, none⟩ := by injection hv
    have hc := h.1
    unfold OV at hc
    refine ⟨g, 0, hA, trivial, fun i hi => ?_⟩
    have hi' : i < ys.length := by simpa [vmL] using hi
    refine ⟨ys[i], by simp [vmL], fun j v hj => ?_, (h.2 _ (List.getElem_mem hi')).mono fun _ _ => trivial⟩
    have := hc.cells (g := g) (by rw [hA]; rfl) _ _ (vcells_at ys i hi' j v hj)
    have e : (⟨g, 0, none⟩ : Addr).add (i * 4 + j) = ⟨g, 0 + i * 4 + j, none⟩ := by
      unfold Addr.add
      split
      · rename_i h0; rw [show 0 + i * 4 + j = 0 by omega]
      · simp
    rw [e] at this
    exact this
end
section
variable {lo d : Nat} {P : Nat → Prop} {w : World} {A : Option Addr} {c : Nat} {ys : List VM} {x : VM} {o : Oper} {a : Act} {g e : Nat} {fr : Nat × Nat}
theorem wp_appVp {K : Act → World → Prop} {Q : Exit → Act → World → Prop} (s y : Operand) (ho : o.op = .call { callee := .builtin .append, args := #[s, y], argTypes := #[56, 56] })
    (hs : a.eval s = .slice A ys.length c) (hy : a.eval y = .slice (some ⟨g, 0, none⟩) 1 e) (h : OwnVp d lo P w A c ys) (hlo : lo ≤ w.heap.size)
    (hg : w.heap[g]? = some (.cells x.cells.toArray 58 fr)) (hx : VL d w (fun g => (P g ∨ lo ≤ g) ∧ A.map (·.block) ≠ some g) x) (hlen : ys.length ≤ 1000000)
    (hK : ∀ g' c' w' zs, Hid (zs = ys ++ [x]) → OwnVp d lo P w' (some ⟨g', 0, none⟩) c' zs → w.grownBy w' (A.map (·.block)) → (A.map (·.block) = some g' ∨ g' = w.heap.size) → K (a.put o.dst (.slice (some ⟨g', 0, none⟩) zs.length c')) w') : o.wp Try.prog a w K Q := by
  obtain ⟨i0, hi0, hz0, hz1, hz2⟩ := info_parts infoVal
  refine wp_appV (ws := x.cells) s y _ ho i0 _ Try.underlying56 hi0 hz0 hz1 hz2 rfl (by omega) hs hy h.1 hlo rfl ?_ ?_ (by omega) (by unfold maxLen; omega) (by omega) ?_
  · intro j u hu
    have e : (⟨g, 0, none⟩ : Addr).add j = ⟨g, j, none⟩ := by unfold Addr.add; split <;> simp_all
    rw [e]
    unfold World.cell?
    rw [hg]
    simpa using hu
  · intro u hu
    exact List.all_eq_true.1 x.one u hu
  · intro g' c' w' h4 h5 h6
    have := hK g' c' w' (ys ++ [x]) rfl (h.snoc hx h4 h5 h6) h5 h6
    rwa [List.length_append] at this
theorem listAppVp {ops : Array Oper} {rest : List Oper} {Q : Exit → Act → World → Prop} (hgd : o.guard = none) (s y : Operand) (ho : o.op = .call { callee := .builtin .append, args := #[s, y], argTypes := #[56, 56] })
    (hs : a.eval s = .slice A ys.length c) (hy : a.eval y = .slice (some ⟨g, 0, none⟩) 1 e) (h : OwnVp d lo P w A c ys) (hlo : lo ≤ w.heap.size)
    (hg : w.heap[g]? = some (.cells x.cells.toArray 58 fr)) (hx : VL d w (fun g => (P g ∨ lo ≤ g) ∧ A.map (·.block) ≠ some g) x) (hlen : ys.length ≤ 1000000)
    (hK : ∀ g' c' w' zs, Hid (zs = ys ++ [x]) → OwnVp d lo P w' (some ⟨g', 0, none⟩) c' zs → w.grownBy w' (A.map (·.block)) → (A.map (·.block) = some g' ∨ g' = w.heap.size) → wpList Try.prog ops Q rest (a.put o.dst (.slice (some ⟨g', 0, none⟩) zs.length c')) w') :
    wpList Try.prog ops Q (o :: rest) a w :=
  wpList_plain hgd fun _ hK' => wp_appVp s y ho hs hy h hlo hg hx hlen fun g' c' w' zs e h4 h5 h6 => hK' _ _ (hK g' c' w' zs e h4 h5 h6)
end
end Go.Proofs.Ytjgijpfknhfnjaa
