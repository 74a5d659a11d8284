/- Rows of ints in memory; the rows of the reference's table. Own work. -/
import Derived.Test.YtbhhjbmpcpjcnaaDlLcp
import Derived.Test.YtbhhjbmpcpjcnaaDlRow
import Derived.Test.YtbhhjbmpcpjcnaaStillT
set_option linter.unusedVariables false
set_option linter.unusedSimpArgs false
namespace Go.Proofs.Ytbhhjbmpcpjcnaa
open Go.RowKit

def icells (xs : List Int) : List Value := xs.map (.int .i64 ·)
def ncells (xs : List Nat) : List Value := xs.map fun g : Nat => .int .i64 (g : Int)
theorem icells_at {xs : List Int} {i : Nat} (h : i < xs.length) : (icells xs)[i]? = some (.int .i64 (xs.getD i 0)) := by simp [icells, h]
theorem ncells_at {xs : List Nat} {i : Nat} (h : i < xs.length) : (ncells xs)[i]? = some (.int .i64 (xs.getD i 0 : Nat)) := by simp [ncells, h]
theorem icells_set (xs : List Int) (i : Nat) (v : Int) : (icells xs).set i (.int .i64 v) = icells (xs.set i v) := by simp [icells, List.map_set]
theorem ncells_set (xs : List Nat) (i : Nat) (v : Nat) : (ncells xs).set i (.int .i64 (v : Int)) = ncells (xs.set i v) := by simp [ncells, List.map_set]
theorem icells_len (xs : List Int) : (icells xs).length = xs.length := by simp [icells]
theorem ncells_len (xs : List Nat) : (ncells xs).length = xs.length := by simp [ncells]
theorem ncells_zero (n : Nat) : ncells (List.replicate n 0) = icells (List.replicate n 0) := by simp [ncells, icells]
/-- What make([]int, n) lays, under a name. -/
theorem make_ints (n : Nat) (hn : n ≤ 100000) (v : Int) (hv : v = (n : Int)) : ∃ Z : Array Value,
    (∀ w : World, (Instr.makeSlice 72 (.int .i64 v) (.int .i64 v)).run Try.prog w = .ok (.slice (some ⟨w.heap.size, 0, none⟩) n n) (w.alloc (.cells Z 3))) ∧
    Hid (∀ (w : World) (g : Nat), w.heap[g]? = some (.cells Z 3 (0, 0)) → VB w g (icells (List.replicate n 0))) := by
  subst hv
  have hi8 : (Try.prog.info? 3).map (fun i => (i.zero, i.size, i.bytes)) = some (some (.int .i64 0), 1, 8) := by kernel_rfl
  obtain ⟨i0, hi, hz, hs, hb⟩ := info_parts hi8
  refine ⟨madeCells (Value.int .i64 0).cells n, fun w => ?_, ?_⟩
  · have := run_makeSlice (P := Try.prog) w 72 3 i0 _ Try.underlying72 hi hz .i64 .i64 n n (by omega) (Int.le_refl _) (by rw [hs]; simp; omega) (by rw [hb]; omega) (by omega)
    rw [hs, Int.toNat_natCast, Nat.mul_one] at this
    exact this
  · unfold Hid
    intro w g hg
    have h0 := VB.box hg
    have ht : (madeCells (Value.int .i64 0).cells n).toList = List.replicate n (.int .i64 0) := toList_madeCells_one _ _
    rw [ht] at h0
    have e : icells (List.replicate n 0) = List.replicate n (.int .i64 0) := by simp [icells]
    rw [e]
    exact h0
theorem getD_set_self {α : Type} (xs : List α) (i : Nat) (v d : α) (h : i < xs.length) : (xs.set i v).getD i d = v := by simp [h]
theorem getD_set_ne {α : Type} (xs : List α) (i j : Nat) (v d : α) (h : i ≠ j) : (xs.set i v).getD j d = xs.getD j d := by simp [List.getD_eq_getElem?_getD, h]
/-- The rows of the table when the ends from j on are done. -/
structure Dl.Rows (s T : List UInt8) (F : List Int) (G S : List Nat) (j : Nat) : Prop where
  fl : F.length = T.length + 1
  gl : G.length = T.length + 1
  sl : S.length = s.length + 1
  z : ∀ i, i < j → G.getD i 0 = 0
  tab : Dl.Tab s T (fun i => F.getD i 0) (fun i => G.getD i 0) j
  sm : ∀ k, k ≤ s.length → S.getD k 0 = Dl.lcp (s.drop k) (T.drop j)
theorem getD_zeros (n i : Nat) : (List.replicate n 0).getD i 0 = 0 := by
  rw [List.getD_eq_getElem?_getD, List.getElem?_replicate]; split <;> rfl
theorem getD_zerosI (n i : Nat) : (List.replicate n (0 : Int)).getD i 0 = 0 := by
  rw [List.getD_eq_getElem?_getD, List.getElem?_replicate]; split <;> rfl
theorem Dl.Rows.start (s T : List UInt8) : Dl.Rows s T (List.replicate (T.length + 1) 0) (List.replicate (T.length + 1) 0) (List.replicate (s.length + 1) 0) T.length :=
  ⟨by simp, by simp, by simp, fun i _ => getD_zeros _ _, ⟨fun i h1 h2 => by omega, getD_zerosI _ _, fun i m h1 h2 => by omega, fun i m h1 h2 => by omega, fun i h1 h2 => by omega⟩, fun k _ => by
    rw [List.drop_of_length_le (Nat.le_refl T.length), Dl.lcp_nil]; exact getD_zeros _ _⟩
/-- The row of agreements, done up to k. -/
structure Dl.Agree (s t : List UInt8) (N : List Nat) (k : Nat) : Prop where
  l : N.length = s.length + 1
  lo : ∀ q, q < k → N.getD q 0 = Dl.lcp (s.drop q) t
  hi : ∀ q, k ≤ q → N.getD q 0 = 0
theorem Dl.Agree.start (s t : List UInt8) : Dl.Agree s t (List.replicate (s.length + 1) 0) 0 := ⟨by simp, fun q h => by omega, fun q _ => getD_zeros _ _⟩
theorem Dl.Agree.put {s t : List UInt8} {N : List Nat} {k v : Nat} (h : Dl.Agree s t N k) (hk : k < s.length) (hv : v = Dl.lcp (s.drop k) t) : Dl.Agree s t (N.set k v) (k + 1) := by
  have hl := h.l
  refine ⟨by simpa using hl, fun q hq => ?_, fun q hq => ?_⟩
  · by_cases e : q = k
    · subst e; rw [getD_set_self _ _ _ _ (by omega), hv]
    · rw [getD_set_ne _ _ _ _ _ (Ne.symm e)]; exact h.lo q (by omega)
  · rw [getD_set_ne _ _ _ _ _ (by omega)]; exact h.hi q (by omega)
theorem Dl.Agree.skip {s t : List UInt8} {N : List Nat} {k : Nat} (h : Dl.Agree s t N k) (hv : 0 = Dl.lcp (s.drop k) t) : Dl.Agree s t N (k + 1) := by
  refine ⟨h.l, fun q hq => ?_, fun q hq => h.hi q (by omega)⟩
  by_cases e : q = k
  · subst e; rw [h.hi q (Nat.le_refl _), hv]
  · exact h.lo q (by omega)
theorem Dl.Agree.all {s t : List UInt8} {N : List Nat} (h : Dl.Agree s t N s.length) : ∀ k, k ≤ s.length → N.getD k 0 = Dl.lcp (s.drop k) t := by
  intro k hk
  by_cases e : k < s.length
  · exact h.lo k e
  · rw [h.hi k (by omega), List.drop_of_length_le (by omega), Dl.lcp_nil']
/-- The end at i done too. -/
theorem Dl.Rows.next {s T : List UInt8} {F : List Int} {G S N : List Nat} {i : Nat} {v : Int} (h : Dl.Rows s T F G S (i + 1)) (hi : i < T.length) (hN : Dl.Agree s (T.drop i) N s.length)
    (hv : Dl.Low T.length (fun j => F.getD j 0) (Dl.most s (T.drop i) s.length) i (T.length - i + 1) v) : Dl.Rows s T (F.set i v) (G.set i (Dl.most s (T.drop i) s.length)) N i := by
  have hf := h.fl
  have hg := h.gl
  refine ⟨by simpa using hf, by simpa using hg, hN.l, fun j hj => ?_, ?_, hN.all⟩
  · rw [getD_set_ne _ _ _ _ _ (by omega)]; exact h.z j (by omega)
  · refine h.tab.low hi (fun j hj => getD_set_ne _ _ _ _ _ (by omega)) (fun j hj => getD_set_ne _ _ _ _ _ (by omega)) ?_ ?_
    · show Dl.Long s (T.drop i) ((G.set i _).getD i 0)
      rw [getD_set_self _ _ _ _ (by omega)]; exact Dl.most_long _ _
    · show Dl.Low T.length _ ((G.set i _).getD i 0) i _ ((F.set i v).getD i 0)
      rw [getD_set_self _ _ _ _ (by omega), getD_set_self _ _ _ _ (by omega)]; exact hv
theorem Dl.Rows.bound {s T : List UInt8} {F : List Int} {G S : List Nat} {j : Nat} (h : Dl.Rows s T F G S j) (hT : T.length ≤ 300) (i : Nat) (h1 : j ≤ i) (h2 : i ≤ T.length) : 0 ≤ F.getD i 0 ∧ F.getD i 0 ≤ 301 := by
  have := h.tab.nonneg (T.length - i) i (by omega) h1
  exact ⟨this.1, by omega⟩
end Go.Proofs.Ytbhhjbmpcpjcnaa
