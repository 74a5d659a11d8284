/- Rows of starts in memory: made, stored into, read. Own work. -/
import Derived.Test.YtjgijpfknhfnjaaDlBest
import Derived.Laws.MakeOwn
import Derived.Laws.OwnMore
set_option linter.unusedVariables false
set_option linter.unusedSimpArgs false
namespace Go.Proofs.Ytjgijpfknhfnjaa
open Go.RowKit

/-- A start: cost, bytes, copied or not. -/
structure SM where
  c : Int
  k : Nat
  cp : Bool
instance : Inhabited SM := ⟨⟨0, 0, false⟩⟩
def SM.zero : SM := ⟨0, 0, false⟩
def SM.cells (x : SM) : List Value := [.int .i64 x.c, .int .i64 (x.k : Int), .bool x.cp]
def scells (ss : List SM) : List Value := (ss.map SM.cells).flatten
theorem scells_cons (x : SM) (ss : List SM) : scells (x :: ss) = x.cells ++ scells ss := by simp [scells]
theorem scells_len (ss : List SM) : (scells ss).length = ss.length * 3 := by
  induction ss with
  | nil => rfl
  | cons x ss ih => rw [scells_cons, List.length_append, ih, List.length_cons]; show 3 + ss.length * 3 = _; omega
theorem scells_at (ss : List SM) : ∀ i (h : i < ss.length) (j : Nat), j < 3 → (scells ss)[i * 3 + j]? = ss[i].cells[j]? := by
  induction ss with
  | nil => intro i h; exact absurd h (by simp)
  | cons x ss ih =>
    intro i h j hj
    rw [scells_cons]
    cases i with
    | zero => rw [Nat.zero_mul, Nat.zero_add, List.getElem?_append_left (show j < x.cells.length from hj)]; rfl
    | succ i =>
      rw [List.getElem?_append_right (by show 3 ≤ _; omega)]
      show (scells ss)[(i + 1) * 3 + j - 3]? = _
      rw [show (i + 1) * 3 + j - 3 = i * 3 + j by omega]
      exact ih i (by simpa using h) j hj
/-- One start replaced. -/
theorem scells_set (ss : List SM) (i : Nat) (h : i < ss.length) (x : SM) : (((scells ss).set (i * 3) (.int .i64 x.c)).set (i * 3 + 1) (.int .i64 (x.k : Int))).set (i * 3 + 1 + 1) (.bool x.cp) = scells (ss.set i x) := by
  apply List.ext_getElem?
  intro m
  by_cases hm : m < ss.length * 3
  · obtain ⟨q, r, rfl, hr⟩ : ∃ q r, m = q * 3 + r ∧ r < 3 := ⟨m / 3, m % 3, by omega, by omega⟩
    have hq : q < ss.length := by omega
    have hl := scells_len ss
    rw [scells_at (ss.set i x) q (by simpa using hq) r hr]
    by_cases e : q = i
    · subst e
      rw [List.getElem_set_self]
      match r, hr with
      | 0, _ =>
        rw [List.getElem?_set_ne (by omega), List.getElem?_set_ne (by omega), Nat.add_zero, List.getElem?_set_self (by omega)]; rfl
      | 1, _ =>
        rw [List.getElem?_set_ne (by omega), List.getElem?_set_self (by simp; omega)]; rfl
      | 2, _ =>
        rw [show q * 3 + 2 = q * 3 + 1 + 1 from rfl, List.getElem?_set_self (by simp; omega)]; rfl
    · rw [List.getElem_set_ne (Ne.symm e), List.getElem?_set_ne (by omega), List.getElem?_set_ne (by omega), List.getElem?_set_ne (by omega)]
      exact scells_at ss q hq r hr
  · rw [List.getElem?_eq_none (by simp [scells_len]; omega), List.getElem?_eq_none (by simp [scells_len]; omega)]
theorem scells_zero (n : Nat) : ∀ i, i < n * 3 → (scells (List.replicate n SM.zero))[i]? = SM.zero.cells[i % 3]? := by
  intro i hi
  have := scells_at (List.replicate n SM.zero) (i / 3) (by simp; omega) (i % 3) (by omega)
  rw [show i / 3 * 3 + i % 3 = i by omega] at this
  rw [this]
  simp
theorem make_starts (n : Nat) (hn : n ≤ 100000) (v : Int) (hv : v = (n : Int)) : ∃ Z : Array Value,
    (∀ w : World, (Instr.makeSlice 61 (.int .i64 v) (.int .i64 v)).run Try.prog w = .ok (.slice (some ⟨w.heap.size, 0, none⟩) n n) (w.alloc (.cells Z 64))) ∧
    Hid (∀ (w : World) (g : Nat), w.heap[g]? = some (.cells Z 64 (0, 0)) → VB w g (scells (List.replicate n SM.zero))) := by
  subst hv
  have hi8 : (Try.prog.info? 64).map (fun i => (i.zero, i.size, i.bytes)) = some (some (.agg #[.int .i64 0, .int .i64 0, .bool false]), 3, 24) := by kernel_rfl
  obtain ⟨i0, hi, hz, hs, hb⟩ := info_parts hi8
  refine ⟨madeCells (Value.agg #[.int .i64 0, .int .i64 0, .bool false]).cells (n * 3), fun w => ?_, ?_⟩
  · have := run_makeSlice (P := Try.prog) w 61 64 i0 _ Try.underlying61 hi hz .i64 .i64 n n (by omega) (Int.le_refl _) (by rw [hs]; simp; omega) (by rw [hb]; omega) (by omega)
    rw [hs, Int.toNat_natCast] at this
    exact this
  · unfold Hid
    intro w g hg
    have h0 := VB.box hg
    have e : (madeCells (Value.agg #[.int .i64 0, .int .i64 0, .bool false]).cells (n * 3)).toList = scells (List.replicate n SM.zero) := by
      apply List.ext_getElem?
      intro i
      by_cases hi : i < n * 3
      · rw [scells_zero n i hi, Array.getElem?_toList]
        unfold madeCells
        rw [Array.getElem?_map, Array.getElem?_eq_getElem (by simpa using hi)]
        have hr : i % 3 < 3 := Nat.mod_lt _ (by omega)
        simp only [Option.map_some, Array.getElem_range]
        show some ((#[Value.int .i64 0, .int .i64 0, .bool false] : Array Value)[i % 3]!) = _
        generalize i % 3 = r at *
        match r, hr with
        | 0, _ => rfl
        | 1, _ => rfl
        | 2, _ => rfl
      · rw [List.getElem?_eq_none (by rw [Array.length_toList, size_madeCells]; omega), List.getElem?_eq_none (by rw [scells_len]; simp; omega)]
    rw [e] at h0
    exact h0
/-- What a store into a row leaves. -/
structure StoredE (w : World) (b : Nat) (vs : List Value) (w' : World) : Prop where
  v : VB w' b vs
  ab : ∀ W, Ab W w → W.heap.size ≤ b → Ab W w'
  sz : w'.heap.size = w.heap.size
  blk : ∀ g, g ≠ b → w'.heap[g]? = w.heap[g]?
theorem list_stE {ops : Array Oper} {rest : List Oper} {o : Oper} {a : Act} {w : World} {b : Nat} {Q : Exit → Act → World → Prop} (ss : List SM) (i : Nat) (s : SM) (hgd : o.guard = none) (x y : Operand) (ho : o.op = .store 64 x y) (hx : a.eval x = .pointer (some ⟨b, i * 3, none⟩)) (hy : a.eval y = .agg s.cells.toArray) (hv : VB w b (scells ss)) (hi : i < ss.length)
    (h : ∀ w', StoredE w b (scells (ss.set i s)) w' → wpList Try.prog ops Q rest (a.put o.dst undef) w') : wpList Try.prog ops Q (o :: rest) a w := by
  have hl := scells_len ss
  refine wpList_plain hgd fun _ hK => wp_store_mid _ x y ho b (i * 3) s.cells.toArray hx hy ?_ (by rw [infoS]; rfl) (by simpa using (show s.cells.all (·.oneCell') = true from rfl)) (hK _ _ (h _ ?_))
  · intro j hj
    have hj' : j < 3 := hj
    exact ⟨by rw [hv.q (i * 3 + j) ((scells ss)[i * 3 + j]'(by omega)) (by simp)]; rfl, hv.g _⟩
  · show StoredE w b _ (w.setCells b (i * 3) s.cells)
    rw [wset_cells]
    have hv1 := ((hv.set (i * 3) (by omega) (.int .i64 s.c)).set (i * 3 + 1) (by simp; omega) (.int .i64 (s.k : Int))).set (i * 3 + 1 + 1) (by simp; omega) (.bool s.cp)
    rw [scells_set ss i hi s] at hv1
    exact ⟨hv1, fun W hW hb => Ab.setN hW hb s.cells (i * 3), setN_size b s.cells w (i * 3), fun g hg => setN_block s.cells w (i * 3) g hg⟩
end Go.Proofs.Ytjgijpfknhfnjaa
