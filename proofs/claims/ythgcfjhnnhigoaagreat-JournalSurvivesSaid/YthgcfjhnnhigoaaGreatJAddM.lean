/- Rows of operations that stay in their range: plain mathematics. Own work. -/
import Derived.Test.YthgcfjhnnhigoaaGreatJRoom
set_option linter.unusedVariables false
set_option linter.ambiguousOpen false
namespace Go.Proofs.YthgcfjhnnhigoaaGreat
namespace Jour
open Frame (Rec Foll IsScan enc)

def In (B : Int) (c : List Int) : Prop := ∀ v ∈ c, -B ≤ v ∧ v ≤ B
theorem in_bump {B : Int} {c : List Int} {m : Move} (hc : c.length = 8) (h : In B c) (hm : Valid m) : In (B + 1000000) (bump c m) := by
  intro v hv
  obtain ⟨h1, h2, h3, h4⟩ := hm
  unfold bump at hv
  rcases List.mem_or_eq_of_mem_set hv with hv | rfl
  · have := h v hv; omega
  · have hk : m.cell.toNat < c.length := by omega
    have := h c[m.cell.toNat] (List.getElem_mem hk)
    have e : c.getD m.cell.toNat 0 = c[m.cell.toNat] := by simp [List.getD_eq_getElem?_getD, hk]
    omega
theorem In.state {B : Int} {c : List Int} (h : In B c) (hB : B ≤ 1000000000) : State c := fun v hv => by have := h v hv; omega
theorem bumps_length (l : List Move) : ∀ c : List Int, (l.foldl bump c).length = c.length := by
  induction l with
  | nil => intro c; rfl
  | cons m l ih => intro c; rw [List.foldl_cons, ih, bump_length]
theorem go_in : ∀ (l : List Move) (B : Int) (c : List Int), c.length = 8 → (∀ m ∈ l, Valid m) → In B c → B + 1000000 * (l.length : Int) ≤ 1000000000 → go c l = (l.foldl bump c, 0) ∧ In (B + 1000000 * (l.length : Int)) (l.foldl bump c) := by
  intro l
  induction l with
  | nil => intro B c _ _ h _; exact ⟨rfl, by simpa using h⟩
  | cons m l ih =>
    intro B c hc hv h hB
    rw [List.length_cons] at hB ⊢
    have h1 := in_bump hc h (hv m (by simp))
    have h2 := ih (B + 1000000) (bump c m) ((bump_length c m).trans hc) (fun m hm => hv m (by simp [hm])) h1 (by omega)
    refine ⟨?_, ?_⟩
    · rw [go_cons (hv m (by simp)) (h1.state (by omega))]; exact h2.1
    · have e : B + 1000000 + 1000000 * (l.length : Int) = B + 1000000 * ((l.length + 1 : Nat) : Int) := by omega
      rw [← e]; exact h2.2
theorem apply_in {l : List Move} {B : Int} {c : List Int} (hc : c.length = 8) (hv : ∀ m ∈ l, Valid m) (h : In B c) (hB : B + 1000000 * (l.length : Int) ≤ 1000000000) : apply c l = (l.foldl bump c, 0) := by
  unfold apply
  rw [if_neg (by have := h.state (by omega); simpa using this)]
  exact (go_in l B c hc hv h hB).1
theorem room.in_ {x : JX} {k : Nat} (h : room x k) (hc : x.c.length = 8) : In (1000000000 - 1000000 * (k : Int)) x.c := by
  intro v hv
  obtain ⟨j, hj, rfl⟩ := List.getElem_of_mem hv
  have := h.c j (by omega)
  have e : cx x.c j = x.c[j] := by simp [cx, List.getD_eq_getElem?_getD, hj]
  omega
/-- A row of valid operations, done one after the other from a journal with room. -/
structure Row (x : JX) (ms : List Move) (k : Nat) (y : JX) (rs : List Rec) (n : Int) (c : List Int) : Prop where
  good : GoodX y rs n c
  next : y.l.next = x.l.next + k
  cells : y.c = (ms.take k).foldl bump x.c
  cap : y.l.dev.cap = x.l.dev.cap
  size : (y.l.dev.s.length : Int) + y.l.dev.t.length = (x.l.dev.s.length : Int) + x.l.dev.t.length + 21 * k
theorem Row.start {x : JX} {ms : List Move} {rs : List Rec} {n : Int} {c : List Int} (h : GoodX x rs n c) : Row x ms 0 x rs n c :=
  ⟨h, by simp, rfl, rfl, by simp⟩
theorem take_bump (ms : List Move) (k : Nat) (hk : k < ms.length) (c : List Int) : (ms.take (k + 1)).foldl bump c = bump ((ms.take k).foldl bump c) ms[k] := by
  rw [List.take_succ_eq_append_getElem hk, List.foldl_append]
  rfl
theorem Row.step {x y : JX} {ms : List Move} {k : Nat} {rs : List Rec} {n : Int} {c : List Int} (hr : room x 21) (hx : x.c.length = 8) (hl : ms.length ≤ 20) (hv : ∀ m ∈ ms, Valid m) (h : Row x ms k y rs n c) (hk : k < ms.length) :
    doM y ms[k] (some rs) = (stDo y ms[k], y.l.next, 0) ∧ Row x ms (k + 1) (stDo y ms[k]) (rs ++ [⟨y.l.next, written ms[k]⟩]) n c := by
  have hm := hv ms[k] (List.getElem_mem hk)
  have hin := (go_in (ms.take (k + 1)) _ x.c hx (fun m hm => hv m (List.mem_of_mem_take hm)) (hr.in_ hx) (by rw [List.length_take]; omega)).2
  rw [take_bump ms k hk, ← h.cells] at hin
  have hn := hr.n
  have hL := hr.l
  have h1 := h.next
  have h2 := h.cap
  have h3 := h.size
  have hs := do_step h.good hm (hin.state (by rw [List.length_take]; omega)) (by omega) (by omega)
  refine ⟨hs.1, hs.2, ?_, ?_, h2, ?_⟩
  · show y.l.next + 1 = _; omega
  · show bump y.c ms[k] = _; rw [take_bump ms k hk, h.cells]
  · show (y.l.dev.s.length : Int) + ((y.l.dev.t ++ enc ⟨y.l.next, written ms[k]⟩).length : Nat) = _
    rw [List.length_append, enc21]
    omega
end Jour
end Go.Proofs.YthgcfjhnnhigoaaGreat
