/- A row of the call's own that is appended to: the new row's block. Own work. -/
import Derived.Test.YtjgijpfknhfnjaaProg
import Derived.Test.YtjgijpfknhfnjaaMem2
import Derived.Test.YtjgijpfknhfnjaaPostB
set_option linter.unusedVariables false
namespace Go.Proofs.Ytjgijpfknhfnjaa
open Go.RowKit

theorem grown_alloc {w w' : World} {o : Obj} {row : Option Nat} (h : (w.alloc o).grownBy w' row) : w.grownBy w' row :=
  ⟨h.os, h.tape, h.output, Nat.le_trans (by simp) h.size, fun k hk hne => (h.block k (by simp; omega) hne).trans (Below.heap_alloc w o k hk)⟩

/-- A row of the call's own: n elements of k cells each, which hold vs. -/
def OV (e : TypeId) (k lo : Nat) (w : World) (A : Option Addr) (n c : Nat) (vs : List Value) : Prop := w.ownsRow lo e k (.slice A n c) n vs
theorem OR.ov {e : TypeId} {lo : Nat} {w : World} {A : Option Addr} {c : Nat} {l : List UInt8} (h : OR e lo w A c l) : OV e 1 lo w A l.length c (l.map cb) := h
theorem OV.or {e : TypeId} {lo n : Nat} {w : World} {A : Option Addr} {c : Nat} {l : List UInt8} (h : OV e 1 lo w A n c (l.map cb)) (hn : l.length = n) : OR e lo w A c l := by
  subst hn; exact h

section
variable {P : Program} {e : TypeId} {k by_ lo : Nat} {w : World} {A : Option Addr} {n c : Nat} {vs : List Value}
theorem run_appV (t ty : TypeId) (i : TypeInfo) (z : Value) (ht : P.underlying t = some (.slice e)) (hi : P.info? e = some i) (hz : i.zero = some z)
    (hsize : i.size = k) (hby : i.bytes = by_) (hzs : z.cells.size = k) (hk : 0 < k) (h : OV e k lo w A n c vs) (hlo : lo ≤ w.heap.size) (bd : Addr) (m d : Nat) (ws : List Value) (hl : ws.length = m * k)
    (hn : ∀ j u, ws[j]? = some u → w.cell? (bd.add j) = some u) (h1 : ∀ u ∈ ws, u.oneCell' = true) (hm : 0 < m) (h63 : n + m ≤ maxLen) (hb : (n + m) * by_ ≤ 140737488355328) :
    ∃ g c' w', (Builtin.append_ #[t, t] ty #[.slice A n c, .slice (some bd) m d]).run P w = .ok (.slice (some ⟨g, 0, none⟩) (n + m) c') w' ∧ OV e k lo w' (some ⟨g, 0, none⟩) (n + m) c' (vs ++ ws) ∧
      w.grownBy w' (A.map (·.block)) ∧ (A.map (·.block) = some g ∨ g = w.heap.size) := by
  obtain ⟨v', w', hrun, h2, h3, _, h5⟩ := run_append_own_at (P := P) w lo t ty e i z k by_ ht hi hz hsize hby hzs hk _ _ _ h bd m d ws hl hn h1 h63 hb hlo
  have hrow : Value.ownBlock (.slice A n c) = A.map (·.block) := by cases A <;> rfl
  rw [hrow] at h3 h5
  rcases h2.2 with ⟨_, h0⟩ | ⟨g, cap, cur, rfl, r⟩
  · omega
  · refine ⟨g, cap, w', hrun, h2, h3, ?_⟩
    rcases h5 with h5 | h5
    · exact .inl h5.symm
    · exact .inr (Option.some.inj h5)
theorem wp_appV {o : Oper} {a : Act} {K : Act → World → Prop} {Q : Exit → Act → World → Prop} (s x : Operand) (t : TypeId)
    (ho : o.op = .call { callee := .builtin .append, args := #[s, x], argTypes := #[t, t] })
    (i : TypeInfo) (z : Value) (ht : P.underlying t = some (.slice e)) (hi : P.info? e = some i) (hz : i.zero = some z)
    (hsize : i.size = k) (hby : i.bytes = by_) (hzs : z.cells.size = k) (hk0 : 0 < k) (hs : a.eval s = .slice A n c)
    {bd : Addr} {m d : Nat} {ws : List Value} (hx : a.eval x = .slice (some bd) m d) (h : OV e k lo w A n c vs) (hlo : lo ≤ w.heap.size) (hl : ws.length = m * k)
    (hn : ∀ j u, ws[j]? = some u → w.cell? (bd.add j) = some u) (h1 : ∀ u ∈ ws, u.oneCell' = true) (hm : 0 < m) (h63 : n + m ≤ maxLen) (hb : (n + m) * by_ ≤ 140737488355328)
    (hK : ∀ g c' w', OV e k lo w' (some ⟨g, 0, none⟩) (n + m) c' (vs ++ ws) → w.grownBy w' (A.map (·.block)) → (A.map (·.block) = some g ∨ g = w.heap.size) → K (a.put o.dst (.slice (some ⟨g, 0, none⟩) (n + m) c')) w') : o.wp P a w K Q := by
  obtain ⟨g, c', w', hrun, h4, h5, h6⟩ := run_appV (P := P) t o.type i z ht hi hz hsize hby hzs hk0 h hlo bd m d ws hl hn h1 hm h63 hb
  unfold Oper.wp execOp
  simp only [ho, resolve, invoke, builtin, Sem.run_bind, Sem.run_pure, Result.andThen_ok, List.map_toArray, List.map_cons, List.map_nil, hs, hx, hrun]
  exact hK g c' w' h4 h5 h6
theorem wpList_appV {ops : Array Oper} {rest : List Oper} {o : Oper} {a : Act} {Q : Exit → Act → World → Prop} (hgd : o.guard = none) (s x : Operand) (t : TypeId)
    (ho : o.op = .call { callee := .builtin .append, args := #[s, x], argTypes := #[t, t] })
    (i : TypeInfo) (z : Value) (ht : P.underlying t = some (.slice e)) (hi : P.info? e = some i) (hz : i.zero = some z)
    (hsize : i.size = k) (hby : i.bytes = by_) (hzs : z.cells.size = k) (hk0 : 0 < k) (hs : a.eval s = .slice A n c)
    {bd : Addr} {m d : Nat} {ws : List Value} (hx : a.eval x = .slice (some bd) m d) (h : OV e k lo w A n c vs) (hlo : lo ≤ w.heap.size) (hl : ws.length = m * k)
    (hn : ∀ j u, ws[j]? = some u → w.cell? (bd.add j) = some u) (h1 : ∀ u ∈ ws, u.oneCell' = true) (hm : 0 < m) (h63 : n + m ≤ maxLen) (hb : (n + m) * by_ ≤ 140737488355328)
    (hK : ∀ g c' w', OV e k lo w' (some ⟨g, 0, none⟩) (n + m) c' (vs ++ ws) → w.grownBy w' (A.map (·.block)) → (A.map (·.block) = some g ∨ g = w.heap.size) → wpList P ops Q rest (a.put o.dst (.slice (some ⟨g, 0, none⟩) (n + m) c')) w') :
    wpList P ops Q (o :: rest) a w :=
  wpList_plain hgd fun _ hK' => wp_appV s x t ho i z ht hi hz hsize hby hzs hk0 hs hx h hlo hl hn h1 hm h63 hb fun g c' w' h4 h5 h6 => hK' _ _ (hK g c' w' h4 h5 h6)
end

/-- append(b, four bytes ..), the four in a new row. -/
theorem listApp4 {lo : Nat} {w : World} {A : Option Addr} {c : Nat} {l : List UInt8} {ops : Array Oper} {rest : List Oper} {o : Oper} {a : Act} {Q : Exit → Act → World → Prop} {g d : Nat} {m : List UInt8} {fr : Nat × Nat}
    (hgd : o.guard = none) (s x : Operand) (ho : o.op = .call { callee := .builtin .append, args := #[s, x], argTypes := #[22, 22] })
    (hs : a.eval s = .slice A l.length c) (hx : a.eval x = .slice (some ⟨g, 0, none⟩) m.length d) (h : OR 5 lo w A c l) (hlo : lo ≤ w.heap.size)
    (hg : w.heap[g]? = some (.cells (m.map cb).toArray 5 fr)) (hm : 0 < m.length) (hlen : l.length + m.length ≤ 70368744177664)
    (hK : ∀ g' c' w' L, Hid (L = l ++ m) → OR 5 lo w' (some ⟨g', 0, none⟩) c' L → w.grownBy w' (A.map (·.block)) → (A.map (·.block) = some g' ∨ g' = w.heap.size) →
      wpList Try.prog ops Q rest (a.put o.dst (.slice (some ⟨g', 0, none⟩) L.length c')) w') :
    wpList Try.prog ops Q (o :: rest) a w := by
  obtain ⟨i0, hi0, hz0, hz1, hz2⟩ := info_parts infoU8
  refine wpList_appV (ws := m.map cb) hgd s x _ ho i0 _ Try.underlying22 hi0 hz0 hz1 hz2 rfl (by omega) hs hx h.ov hlo (by simp) ?_ ?_ hm (by unfold maxLen; omega) (by omega) ?_
  · intro j u hu
    have e : (⟨g, 0, none⟩ : Addr).add j = ⟨g, j, none⟩ := by unfold Addr.add; split <;> simp_all
    rw [e]
    unfold World.cell?
    rw [hg]
    simpa using hu
  · intro u hu
    obtain ⟨b, _, rfl⟩ := List.mem_map.1 hu
    rfl
  · intro g' c' w' h4 h5 h6
    rw [← List.map_append] at h4
    have := hK g' c' w' (l ++ m) rfl (h4.or (by simp)) h5 h6
    rwa [List.length_append] at this
end Go.Proofs.Ytjgijpfknhfnjaa
