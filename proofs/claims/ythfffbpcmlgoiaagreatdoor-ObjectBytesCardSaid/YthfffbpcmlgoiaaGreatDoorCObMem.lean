/- Names, entries, commits and objects as they lie in memory. Own work. -/
import Derived.Test.YthfffbpcmlgoiaaGreatDoorCObStr
import Derived.Test.YthfffbpcmlgoiaaGreatDoorCKA
set_option linter.unusedVariables false
set_option linter.unusedSimpArgs false
namespace Go.Proofs.YthfffbpcmlgoiaaGreatDoor
open Go.RowKit

theorem eqItems_bytes (n : Nat) (e : TypeId) (he : ∀ (a b : UInt8) (w : World), (Op.equalIn n e (.int .u8 (a.toNat : Int)) (.int .u8 (b.toNat : Int))).run Tryz.prog w = .ok (decide (a = b)) w) (X Y : Array Value) (l m : List UInt8) (hlm : l.length = m.length) (w : World)
    (hX : ∀ i (h : i < l.length) (w : World), (part e X (i * 1)).run Tryz.prog w = .ok (cb l[i]) w) (hY : ∀ i (h : i < m.length) (w : World), (part e Y (i * 1)).run Tryz.prog w = .ok (cb m[i]) w) :
    ∀ (k j : Nat), k + j = l.length → (Op.eqItems n e 1 X Y ((List.range' k j))).run Tryz.prog w = .ok (l.drop k == m.drop k) w
  | k, 0, hk => by
    rw [List.drop_of_length_le (by omega), List.drop_of_length_le (by omega)]
    simp [Op.eqItems]
  | k, j + 1, hk => by
    have h1 : k < l.length := by omega
    have h2 : k < m.length := by omega
    have ih := eqItems_bytes n e he X Y l m hlm w hX hY (k + 1) j (by omega)
    have hd : (l.drop k == m.drop k) = (decide (l[k] = m[k]) && (l.drop (k + 1) == m.drop (k + 1))) := by
      rw [List.drop_eq_getElem_cons h1, List.drop_eq_getElem_cons h2]
      rfl
    rw [hd]
    simp only [List.range'_succ, Op.eqItems, Sem.run_bind, hX k h1, hY k h2, Result.andThen_ok, cb, he]
    by_cases h : l[k] = m[k]
    · simp only [h, decide_true, Bool.not_true, Bool.false_eq_true, if_false, Bool.true_and]
      exact ih
    · simp [h]
theorem part_in (e : TypeId) (i0 : TypeInfo) (hi : Tryz.prog.info? e = some i0) (hz : i0.size = 1) (ha : ∀ w, (isAgg e).run Tryz.prog w = .ok false w) (xs : List Value) (j : Nat) (kd : IntKind) (a : Int) (h : xs[j]? = some (.int kd a)) (w : World) : (part e xs.toArray (j * 1)).run Tryz.prog w = .ok (.int kd a) w := by
  simp [part, sizeOf, typeInfo, hi, hz, h, ha]
/-- The cells of a name. -/
def idc (l : List UInt8) : List Value := l.map cb
theorem idc_len {l : List UInt8} (h : l.length = 32) : (idc l).length = 32 := by unfold idc; simpa using h
theorem idc_one (l : List UInt8) : (idc l).all (·.oneCell') = true := by
  unfold idc; rw [List.all_map]; exact List.all_eq_true.2 fun x _ => rfl
theorem idc_at {l : List UInt8} {i : Nat} (h : i < l.length) : (idc l)[i]? = some (cb l[i]) := by unfold idc; simp [h]
-- Two names compared.
set_option maxRecDepth 100000 in
theorem run_eqId (n : Nat) (l m : List UInt8) (hl : l.length = 32) (hm : m.length = 32) (w : World) : (Op.equalIn (n + 2) 27 (.agg (idc l).toArray) (.agg (idc m).toArray)).run Tryz.prog w = .ok (l == m) w := by
  obtain ⟨i0, hi, hz⟩ : ∃ i, Tryz.prog.info? 5 = some i ∧ i.size = 1 := by
    have : (Tryz.prog.info? 5).map (fun i => i.size) = some 1 := by kernel_rfl
    cases h : Tryz.prog.info? 5 with
    | none => rw [h] at this; simp at this
    | some i => rw [h] at this; exact ⟨i, rfl, by simpa using this⟩
  have hp : ∀ (xs : List UInt8) (i : Nat) (h : i < xs.length) (w : World), (part 5 (idc xs).toArray (i * 1)).run Tryz.prog w = .ok (cb xs[i]) w := fun xs i h w => by
    exact part_in _ i0 hi hz (fun w => by kernel_rfl) (idc xs) i .u8 _ (idc_at h) w
  rw [run_equalIn_array w (n + 1) _ _ Tryz.underlying27 hi]
  have hc : Tryz.prog.cellsOf 5 = 1 := by kernel_rfl
  rw [hc]
  have := eqItems_bytes (n + 1) 5 (fun a b w => by
    rw [run_equalIn_int w n _ .u8 .u8 _ _ Tryz.underlying5]
    congr 1
    rw [Bool.eq_iff_iff]
    simp [← UInt8.toNat_inj]
    omega) (idc l).toArray (idc m).toArray l m (by omega) w (hp l) (hp m) 0 32 (by omega)
  rw [List.drop_zero, List.drop_zero] at this
  rw [← this]
  rfl
/-- An entry of a tree, a commit, an object. -/
structure EM where
  p : ByteArray
  b : List UInt8
def EM.cells (e : EM) : List Value := .string e.p :: idc e.b
structure CM where
  t : List UInt8
  A : Option Addr
  ps : List (List UInt8)
  c : Nat
  note : ByteArray
  tick : Int
def CM.cells (c : CM) : List Value := idc c.t ++ [.slice c.A c.ps.length c.c, .string c.note, .int .i64 c.tick]
structure OM where
  k : Nat
  A : Option Addr
  t : List UInt8
  c : Nat
  E : Option Addr
  es : List EM
  d : Nat
  m : CM
def OM.cells (o : OM) : List Value := .int .u8 (o.k : Int) :: .slice o.A o.t.length o.c :: .slice o.E o.es.length o.d :: o.m.cells
/-- Rows of structs in memory: sz cells each. -/
def Rw (w : World) (sz : Nat) (A : Option Addr) (css : List (List Value)) : Prop := 0 < css.length → ∃ g o, A = some ⟨g, o, none⟩ ∧ ∀ i (h : i < css.length), w.rangeAt g (o + i * sz) css[i]
theorem Rw.ab {w w' : World} {sz : Nat} {A : Option Addr} {css : List (List Value)} (h : Rw w sz A css) (k : Ab w w') : Rw w' sz A css := fun hl => by
  obtain ⟨g, o, h1, h2⟩ := h hl
  exact ⟨g, o, h1, fun i hi j v hv => k.at (h2 i hi j v hv)⟩
theorem Rw.nil {w : World} {sz : Nat} {A : Option Addr} : Rw w sz A [] := fun h => absurd h (by simp)
/-- The commit c lies in w. -/
structure CL (w : World) (c : CM) : Prop where
  t : c.t.length = 32
  r : Rw w 32 c.A (c.ps.map idc)
  l : ∀ p ∈ c.ps, p.length = 32
  n : c.ps.length ≤ c.c
  n' : c.ps.length ≤ 9223372036854775807
  s : c.note.size ≤ 9223372036854775807
  k0 : -9223372036854775808 ≤ c.tick
  k1 : c.tick ≤ 9223372036854775807
theorem CL.ab {w w' : World} {c : CM} (h : CL w c) (k : Ab w w') : CL w' c := ⟨h.t, h.r.ab k, h.l, h.n, h.n', h.s, h.k0, h.k1⟩
/-- The object o lies in w. -/
structure OL (w : World) (o : OM) : Prop where
  k : o.k < 256
  b : RB w 0 o.A o.t
  c : o.t.length ≤ o.c
  c' : o.t.length ≤ 9223372036854775807
  r : Rw w 33 o.E (o.es.map EM.cells)
  l : ∀ e ∈ o.es, e.b.length = 32
  s : ∀ e ∈ o.es, e.p.size ≤ 9223372036854775807
  n : o.es.length ≤ o.d
  n' : o.es.length ≤ 9223372036854775807
  m : CL w o.m
theorem OL.ab {w w' : World} {o : OM} (h : OL w o) (k : Ab w w') : OL w' o := ⟨h.k, h.b.ab k, h.c, h.c', h.r.ab k, h.l, h.s, h.n, h.n', h.m.ab k⟩
theorem EM.len {e : EM} (h : e.b.length = 32) : e.cells.length = 33 := by unfold EM.cells; simp [idc_len h]
theorem EM.one (e : EM) : e.cells.all (·.oneCell') = true := by unfold EM.cells; rw [List.all_cons, idc_one]; rfl
theorem CM.len {c : CM} (h : c.t.length = 32) : c.cells.length = 35 := by unfold CM.cells; simp [idc_len h]
theorem CM.one (c : CM) : c.cells.all (·.oneCell') = true := by unfold CM.cells; rw [List.all_append, idc_one]; rfl
theorem OM.len {o : OM} (h : o.m.t.length = 32) : o.cells.length = 38 := by unfold OM.cells; simp [CM.len h]
theorem OM.one (o : OM) : o.cells.all (·.oneCell') = true := by unfold OM.cells; rw [List.all_cons, List.all_cons, List.all_cons, CM.one]; rfl
/-- A part of a variable, or an element of a row, loaded as a whole: also where a guard stands that lets it. -/
theorem list_ldM {ops : Array Oper} {rest : List Oper} {o : Oper} {a : Act} {w : World} {b : Nat} {Q : Exit → Act → World → Prop} (T : TypeId) {n : Nat} {d : TypeDesc} (k : Nat) (cs : List Value) (hR : w.rangeAt b k cs) (hT : (Tryz.prog.info? T).map (·.size) = some n) (hu : Tryz.prog.underlying T = some d) (hd : d.isRow = true) (hw : Region.wanted o (yielded ops a.tmps) = true) (x : Operand) (ho : o.op = .load T x) (hx : a.eval x = .pointer (some ⟨b, k, none⟩)) (hl : cs.length = n)
    (h : wpList Tryz.prog ops Q rest (a.put o.dst (.agg cs.toArray)) w) : wpList Tryz.prog ops Q (o :: rest) a w :=
  wpList_step fun K hK => by
    rw [if_pos hw]
    exact wp_load_mid _ x ho b k hx cs _ hR hu hd (by rw [hT, hl]) (hK _ _ h)
/-- A guarded comparison that comes. -/
theorem list_eqB {ops : Array Oper} {rest : List Oper} {o : Oper} {a : Act} {w : World} {Q : Exit → Act → World → Prop} (T T2 : TypeId) (x y : Operand) (us vs : Array Value) (b : Bool) (hw : Region.wanted o (yielded ops a.tmps) = true) (ho : o.op = .binOp .eql T x y T2)
    (hx : a.eval x = .agg us) (hy : a.eval y = .agg vs) (hG : Tryz.prog.eqGuardType Tryz.prog.depth T = false) (hE : (Op.equalIn 10000 T (.agg us) (.agg vs)).run Tryz.prog w = .ok b w)
    (h : wpList Tryz.prog ops Q rest (a.put o.dst (.bool b)) w) : wpList Tryz.prog ops Q (o :: rest) a w :=
  wpList_step fun K hK => by
    rw [if_pos hw]
    unfold Oper.wp
    have e : (execOp a.eval o).run Tryz.prog w = .ok (.value (.bool b)) w := by
      unfold execOp
      simp only [ho, hx, hy]
      have e1 : (eqGuard .eql T x y (.agg us) (.agg vs)).run Tryz.prog w = .ok () w := by
        have e0 : Sem.run Tryz.prog (Sem.program Sem.pure) w = .ok Tryz.prog w := rfl
        simp [eqGuard, go_sem, program, e0, hG]
      have e2 : (Op.equalIn Op.maxDepth T (.agg us) (.agg vs)).run Tryz.prog w = .ok b w := hE
      simp [go_sem, binOp, Op.equal, e1, e2]
    rw [e]
    exact hK _ _ h
end Go.Proofs.YthfffbpcmlgoiaaGreatDoor
