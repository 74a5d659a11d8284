/- The ends that the contracts of layer 1 state. Own work. -/
import Derived.Test.YtojhdecgipjkeaaProg
import Derived.Test.YtojhdecgipjkeaaMem
import Derived.Test.YtojhdecgipjkeaaDisk
namespace Go.Proofs.Ytojhdecgipjkeaa
open Go.RowKit Disk

theorem infoU8 : (Try.prog.info? 5).map (fun i => (i.zero, i.size, i.bytes)) = some (some (.int .u8 0), 1, 1) := by kernel_rfl

/-- s[k:] of bytes, its address under a name. -/
theorem run_cut (k : Nat) (kd : IntKind) (a : Option Addr) (len cap : Nat) (w : World) (h : k ≤ len) :
    (Instr.slice 24 (.slice a len cap) (some (.int kd (k : Int))) none none).run Try.prog w = .ok (.slice (cutA a cap k) (len - k) (cap - k)) w := by
  have hu : Try.prog.underlying 24 = some (.slice (Try.prog.elem 24)) := by kernel_rfl
  obtain ⟨i0, hi0, _, hz1, _⟩ := info_parts infoU8
  have he : Try.prog.elem 24 = 5 := by kernel_rfl
  rw [run_slice_l w 24 a len cap hu kd (k : Int) (by omega) (by omega), he]
  simp only [sizeOf, typeInfo, sliced, Int.toNat_natCast, cutA, Sem.run_bind, Sem.run_pure]
  simp [hi0, hz1]
/-- s[k:h] of bytes, its address under a name. -/
theorem run_cuts (k h : Nat) (kd kd' : IntKind) (a : Option Addr) (len cap : Nat) (w : World) (h1 : k ≤ h) (h2 : h ≤ cap) :
    (Instr.slice 24 (.slice a len cap) (some (.int kd (k : Int))) (some (.int kd' (h : Int))) none).run Try.prog w = .ok (.slice (cutA a cap k) (h - k) (cap - k)) w := by
  have hu : Try.prog.underlying 24 = some (.slice (Try.prog.elem 24)) := by kernel_rfl
  obtain ⟨i0, hi0, _, hz1, _⟩ := info_parts infoU8
  have he : Try.prog.elem 24 = 5 := by kernel_rfl
  rw [run_slice_lh w 24 a len cap hu kd kd' (k : Int) (h : Int) (by omega) (by omega) (by omega), he]
  simp only [sizeOf, typeInfo, sliced, Int.toNat_natCast, cutA, Sem.run_bind, Sem.run_pure]
  simp [hi0, hz1]

section
variable {lo : Nat} {w : World} {A : Option Addr} {c : Nat} {l : List UInt8} {ops : Array Oper} {rest : List Oper} {o : Oper} {a : Act} {K : Act → World → Prop} {Q : Exit → Act → World → Prop} {E : Prop}
  {B : Option Addr} {n d lb g : Nat} {m : List UInt8}
theorem stepApp (hgd : o.guard = none) (s x : Operand) (ho : o.op = .call { callee := .builtin .append, args := #[s, x], argTypes := #[24, 24] })
    (hs : a.eval s = .slice A l.length c) (hx : a.eval x = .slice B n d) (hn : m.length = n) (h : OR 5 lo w A c l) (hlo : lo ≤ w.heap.size) (hr : RB w lb B m) (hd : m.length ≤ d) (hlen : l.length + m.length ≤ 70368744177664)
    (hk : ∀ A' c' w' L, Hid (L = l ++ m) → OR 5 lo w' A' c' L → w.grownBy w' (A.map (·.block)) → (∀ W : World, Ab W w → W.heap.size ≤ lo → Ab W w') → K (a.put o.dst (.slice A' L.length c')) w') :
    if Region.wanted o (yielded ops a.tmps) = true then Oper.wp Try.prog o a w K Q else E := by
  obtain ⟨i0, hi0, hz0, hz1, hz2⟩ := info_parts infoU8
  exact step_append_bytes hgd s x _ ho i0 _ Try.underlying24 hi0 hz0 hz1 hz2 rfl hs hx hn h hlo hr hd hlen hk
theorem listApp (hgd : o.guard = none) (s x : Operand) (ho : o.op = .call { callee := .builtin .append, args := #[s, x], argTypes := #[24, 24] })
    (hs : a.eval s = .slice A l.length c) (hx : a.eval x = .slice B n d) (hn : m.length = n) (h : OR 5 lo w A c l) (hlo : lo ≤ w.heap.size) (hr : RB w lb B m) (hd : m.length ≤ d) (hlen : l.length + m.length ≤ 70368744177664)
    (hk : ∀ A' c' w' L, Hid (L = l ++ m) → OR 5 lo w' A' c' L → w.grownBy w' (A.map (·.block)) → (∀ W : World, Ab W w → W.heap.size ≤ lo → Ab W w') → wpList Try.prog ops Q rest (a.put o.dst (.slice A' L.length c')) w') :
    wpList Try.prog ops Q (o :: rest) a w := by
  obtain ⟨i0, hi0, hz0, hz1, hz2⟩ := info_parts infoU8
  exact wpList_append_bytes hgd s x _ ho i0 _ Try.underlying24 hi0 hz0 hz1 hz2 rfl hs hx hn h hlo hr hd hlen hk
theorem stepLit (hgd : o.guard = none) (s x : Operand) (ho : o.op = .call { callee := .builtin .append, args := #[s, x], argTypes := #[24, 24] })
    (hs : a.eval s = .slice (some ⟨g, 0, none⟩) 0 0) (hx : a.eval x = .slice B n d) (hn : m.length = n) (hg : w.heap[g]? = some (.cells #[] 5 (0, 0))) (hr : RB w lb B m) (hd : m.length ≤ d) (hlen : m.length ≤ 70368744177664)
    (hk : ∀ A' c' w' L, Hid (L = m) → Ab w w' → (∀ lo : Nat, lo ≤ g → lo ≤ w.heap.size → OR 5 lo w' A' c' L) → K (a.put o.dst (.slice A' L.length c')) w') :
    if Region.wanted o (yielded ops a.tmps) = true then Oper.wp Try.prog o a w K Q else E := by
  obtain ⟨i0, hi0, hz0, hz1, hz2⟩ := info_parts infoU8
  exact step_append_lit hgd s x _ ho i0 _ Try.underlying24 hi0 hz0 hz1 hz2 rfl hs hx hn hg hr hd hlen hk
theorem listLit (hgd : o.guard = none) (s x : Operand) (ho : o.op = .call { callee := .builtin .append, args := #[s, x], argTypes := #[24, 24] })
    (hs : a.eval s = .slice (some ⟨g, 0, none⟩) 0 0) (hx : a.eval x = .slice B n d) (hn : m.length = n) (hg : w.heap[g]? = some (.cells #[] 5 (0, 0))) (hr : RB w lb B m) (hd : m.length ≤ d) (hlen : m.length ≤ 70368744177664)
    (hk : ∀ A' c' w' L, Hid (L = m) → Ab w w' → (∀ lo : Nat, lo ≤ g → lo ≤ w.heap.size → OR 5 lo w' A' c' L) → wpList Try.prog ops Q rest (a.put o.dst (.slice A' L.length c')) w') :
    wpList Try.prog ops Q (o :: rest) a w := by
  obtain ⟨i0, hi0, hz0, hz1, hz2⟩ := info_parts infoU8
  exact wpList_append_lit hgd s x _ ho i0 _ Try.underlying24 hi0 hz0 hz1 hz2 rfl hs hx hn hg hr hd hlen hk
end

/-- It returns the device m, in memory of its own. -/
def RetDev (w : World) (m : Dev) (e : Ending) (w' : World) : Prop :=
  ∃ (r : Dev) (D E : Option Addr) (cd ce : Nat), Hid (r = m) ∧ e = .returned (.agg #[.slice D r.s.length cd, .slice E r.t.length ce, .int .i64 r.cap, .bool r.down]) ∧ OR 5 w.heap.size w' D cd r.s ∧ OR 5 w.heap.size w' E ce r.t ∧ Ab w w'
/-- It returns the device and the error m. -/
def RetDevE (w : World) (m : Dev × Int) (e : Ending) (w' : World) : Prop :=
  ∃ (r : Dev) (er : Int) (D E : Option Addr) (cd ce : Nat), Hid ((r, er) = m) ∧ e = .returned (.tuple #[.agg #[.slice D r.s.length cd, .slice E r.t.length ce, .int .i64 r.cap, .bool r.down], .int .i64 er]) ∧ OR 5 w.heap.size w' D cd r.s ∧ OR 5 w.heap.size w' E ce r.t ∧ Ab w w'
/-- It returns a number. -/
def RetInt (w : World) (m : Int) (e : Ending) (w' : World) : Prop := ∃ r : Int, Hid (r = m) ∧ e = .returned (.int .i64 r) ∧ Ab w w'
def RetIntE (w : World) (m : Int × Int) (e : Ending) (w' : World) : Prop := ∃ r er : Int, Hid ((r, er) = m) ∧ e = .returned (.tuple #[.int .i64 r, .int .i64 er]) ∧ Ab w w'
/-- It returns bytes in memory of its own. -/
def RetB (w : World) (m : List UInt8) (e : Ending) (w' : World) : Prop :=
  ∃ (r : List UInt8) (D : Option Addr) (c : Nat), Hid (r = m) ∧ e = .returned (.slice D r.length c) ∧ OR 5 w.heap.size w' D c r ∧ Ab w w'
def RetBE (w : World) (m : List UInt8 × Int) (e : Ending) (w' : World) : Prop :=
  ∃ (r : List UInt8) (er : Int) (D : Option Addr) (c : Nat), Hid ((r, er) = m) ∧ e = .returned (.tuple #[.slice D r.length c, .int .i64 er]) ∧ RB w' w.heap.size D r ∧ r.length ≤ c ∧ Ab w w'
def RetBool (w : World) (m : Bool) (e : Ending) (w' : World) : Prop := e = .returned (.bool m) ∧ Ab w w'
theorem RetInt.mk {w w' : World} {m : Int} {v : Value} (h : v = .int .i64 m) (hb : Ab w w') : RetInt w m (.returned v) w' := ⟨m, rfl, by rw [h], hb⟩
theorem RetDevE.zero {w w' : World} {m : Dev × Int} {er : Int} (h : (Disk.zero, er) = m) (hb : Ab w w') :
    RetDevE w m (.returned (.tuple #[.agg #[.slice none 0 0, .slice none 0 0, .int .i64 0, .bool false], .int .i64 er])) w' :=
  ⟨Disk.zero, er, none, none, 0, 0, h, rfl, OR.none_, OR.none_, hb⟩
end Go.Proofs.Ytojhdecgipjkeaa
