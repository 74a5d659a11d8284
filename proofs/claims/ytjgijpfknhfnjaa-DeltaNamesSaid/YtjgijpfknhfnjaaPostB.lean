/- Slices of bytes cut and appended to, in this seat's numbers. Own work. -/
import Derived.Test.YtjgijpfknhfnjaaProg
import Derived.Test.YtjgijpfknhfnjaaMem
namespace Go.Proofs.Ytjgijpfknhfnjaa
open Go.RowKit

theorem infoU8 : (Try.prog.info? 5).map (fun i => (i.zero, i.size, i.bytes)) = some (some (.int .u8 0), 1, 1) := by kernel_rfl

/-- s[k:] of bytes, its address under a name. -/
theorem run_cut (k : Nat) (kd : IntKind) (a : Option Addr) (len cap : Nat) (w : World) (h : k ≤ len) :
    (Instr.slice 22 (.slice a len cap) (some (.int kd (k : Int))) none none).run Try.prog w = .ok (.slice (cutA a cap k) (len - k) (cap - k)) w := by
  have hu : Try.prog.underlying 22 = some (.slice (Try.prog.elem 22)) := by kernel_rfl
  obtain ⟨i0, hi0, _, hz1, _⟩ := info_parts infoU8
  have he : Try.prog.elem 22 = 5 := by kernel_rfl
  rw [run_slice_l w 22 a len cap hu kd (k : Int) (by omega) (by omega), he]
  simp only [sizeOf, typeInfo, sliced, Int.toNat_natCast, cutA, Sem.run_bind, Sem.run_pure]
  simp [hi0, hz1]
/-- s[k:h] of bytes, its address under a name. -/
theorem run_cuts (k h : Nat) (kd kd' : IntKind) (a : Option Addr) (len cap : Nat) (w : World) (h1 : k ≤ h) (h2 : h ≤ cap) :
    (Instr.slice 22 (.slice a len cap) (some (.int kd (k : Int))) (some (.int kd' (h : Int))) none).run Try.prog w = .ok (.slice (cutA a cap k) (h - k) (cap - k)) w := by
  have hu : Try.prog.underlying 22 = some (.slice (Try.prog.elem 22)) := by kernel_rfl
  obtain ⟨i0, hi0, _, hz1, _⟩ := info_parts infoU8
  have he : Try.prog.elem 22 = 5 := by kernel_rfl
  rw [run_slice_lh w 22 a len cap hu kd kd' (k : Int) (h : Int) (by omega) (by omega) (by omega), he]
  simp only [sizeOf, typeInfo, sliced, Int.toNat_natCast, cutA, Sem.run_bind, Sem.run_pure]
  simp [hi0, hz1]

section
variable {lo : Nat} {w : World} {A : Option Addr} {c : Nat} {l : List UInt8} {ops : Array Oper} {rest : List Oper} {o : Oper} {a : Act} {K : Act → World → Prop} {Q : Exit → Act → World → Prop} {E : Prop}
  {B : Option Addr} {n d lb g : Nat} {m : List UInt8}
theorem stepApp (hgd : o.guard = none) (s x : Operand) (ho : o.op = .call { callee := .builtin .append, args := #[s, x], argTypes := #[22, 22] })
    (hs : a.eval s = .slice A l.length c) (hx : a.eval x = .slice B n d) (hn : m.length = n) (h : OR 5 lo w A c l) (hlo : lo ≤ w.heap.size) (hr : RB w lb B m) (hd : m.length ≤ d) (hlen : l.length + m.length ≤ 70368744177664)
    (hk : ∀ A' c' w' L, Hid (L = l ++ m) → OR 5 lo w' A' c' L → w.grownBy w' (A.map (·.block)) → (∀ W : World, Ab W w → W.heap.size ≤ lo → Ab W w') → K (a.put o.dst (.slice A' L.length c')) w') :
    if Region.wanted o (yielded ops a.tmps) = true then Oper.wp Try.prog o a w K Q else E := by
  obtain ⟨i0, hi0, hz0, hz1, hz2⟩ := info_parts infoU8
  exact step_append_bytes hgd s x _ ho i0 _ Try.underlying22 hi0 hz0 hz1 hz2 rfl hs hx hn h hlo hr hd hlen hk
theorem listApp (hgd : o.guard = none) (s x : Operand) (ho : o.op = .call { callee := .builtin .append, args := #[s, x], argTypes := #[22, 22] })
    (hs : a.eval s = .slice A l.length c) (hx : a.eval x = .slice B n d) (hn : m.length = n) (h : OR 5 lo w A c l) (hlo : lo ≤ w.heap.size) (hr : RB w lb B m) (hd : m.length ≤ d) (hlen : l.length + m.length ≤ 70368744177664)
    (hk : ∀ A' c' w' L, Hid (L = l ++ m) → OR 5 lo w' A' c' L → w.grownBy w' (A.map (·.block)) → (∀ W : World, Ab W w → W.heap.size ≤ lo → Ab W w') → wpList Try.prog ops Q rest (a.put o.dst (.slice A' L.length c')) w') :
    wpList Try.prog ops Q (o :: rest) a w := by
  obtain ⟨i0, hi0, hz0, hz1, hz2⟩ := info_parts infoU8
  exact wpList_append_bytes hgd s x _ ho i0 _ Try.underlying22 hi0 hz0 hz1 hz2 rfl hs hx hn h hlo hr hd hlen hk
theorem stepLit (hgd : o.guard = none) (s x : Operand) (ho : o.op = .call { callee := .builtin .append, args := #[s, x], argTypes := #[22, 22] })
    (hs : a.eval s = .slice (some ⟨g, 0, none⟩) 0 0) (hx : a.eval x = .slice B n d) (hn : m.length = n) (hg : w.heap[g]? = some (.cells #[] 5 (0, 0))) (hr : RB w lb B m) (hd : m.length ≤ d) (hlen : m.length ≤ 70368744177664)
    (hk : ∀ A' c' w' L, Hid (L = m) → Ab w w' → (∀ lo : Nat, lo ≤ g → lo ≤ w.heap.size → OR 5 lo w' A' c' L) → K (a.put o.dst (.slice A' L.length c')) w') :
    if Region.wanted o (yielded ops a.tmps) = true then Oper.wp Try.prog o a w K Q else E := by
  obtain ⟨i0, hi0, hz0, hz1, hz2⟩ := info_parts infoU8
  exact step_append_lit hgd s x _ ho i0 _ Try.underlying22 hi0 hz0 hz1 hz2 rfl hs hx hn hg hr hd hlen hk
theorem listLit (hgd : o.guard = none) (s x : Operand) (ho : o.op = .call { callee := .builtin .append, args := #[s, x], argTypes := #[22, 22] })
    (hs : a.eval s = .slice (some ⟨g, 0, none⟩) 0 0) (hx : a.eval x = .slice B n d) (hn : m.length = n) (hg : w.heap[g]? = some (.cells #[] 5 (0, 0))) (hr : RB w lb B m) (hd : m.length ≤ d) (hlen : m.length ≤ 70368744177664)
    (hk : ∀ A' c' w' L, Hid (L = m) → Ab w w' → (∀ lo : Nat, lo ≤ g → lo ≤ w.heap.size → OR 5 lo w' A' c' L) → wpList Try.prog ops Q rest (a.put o.dst (.slice A' L.length c')) w') :
    wpList Try.prog ops Q (o :: rest) a w := by
  obtain ⟨i0, hi0, hz0, hz1, hz2⟩ := info_parts infoU8
  exact wpList_append_lit hgd s x _ ho i0 _ Try.underlying22 hi0 hz0 hz1 hz2 rfl hs hx hn hg hr hd hlen hk
end

end Go.Proofs.Ytjgijpfknhfnjaa
