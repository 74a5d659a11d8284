/- A variable of slots written. Own work. -/
import Derived.Test.YtakgglpfgpkboaaSMem
set_option linter.unusedVariables false
namespace Go.Proofs.Ytakgglpfgpkboaa
open Go.RowKit
open Slots (Sl)

section
variable {w : World} {b lo : Nat} {m k : AM} {r q : Sl}
theorem SlB.set9 (h : SlB w b m r) : SlB (((((((((w.setCell ⟨b, 0, none⟩ (.slice k.A q.a.s.length k.ca)).setCell ⟨b, 1, none⟩ (.slice k.B q.a.t.length k.cb)).setCell ⟨b, 2, none⟩ (.int .i64 q.a.cap)).setCell ⟨b, 3, none⟩ (.bool q.a.down)).setCell ⟨b, 4, none⟩ (.slice k.C q.b.s.length k.cc)).setCell ⟨b, 5, none⟩ (.slice k.D q.b.t.length k.cd)).setCell ⟨b, 6, none⟩ (.int .i64 q.b.cap)).setCell ⟨b, 7, none⟩ (.bool q.b.down)).setCell ⟨b, 8, none⟩ (.int .i64 q.n)) b k q := by
  obtain ⟨vq0, vq1, vq2, vq3, vq4, vq5, vq6, vq7, vq8, vg0, vg1, vg2, vg3, vg4, vg5, vg6, vg7, vg8⟩ := h
  (try simp only [AM.nil, Slots.zero, Disk.zero, List.length_nil] at vq0 vq1 vq2 vq3 vq4 vq5 vq6 vq7 vq8)
  exact ⟨(by simp [go_sem, *]), (by simp [go_sem, *]), (by simp [go_sem, *]), (by simp [go_sem, *]), (by simp [go_sem, *]), (by simp [go_sem, *]), (by simp [go_sem, *]), (by simp [go_sem, *]), (by simp [go_sem, *]), (by simp [go_sem, *]), (by simp [go_sem, *]), (by simp [go_sem, *]), (by simp [go_sem, *]), (by simp [go_sem, *]), (by simp [go_sem, *]), (by simp [go_sem, *]), (by simp [go_sem, *]), (by simp [go_sem, *])⟩
/-- No byte lies in a variable of slots. -/
theorem SlB.noByte (h : SlB w b m r) {p : Addr} {x : UInt8} (hc : w.cell? p = some (cb x)) : p ≠ ⟨b, 0, none⟩ ∧ p ≠ ⟨b, 1, none⟩ ∧ p ≠ ⟨b, 2, none⟩ ∧ p ≠ ⟨b, 3, none⟩ ∧ p ≠ ⟨b, 4, none⟩ ∧ p ≠ ⟨b, 5, none⟩ ∧ p ≠ ⟨b, 6, none⟩ ∧ p ≠ ⟨b, 7, none⟩ ∧ p ≠ ⟨b, 8, none⟩ := by
  unfold cb at hc
  refine ⟨?_, ?_, ?_, ?_, ?_, ?_, ?_, ?_, ?_⟩ <;> rintro rfl
  · rw [h.q0] at hc; cases hc
  · rw [h.q1] at hc; cases hc
  · rw [h.q2] at hc; cases hc
  · rw [h.q3] at hc; cases hc
  · rw [h.q4] at hc; cases hc
  · rw [h.q5] at hc; cases hc
  · rw [h.q6] at hc; cases hc
  · rw [h.q7] at hc; cases hc
  · rw [h.q8] at hc; cases hc
theorem RB.set9 {A : Option Addr} {l : List UInt8} (hr : RB w lo A l) (h : SlB w b m r) (k : AM) (q : Sl) : RB (((((((((w.setCell ⟨b, 0, none⟩ (.slice k.A q.a.s.length k.ca)).setCell ⟨b, 1, none⟩ (.slice k.B q.a.t.length k.cb)).setCell ⟨b, 2, none⟩ (.int .i64 q.a.cap)).setCell ⟨b, 3, none⟩ (.bool q.a.down)).setCell ⟨b, 4, none⟩ (.slice k.C q.b.s.length k.cc)).setCell ⟨b, 5, none⟩ (.slice k.D q.b.t.length k.cd)).setCell ⟨b, 6, none⟩ (.int .i64 q.b.cap)).setCell ⟨b, 7, none⟩ (.bool q.b.down)).setCell ⟨b, 8, none⟩ (.int .i64 q.n)) lo A l := by
  intro hl
  obtain ⟨ad, h1, h2, h3⟩ := hr hl
  refine ⟨ad, h1, h2, fun i hi => ?_⟩
  have hc := h3 i hi
  obtain ⟨n0, n1, n2, n3, n4, n5, n6, n7, n8⟩ := h.noByte hc
  exact cell_set (cell_set (cell_set (cell_set (cell_set (cell_set (cell_set (cell_set (cell_set hc n0) n1) n2) n3) n4) n5) n6) n7) n8
theorem SlM.set9 {m' : AM} {r' : Sl} (hr : SlM w lo m' r') (h : SlB w b m r) (k : AM) (q : Sl) : SlM (((((((((w.setCell ⟨b, 0, none⟩ (.slice k.A q.a.s.length k.ca)).setCell ⟨b, 1, none⟩ (.slice k.B q.a.t.length k.cb)).setCell ⟨b, 2, none⟩ (.int .i64 q.a.cap)).setCell ⟨b, 3, none⟩ (.bool q.a.down)).setCell ⟨b, 4, none⟩ (.slice k.C q.b.s.length k.cc)).setCell ⟨b, 5, none⟩ (.slice k.D q.b.t.length k.cd)).setCell ⟨b, 6, none⟩ (.int .i64 q.b.cap)).setCell ⟨b, 7, none⟩ (.bool q.b.down)).setCell ⟨b, 8, none⟩ (.int .i64 q.n)) lo m' r' :=
  ⟨hr.a.set9 h k q, hr.b.set9 h k q, hr.c.set9 h k q, hr.d.set9 h k q, hr.la, hr.lb, hr.lc, hr.ld, hr.sa, hr.sb, hr.sc, hr.sd⟩
theorem SlB.set9_other {c : Nat} {m' : AM} {r' : Sl} (hr : SlB w c m' r') (hne : c ≠ b) (k : AM) (q : Sl) : SlB (((((((((w.setCell ⟨b, 0, none⟩ (.slice k.A q.a.s.length k.ca)).setCell ⟨b, 1, none⟩ (.slice k.B q.a.t.length k.cb)).setCell ⟨b, 2, none⟩ (.int .i64 q.a.cap)).setCell ⟨b, 3, none⟩ (.bool q.a.down)).setCell ⟨b, 4, none⟩ (.slice k.C q.b.s.length k.cc)).setCell ⟨b, 5, none⟩ (.slice k.D q.b.t.length k.cd)).setCell ⟨b, 6, none⟩ (.int .i64 q.b.cap)).setCell ⟨b, 7, none⟩ (.bool q.b.down)).setCell ⟨b, 8, none⟩ (.int .i64 q.n)) c m' r' := by
  obtain ⟨vq0, vq1, vq2, vq3, vq4, vq5, vq6, vq7, vq8, vg0, vg1, vg2, vg3, vg4, vg5, vg6, vg7, vg8⟩ := hr
  (try simp only [AM.nil, Slots.zero, Disk.zero, List.length_nil] at vq0 vq1 vq2 vq3 vq4 vq5 vq6 vq7 vq8)
  exact ⟨(by simp [go_sem, *]), (by simp [go_sem, *]), (by simp [go_sem, *]), (by simp [go_sem, *]), (by simp [go_sem, *]), (by simp [go_sem, *]), (by simp [go_sem, *]), (by simp [go_sem, *]), (by simp [go_sem, *]), (by simp [go_sem, *]), (by simp [go_sem, *]), (by simp [go_sem, *]), (by simp [go_sem, *]), (by simp [go_sem, *]), (by simp [go_sem, *]), (by simp [go_sem, *]), (by simp [go_sem, *]), (by simp [go_sem, *])⟩
theorem Ab.set9 {W : World} (h : Ab W w) (hb : W.heap.size ≤ b) (k : AM) (q : Sl) : Ab W (((((((((w.setCell ⟨b, 0, none⟩ (.slice k.A q.a.s.length k.ca)).setCell ⟨b, 1, none⟩ (.slice k.B q.a.t.length k.cb)).setCell ⟨b, 2, none⟩ (.int .i64 q.a.cap)).setCell ⟨b, 3, none⟩ (.bool q.a.down)).setCell ⟨b, 4, none⟩ (.slice k.C q.b.s.length k.cc)).setCell ⟨b, 5, none⟩ (.slice k.D q.b.t.length k.cd)).setCell ⟨b, 6, none⟩ (.int .i64 q.b.cap)).setCell ⟨b, 7, none⟩ (.bool q.b.down)).setCell ⟨b, 8, none⟩ (.int .i64 q.n)) :=
  ((((((((h.set hb _).set hb _).set hb _).set hb _).set hb _).set hb _).set hb _).set hb _).set hb _
theorem set9_size {k : AM} {q : Sl} : ((((((((((w.setCell ⟨b, 0, none⟩ (.slice k.A q.a.s.length k.ca)).setCell ⟨b, 1, none⟩ (.slice k.B q.a.t.length k.cb)).setCell ⟨b, 2, none⟩ (.int .i64 q.a.cap)).setCell ⟨b, 3, none⟩ (.bool q.a.down)).setCell ⟨b, 4, none⟩ (.slice k.C q.b.s.length k.cc)).setCell ⟨b, 5, none⟩ (.slice k.D q.b.t.length k.cd)).setCell ⟨b, 6, none⟩ (.int .i64 q.b.cap)).setCell ⟨b, 7, none⟩ (.bool q.b.down)).setCell ⟨b, 8, none⟩ (.int .i64 q.n))).heap.size = w.heap.size := by simp
end
end Go.Proofs.Ytakgglpfgpkboaa
