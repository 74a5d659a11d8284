/- ShaParts, walked. Own work. -/
import Derived.Test.YtiijehmbpjakhaaDoorShLawB
set_option linter.unusedVariables false
set_option linter.unusedSimpArgs false
namespace Go.Proofs.YtiijehmbpjakhaaDoor
open Go.RowKit

/-- A guarded load of a whole variable that comes. -/
theorem list_ldG {ops : Array Oper} {rest : List Oper} {o : Oper} {a : Act} {w : World} {b : Nat} {vs : List Value} {Q : Exit → Act → World → Prop} (T : TypeId) {n : Nat} {d : TypeDesc} (hT : (Tryd.prog.info? T).map (·.size) = some n) (hu : Tryd.prog.underlying T = some d) (hd : d.isRow = true) (hw : Region.wanted o (yielded ops a.tmps) = true) (x : Operand) (ho : o.op = .load T x) (hx : a.eval x = .pointer (some ⟨b, 0, none⟩)) (hv : VB w b vs) (hl : vs.length = n)
    (h : wpList Tryd.prog ops Q rest (a.put o.dst (.agg vs.toArray)) w) : wpList Tryd.prog ops Q (o :: rest) a w :=
  wpList_step fun K hK => by
    rw [if_pos hw]
    exact wp_load_mid _ x ho b 0 hx vs _ hv.range hu hd (by rw [hT, hl]) (hK _ _ h)
/-- The hash of the bytes y, in memory. -/
def RetG (F : List UInt8 → Sha.W8) (T : List UInt8 → List UInt8) (w : World) (y : List UInt8) (m : Int) (e : Ending) (w' : World) : Prop :=
  ∃ R c, e = .returned (.tuple #[.agg (hv (F y) R (T y).length c m).toArray, .int .i64 0]) ∧ RB w' w.heap.size R (T y) ∧ (T y).length ≤ c ∧ Ab w w'
/-- What the statements need of the package, with letters for its functions. -/
structure Pkg (w : World) (F : List UInt8 → Sha.W8) (T O : List UInt8 → List UInt8) : Prop where
  start : ∀ w', Ab w w' → Calls Tryd.prog 12 #[] w' fun e w2 => e = .returned (.agg (hv (F []) none (T []).length 0 0).toArray) ∧ Ab w' w2
  write : ∀ (x l y : List UInt8) (n m : Int) (R : Option Addr) (cr : Nat) (A : Option Addr) (c : Nat) (w' : World), Ab w w' → Hid (n = (x.length : Int)) → Hid (m = (y.length : Int)) → Hid (y = x ++ l) → RB w' 0 R (T x) → (T x).length ≤ cr → RB w' 0 A l → l.length ≤ c → l.length ≤ 9223372036854775807 → y.length ≤ 1000000 →
    Calls Tryd.prog 11 #[.agg (hv (F x) R (T x).length cr n).toArray, .slice A l.length c] w' (RetG F T w' y m)
  finish : ∀ (x : List UInt8) (n : Int) (R : Option Addr) (cr : Nat) (w' : World), Ab w w' → Hid (n = (x.length : Int)) → RB w' 0 R (T x) → (T x).length ≤ cr → x.length ≤ 1000000 →
    Calls Tryd.prog 13 #[.agg (hv (F x) R (T x).length cr n).toArray] w' fun e w2 => e = .returned (.tuple #[.agg (idv (O x)).toArray, .int .i64 0]) ∧ Ab w' w2
  sum : ∀ (l : List UInt8) (A : Option Addr) (c : Nat) (w' : World), Ab w w' → RB w' 0 A l → l.length ≤ c → l.length ≤ 1000000 →
    Calls Tryd.prog 4 #[.slice A l.length c] w' fun e w2 => e = .returned (.tuple #[.agg (idv (O l)).toArray, .int .i64 0]) ∧ Ab w' w2
  len : ∀ x, (O x).length = 32
  tl : ∀ x, (T x).length ≤ 64
  nil : T [] = []
theorem pkg (w : World) (hG : Glob w) : Pkg w (Sha.after Sha.first) Sha.tail Sha.of where
  start w' hk := start_any w' (hG.ab hk)
  write x l y n m R cr A c w' hk hn hm hy hr hcr hb hc ll hmx := by
    have hx : x.length + l.length ≤ 1000000 := by rw [hy.out, List.length_append] at hmx; exact hmx
    have e : wrE (Sha.after Sha.first x) (Sha.tail x) n l = ⟨Sha.after Sha.first y, Sha.tail y, m, 0⟩ := by
      unfold wrE
      rw [if_pos (vh_tail x n hn.out (by omega)), if_pos (by rw [hn.out]; omega), hy.out, ← Sha.after_append, ← Sha.tail_append, hm.out, hn.out, hy.out, List.length_append]
      simp
    have := write_any (Sha.after Sha.first x) R (Sha.tail x) cr n A l c w' (hG.ab hk) hr hcr (by rw [Sha.tail_length]; omega) hb hc ll
    rw [e] at this
    exact this
  finish x n R cr w' hk hn hr hcr hx := by
    have := finish_any (Sha.after Sha.first x) R (Sha.tail x) cr n w' (hG.ab hk) hr hcr (by rw [Sha.tail_length]; omega)
    rw [hn.out, fin_start x hx] at this
    rw [hn.out]
    exact this
  sum l A c w' hk hb hc hl := by
    have := sum_any A l c w' (hG.ab hk) hb hc (by omega)
    have e : sumE l = (Sha.of l, 0) := by unfold sumE; rw [if_pos hl]
    rw [e] at this
    exact this
  len x := Sha.dig_length _
  tl x := by rw [Sha.tail_length]; omega
  nil := rfl
end Go.Proofs.YtiijehmbpjakhaaDoor
