/- The functions of package sha, walked. Own work. -/
import Derived.Test.YthfffbpcmlgoiaaGreatDoorCShFunF
set_option linter.unusedVariables false
set_option linter.unusedSimpArgs false
set_option maxRecDepth 100000
namespace Go.Proofs.YthfffbpcmlgoiaaGreatDoor
open Go.RowKit

/-- A hash as a row of values. -/
def hv (h : Sha.W8) (R : Option Addr) (k c : Nat) (n : Int) : List Value := w8 h ++ [.slice R k c, .int .i64 n]
theorem hv_len (h : Sha.W8) (R : Option Addr) (k c : Nat) (n : Int) : (hv h R k c n).length = 10 := rfl
theorem hv_one (h : Sha.W8) (R : Option Addr) (k c : Nat) (n : Int) : (hv h R k c n).all (·.oneCell') = true := rfl
theorem hv_len2 (h : Sha.W8) (R : Option Addr) (k c : Nat) (n : Int) (h' : Sha.W8) (R' : Option Addr) (k' c' : Nat) (n' : Int) : (hv h R k c n).length = (hv h' R' k' c' n').length := (hv_len _ _ _ _ _).trans (hv_len _ _ _ _ _).symm
def W0 : Sha.W8 := ⟨0#32, 0#32, 0#32, 0#32, 0#32, 0#32, 0#32, 0#32⟩
def vh (k : Nat) (n : Int) : Bool := decide (0 ≤ n ∧ n ≤ 1000000 ∧ (k : Int) = n % 64)
section
variable {ops : Array Oper} {rest : List Oper} {o : Oper} {a : Act} {w w' : World} {b lo hi : Nat} {vs us : List Value}
theorem list_ldR {Q : Exit → Act → World → Prop} (T : TypeId) {n : Nat} {d : TypeDesc} (k : Nat) (cs : List Value) (hR : w.rangeAt b k cs) (hT : (Tryz.prog.info? T).map (·.size) = some n) (hu : Tryz.prog.underlying T = some d) (hd : d.isRow = true) (hgd : o.guard = none) (x : Operand) (ho : o.op = .load T x) (hx : a.eval x = .pointer (some ⟨b, k, none⟩)) (hl : cs.length = n)
    (h : wpList Tryz.prog ops Q rest (a.put o.dst (.agg cs.toArray)) w) : wpList Tryz.prog ops Q (o :: rest) a w :=
  wpList_load_mid hgd _ x ho b k hx cs _ hR hu hd (by rw [hT, hl]) h
theorem list_val {Q : Exit → Act → World → Prop} (v : Value) (hgd : o.guard = none) (hv : (execOp a.eval o).run Tryz.prog w = .ok (.value v) w) (h : wpList Tryz.prog ops Q rest (a.put o.dst v) w) : wpList Tryz.prog ops Q (o :: rest) a w :=
  wpList_plain hgd fun K hK => by
    unfold Oper.wp
    rw [hv]
    exact hK _ _ h
theorem VB.pre {xs ys : List Value} (h : VB w b (xs ++ ys)) : w.rangeAt b 0 xs := fun j v hj => by
  rw [Nat.zero_add]
  refine h.q j v ?_
  rw [List.getElem?_append_left (List.getElem?_eq_some_iff.1 hj).1]; exact hj
end
theorem RB.stored {w w' : World} {lo b : Nat} {A : Option Addr} {l : List UInt8} {us : List Value} (h : RB w lo A l) (s : Stored w b us w') (hb : b < lo) : RB w' lo A l := by
  intro hl
  obtain ⟨ad, h1, h2, h3⟩ := h hl
  refine ⟨ad, h1, h2, fun i hi => ?_⟩
  have hbl : (ad.add i).block = ad.block := addr_add_block ad i
  exact (World.cell?_of_block (a := ad.add i) (by rw [hbl]; exact s.blk _ (by omega))).trans (h3 i hi)
theorem isHash_any (h : Sha.W8) (R : Option Addr) (k c : Nat) (n : Int) (w : World) (hk : k ≤ 9223372036854775807) :
    Calls Tryz.prog 101 #[.agg (hv h R k c n).toArray] w fun e w' => e = .returned (.bool (vh k n)) ∧ Ab w w' := by
  have V0 : VB (w.alloc (.cells (hv h R k c n).toArray 127)) w.heap.size (hv h R k c n) := VB.box (xs := (hv h R k c n).toArray) (T := 127) (by (repeat (first | exact new_plain wnA | with_reducible refine old_alloc ?_ | with_reducible refine old_drew ?_ | with_reducible refine old_set ?_ wnA | with_reducible refine old_ab (by assumption) ?_)))
  have y8 : (w.alloc (.cells (hv h R k c n).toArray 127)).cell? ⟨w.heap.size, 8, none⟩ = some (.slice R k c) := V0.at 8 rfl
  have y9 : (w.alloc (.cells (hv h R k c n).toArray 127)).cell? ⟨w.heap.size, 9, none⟩ = some (.int .i64 n) := V0.at 9 rfl
  have hb0 : Ab w (w.alloc (.cells (hv h R k c n).toArray 127)) := abA
  by_cases h1 : 0 ≤ n
  · by_cases h2 : n ≤ 1000000
    · have HV : Hid (vh k n = ((k : Int) == n % 64)) := by
        unfold Hid vh
        rw [Bool.eq_iff_iff]; simp [h1, h2]
      go_enter Tryz.func101, Tryz.ntmps101
      go_upto_region 1 with fail
      generalize w.alloc (.cells (hv h R k c n).toArray 127) = w0 at *
      go_wp2
      go_ret
      exact ⟨by rw [HV.out]; rfl, hb0⟩
    · have HV : Hid (vh k n = false) := by unfold Hid vh; simp; omega
      have h2' : decide (n ≤ 1000000) = false := by simpa using h2
      go_enter Tryz.func101, Tryz.ntmps101
      go_upto_region 1 with fail
      generalize w.alloc (.cells (hv h R k c n).toArray 127) = w0 at *
      go_wp2
      go_ret
      exact ⟨by rw [HV.out]; rfl, hb0⟩
  · have HV : Hid (vh k n = false) := by unfold Hid vh; simp; omega
    have h1' : decide (0 ≤ n) = false := by simpa using h1
    go_enter Tryz.func101, Tryz.ntmps101
    go_upto_region 1 with fail
    generalize w.alloc (.cells (hv h R k c n).toArray 127) = w0 at *
    go_wp2
    go_ret
    exact ⟨by rw [HV.out]; rfl, hb0⟩
set_option maxRecDepth 100000 in
theorem start_any (w : World) (hG : Glob w) :
    Calls Tryz.prog 87 #[] w fun e w' => e = .returned (.agg (hv Sha.first none 0 0 0).toArray) ∧ Ab w w' := by
  have hG1 := hG.first
  go_enter Tryz.func87, Tryz.ntmps87
  have V0 : VB (w.alloc (.cells (hv W0 none 0 0 0).toArray 127)) w.heap.size (hv W0 none 0 0 0) := VB.box (xs := (hv W0 none 0 0 0).toArray) (T := 127) (by (repeat (first | exact new_plain wnA | with_reducible refine old_alloc ?_ | with_reducible refine old_drew ?_ | with_reducible refine old_set ?_ wnA | with_reducible refine old_ab (by assumption) ?_)))
  go_wp2_with (first
    | (refine list_ldR _ 0 (w8 Sha.first) (Glob.first (hG.ab abA)) info8 Tryz.underlying101 rfl rfl _ rfl rfl rfl ?_)
    | (refine list_val (o := ⟨some 2, _, _, _, _, _⟩) (.agg (hv Sha.first none 0 0 0).toArray) rfl (by kernel_rfl) ?_)
    | (refine list_stV (us := hv Sha.first none 0 0 0) _ infoH rfl _ _ rfl rfl rfl V0 (hv_len2 _ _ _ _ _ _ _ _ _ _) (hv_len _ _ _ _ _) (hv_one _ _ _ _ _) ?_
       intro w9 h9))
  refine bodyPost_ret (res_V1 _ infoH Tryz.underlying127 rfl Tryz.results87 _ rfl (h9.v) (hv_len _ _ _ _ _)) rfl ?_
  exact ⟨rfl, h9.ab _ abA (Nat.le_refl _)⟩
/-- What Pad returns. -/
def padE (n : Int) : List UInt8 × Int := if 0 ≤ n ∧ n ≤ 1000000 then (Sha.pad n.toNat, 0) else ([], 2)
def RetBE (w : World) (m : List UInt8 × Int) (e : Ending) (w' : World) : Prop := ∃ A c L, Hid (L = m.1) ∧ e = .returned (.tuple #[.slice A L.length c, .int .i64 m.2]) ∧ RB w' 0 A L ∧ L.length ≤ c ∧ Ab w w'
/-- What Block returns. -/
def blkE (h : Sha.W8) (l : List UInt8) : Sha.W8 × Int := if l.length = 64 then (Sha.taken h l, 0) else (W0, 2)
end Go.Proofs.YthfffbpcmlgoiaaGreatDoor
