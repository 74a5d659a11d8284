/- The texts OpenB, ObOpen, one behind the other. Own work. -/
import Derived.Test.YthfffbpcmlgoiaaGreatDoorRows
import Derived.Test.YthfffbpcmlgoiaaGreatDoorCKA
import Derived.ProofKit
import Derived.OpenShut
import Derived.ShutString
import Derived.ChangeOld
import Derived.Below
import Derived.Lib.SmallJoins
import Derived.Test.YthfffbpcmlgoiaaGreatDoorTie
import Derived.Test.YthfffbpcmlgoiaaGreatDoorCards
import Derived.Test.YthfffbpcmlgoiaaGreatDoorCObMem
import Derived.LaidMore
import Derived.Lay
import Derived.Stop.Joined
import Derived.Deep.Slices
import Derived.Deep.Fields
import Derived.Laws.IdiomArrays
set_option linter.unusedVariables false
set_option linter.unusedSimpArgs false
/- Arguments opened: bytes, numbers of 32 bits. Own work. -/
namespace Go.Proofs.YthfffbpcmlgoiaaGreatDoor
open Go.ChangeShapes Go.WideShapes Go.ChangeAt Go.RowKit Go.Joins
open Go.ChangeMaps (open_string shut_string)

theorem own : ownKnob Tryz.prog.godebug = none := by kernel_rfl
theorem laidOut : laidOutB Tryz.prog = true := by kernel_rfl

def u8s (zs : List Int) : List UInt8 := zs.map fun z => UInt8.ofNat z.toNat
theorem rb_of_ints {w : World} {x : Addr} {zs : List Int} {len cap : Nat} (hz : zs.length = cap) (hl : len ≤ cap)
    (hc : ∀ i, i < zs.length → w.cell? (x.add i) = some (.int .u8 (zs.getD i 0))) (hw : ∀ n ∈ zs, (Lit.int .u8 n).wf = true) :
    RB w 0 (some x) (u8s (zs.take len)) ∧ (u8s (zs.take len)).length = len := by
  have hlen : (u8s (zs.take len)).length = len := by simp [u8s]; omega
  refine ⟨fun _ => ⟨x, rfl, Nat.zero_le _, fun i hi => ?_⟩, hlen⟩
  have hi' : i < zs.length := by omega
  rw [hc i hi']
  have hm := hw zs[i] (List.getElem_mem hi')
  have hb : 0 ≤ zs[i] ∧ zs[i] ≤ 255 := by simpa [Lit.wf, IntKind.min, IntKind.max, IntKind.signed, IntKind.bits] using hm
  have hg : zs.getD i 0 = zs[i] := by simp [hi']
  have hn : ((UInt8.ofNat zs[i].toNat).toNat : Int) = zs[i] := by
    rw [UInt8.toNat_ofNat']; omega
  rw [hg]
  unfold cb
  simp only [u8s, List.getElem_map, List.getElem_take]
  rw [hn]

/-- A slice of bytes that came in. -/
theorem open_bytes {H : Type} {enc : TypeId × Value → H} {w : World} {base : Nat} {spare : Nat → Bool} {held : Bool} {fuel : Nat} {v : Value} {y : DataW H × List MemPlace}
    (h : DataW.trod enc Tryz.prog w base spare held fuel 24 [v] = some y) :
    ∃ (A : Option Addr) (ca : Nat) (s : List UInt8), v = .slice A s.length ca ∧ RB w 0 A s ∧ s.length ≤ ca ∧ s.length ≤ 9223372036854775807 := by
  rcases open_ints Tryz.underlying24 Tryz.underlying5 (by kernel_rfl) h with ⟨hcs, _⟩ | ⟨x, l, c, zs, hcs, _, hl, hm, hz, _, hcell, hwz⟩
  · obtain rfl : v = .slice none 0 0 := by simpa using hcs
    exact ⟨none, 0, [], rfl, RB.nil, Nat.le_refl _, Nat.zero_le _⟩
  · obtain rfl : v = .slice (some x) l c := by simpa using hcs
    obtain ⟨h1, h2⟩ := rb_of_ints hz (by split <;> omega) hcell hwz
    unfold maxLen at hm
    exact ⟨some x, c, u8s (zs.take l), by rw [h2], h1, by omega, by omega⟩

theorem reg_of {n : Int} (h : (Lit.int .u32 n).wf = true) : ∃ x : BitVec 32, n = (x.toNat : Int) := by
  have hb : 0 ≤ n ∧ n ≤ 4294967295 := by simpa [Lit.wf, IntKind.min, IntKind.max, IntKind.signed, IntKind.bits] using h
  exact ⟨BitVec.ofNat 32 n.toNat, by rw [BitVec.toNat_ofNat]; omega⟩
end Go.Proofs.YthfffbpcmlgoiaaGreatDoor

/- Arguments that are objects, opened; the package's variables, as the card lays them. Own work. -/
namespace Go.Proofs.YthfffbpcmlgoiaaGreatDoor
open Go.ChangeShapes Go.WideShapes Go.ChangeAt Go.RowKit Go.Joins Go.Deep

abbrev obLaid : List (String × DataW Unit) := [("siding/sha.first", Rows.laid_siding_sha_first), ("siding/sha.constants", Rows.laid_siding_sha_constants), ("unicode/utf8.acceptRanges", Rows.laid_unicode_utf8_acceptRanges), ("unicode/utf8.first", Rows.laid_unicode_utf8_first)]
theorem gFirst : Tryz.prog.globalNamed "siding/sha.first" = some 0 := by kernel_rfl
theorem gConst : Tryz.prog.globalNamed "siding/sha.constants" = some 2 := by kernel_rfl
theorem tFirst : (Tryz.prog.globals[0]?).map (·.type) = some 101 := by kernel_rfl
theorem tConst : (Tryz.prog.globals[2]?).map (·.type) = some 179 := by kernel_rfl
theorem arr_cells {H : Type} {enc : TypeId × Value → H} {W : World} {base : Nat} {spare : Nat → Bool} {held : Bool} {fuel n : Nat} {T : TypeId} (hT : Tryz.prog.underlying T = some (.array n 100)) {cs : List Value} {ps : List MemPlace} (vals : List (BitVec 32)) (hn : vals.length = n)
    (hd : DataW.trod enc Tryz.prog W base spare held fuel T cs = some (.agg (vals.map fun v => .lit (.int .u32 (v.toNat : Int))), ps)) (i : Nat) (v : Value) (hv : (vals.map wv)[i]? = some v) : cs[i]? = some v := by
  obtain ⟨xs, m, rfl, hx, hlen, hn2, hel⟩ := DataW.trod_array hT hd
  have c1 : Tryz.prog.cellsOf 100 = 1 := by kernel_rfl
  have hi : i < vals.length := by
    have := (List.getElem?_eq_some_iff.1 hv).1
    simpa using this
  have h1 := hel i (by omega)
  rw [c1, Nat.mul_one] at h1
  have hxs : i < xs.length := by omega
  rw [List.getElem?_eq_getElem hxs] at h1
  obtain ⟨k, e1, e2, _⟩ := DataW.trod_int Tryz.underlying100 h1
  simp only [Prod.mk.injEq, DataW.agg.injEq] at hx
  have e3 : (xs.map (·.1))[i]? = some (.lit (.int .u32 k)) := by
    rw [List.getElem?_map, List.getElem?_eq_getElem hxs, e2]; rfl
  rw [← hx.1, List.getElem?_map, List.getElem?_eq_getElem hi] at e3
  simp at e3
  rw [List.getElem?_map, List.getElem?_eq_getElem hi] at hv
  have e4 : v = .int .u32 k := by rw [← Option.some.inj hv, ← e3]; rfl
  have h5 : ((cs.drop i).take 1)[0]? = some (.int .u32 k) := by rw [e1]; rfl
  rw [List.getElem?_take_of_lt (by omega), List.getElem?_drop] at h5
  rw [e4]
  simpa using h5
theorem of_laid {W : World} (h : laidMetH Tryz.prog obLaid W) : Glob W := by
  rw [MakeChecks.laidMetH_plain _ _ _ (by kernel_rfl)] at h
  obtain ⟨ps, ⟨g0, t0, cs0, f0, p0, q0, hg0, ht0, hv0, hd0, ⟨g1, t1, cs1, f1, p1, q1, hg1, ht1, hv1, hd1, _, _⟩, _⟩, _, _⟩ := h
  obtain rfl := Option.some.inj (gFirst.symm.trans hg0)
  obtain rfl := Option.some.inj (gConst.symm.trans hg1)
  obtain rfl := Option.some.inj (tFirst.symm.trans ht0)
  obtain rfl := Option.some.inj (tConst.symm.trans ht1)
  refine ⟨fun k v hk => ?_, fun k v hk => ?_⟩
  · rw [World.var?_cell hg0 hv0 k, ← Array.getElem?_toList]
    exact arr_cells Tryz.underlying101 Sha.first.list rfl hd0 k v hk
  · rw [World.var?_cell hg1 hv1 k, ← Array.getElem?_toList]
    exact arr_cells Tryz.underlying179 Sha.K rfl hd1 k v hk
theorem spotO_none {w : World} {p : Addr} {v : Value} (h : w.cell? p = some v) : p = ⟨p.block, p.off, none⟩ := by
  obtain ⟨b, o, s⟩ := p
  cases s with
  | none => rfl
  | some s =>
    unfold World.cell? at h
    split at h
    · simp at h
    · cases h
instance : Inhabited EM := ⟨⟨ByteArray.empty, []⟩⟩
section
variable {H : Type} {enc : TypeId × Value → H} {w : World} {base : Nat} {spare : Nat → Bool} {held : Bool} {fuel : Nat} {y : DataW H × List MemPlace}
set_option maxRecDepth 100000 in
theorem open_id {cs : List Value} (hc : cs.length = 32) (h : DataW.trod enc Tryz.prog w base spare held fuel 27 cs = some y) : ∃ x : List UInt8, x.length = 32 ∧ cs = idc x := by
  have key : ∀ i, i < 32 → ∃ b : UInt8, cs[i]? = some (cb b) := by
    intro i hi
    obtain ⟨xs, m, _, hx, hlen, hn2, hel⟩ := DataW.trod_array Tryz.underlying27 h
    have c1 : Tryz.prog.cellsOf 5 = 1 := by kernel_rfl
    have h1 := hel i (by omega)
    rw [c1, Nat.mul_one] at h1
    have hxs : i < xs.length := by omega
    rw [List.getElem?_eq_getElem hxs] at h1
    obtain ⟨k, e1, e2, w2⟩ := DataW.trod_int Tryz.underlying5 h1
    have hb : 0 ≤ k ∧ k ≤ 255 := by simpa [Lit.wf, IntKind.min, IntKind.max, IntKind.signed, IntKind.bits] using w2
    refine ⟨UInt8.ofNat k.toNat, ?_⟩
    have h5 : ((cs.drop i).take 1)[0]? = some (.int .u8 k) := by rw [e1]; rfl
    rw [List.getElem?_take_of_lt (by omega), List.getElem?_drop] at h5
    have hk : ((UInt8.ofNat k.toNat).toNat : Int) = k := by rw [UInt8.toNat_ofNat']; omega
    unfold cb
    rw [hk]
    simpa using h5
  obtain ⟨F, hF⟩ := choose_lt (α := UInt8) (n := 32) (p := fun i b => cs[i]? = some (cb b)) (fun i hi => key i hi)
  refine ⟨(List.range 32).map F, by simp, List.ext_getElem? fun i => ?_⟩
  by_cases hi : i < 32
  · rw [hF i hi]; unfold idc; simp [hi]
  · rw [List.getElem?_eq_none (by omega), List.getElem?_eq_none (by unfold idc; simp; omega)]
set_option maxRecDepth 100000 in
theorem open_ecells {cs : List Value} (hc : cs.length = 33) (h : DataW.trod enc Tryz.prog w base spare held fuel 38 cs = some y) : ∃ x : EM, cs = x.cells ∧ x.b.length = 32 ∧ x.p.size ≤ 9223372036854775807 := by
  obtain ⟨xs, n, _, _, _, hlen, hg⟩ := DataW.trod_struct Tryz.underlying38 h
  match xs, hlen with
  | [y0, y1], _ =>
    have g0 : DataW.trod enc Tryz.prog w base spare held n 9 (List.take (Tryz.prog.cellsOf 9) (List.drop 0 cs)) = [y0, y1][0]? := hg 0 _ rfl
    have g1 : DataW.trod enc Tryz.prog w base spare held n 27 (List.take (Tryz.prog.cellsOf 27) (List.drop 1 cs)) = [y0, y1][1]? := hg 1 _ rfl
    rw [show Tryz.prog.cellsOf 9 = 1 by kernel_rfl] at g0
    rw [show Tryz.prog.cellsOf 27 = 32 by kernel_rfl] at g1
    simp only [List.drop_zero, List.getElem?_cons_zero, List.getElem?_cons_succ] at g0 g1
    obtain ⟨s, e0, _, hs⟩ := DataW.trod_string Tryz.underlying9 g0
    obtain ⟨x, hx, e1⟩ := open_id (by simp; omega) g1
    refine ⟨⟨s, x⟩, ?_, hx, by unfold maxLen at hs; exact hs⟩
    have e2 : List.take 32 (List.drop 1 cs) = List.drop 1 cs := List.take_of_length_le (by simp; omega)
    rw [e2] at e1
    show cs = .string s :: idc x
    rw [← e1]
    conv => lhs; rw [← List.take_append_drop 1 cs, e0]
    rfl
/-- A row of structs that came in. -/
theorem rw_of {α : Type} (F : Nat → α) (cells : α → List Value) {a : Addr} {len sz : Nat} (h0 : ∀ x, 0 < (cells x).length) (hF : ∀ i, i < len → ∀ j v, (cells (F i))[j]? = some v → w.cell? (a.add (i * sz + j)) = some v) :
    Rw w sz (some a) (((List.range len).map F).map cells) := by
  intro hn
  have hn' : 0 < len := by simpa using hn
  have ha : a = ⟨a.block, a.off, none⟩ := by
    have := hF 0 hn' 0 _ (List.getElem?_eq_getElem (h0 (F 0)))
    rw [Nat.zero_mul] at this
    exact spotO_none (by simpa [Addr.add] using this)
  refine ⟨a.block, a.off, congrArg some ha, fun i hi j v hv => ?_⟩
  have hi' : i < len := by simpa using hi
  have := hF i hi' j v (by simpa using hv)
  rw [ha] at this
  have e : (⟨a.block, a.off, none⟩ : Addr).add (i * sz + j) = ⟨a.block, a.off + i * sz + j, none⟩ := by
    unfold Addr.add
    split
    · rename_i hz
      rw [show a.off + i * sz + j = a.off by omega]
    · simp; omega
  rw [e] at this
  exact this
set_option maxRecDepth 100000 in
theorem open_entries {v : Value} (h : DataW.trod enc Tryz.prog w base spare held fuel 25 [v] = some y) :
    ∃ (A : Option Addr) (c : Nat) (es : List EM), v = .slice A es.length c ∧ Rw w 33 A (es.map EM.cells) ∧ (∀ e ∈ es, e.b.length = 32) ∧ (∀ e ∈ es, e.p.size ≤ 9223372036854775807) ∧ es.length ≤ c ∧ es.length ≤ 9223372036854775807 := by
  rcases open_slice Tryz.underlying25 h with ⟨hcs, _⟩ | ⟨a, len, cap, m, n, D, Pl, hcs, _, hl, hm, hmm, _, hi⟩
  · obtain rfl : v = .slice none 0 0 := by simpa using hcs
    exact ⟨none, 0, [], rfl, Rw.nil, by simp, by simp, by simp, by simp⟩
  · obtain rfl : v = .slice (some a) len cap := by simpa using hcs
    have hlm : len ≤ m := by rw [hmm]; split <;> omega
    rw [show Tryz.prog.cellsOf 38 = 33 by kernel_rfl] at hi
    obtain ⟨V, hV⟩ := choose_lt (α := EM) (n := len) (p := fun i o => (∀ j v, o.cells[j]? = some v → w.cell? (a.add (i * 33 + j)) = some v) ∧ o.b.length = 32 ∧ o.p.size ≤ 9223372036854775807) (fun i hlt => by
      obtain ⟨cs, h1, h2⟩ := hi i (by omega)
      obtain ⟨_, hcl, hat⟩ := World.cells?_some h1
      obtain ⟨x, rfl, hx, hs⟩ := open_ecells hcl h2
      refine ⟨x, fun j v hj => ?_, hx, hs⟩
      have := hat j (by have := (List.getElem?_eq_some_iff.1 hj).1; omega)
      rw [addr_add_add] at this
      rw [this]; exact hj)
    unfold maxLen at hm
    have hlen : ((List.range len).map V).length = len := by simp
    refine ⟨some a, cap, (List.range len).map V, by rw [hlen], rw_of V EM.cells (fun x => by simp [EM.cells]) (fun i hi j v hj => (hV i hi).1 j v hj), ?_, ?_, by rw [hlen]; exact hl, by rw [hlen]; omega⟩
    · intro x hx
      obtain ⟨i, hi, rfl⟩ := List.mem_map.1 hx
      exact (hV i (List.mem_range.1 hi)).2.1
    · intro x hx
      obtain ⟨i, hi, rfl⟩ := List.mem_map.1 hx
      exact (hV i (List.mem_range.1 hi)).2.2
set_option maxRecDepth 100000 in
theorem open_ids {v : Value} (h : DataW.trod enc Tryz.prog w base spare held fuel 28 [v] = some y) :
    ∃ (A : Option Addr) (c : Nat) (ps : List (List UInt8)), v = .slice A ps.length c ∧ Rw w 32 A (ps.map idc) ∧ (∀ p ∈ ps, p.length = 32) ∧ ps.length ≤ c ∧ ps.length ≤ 9223372036854775807 := by
  rcases open_slice Tryz.underlying28 h with ⟨hcs, _⟩ | ⟨a, len, cap, m, n, D, Pl, hcs, _, hl, hm, hmm, _, hi⟩
  · obtain rfl : v = .slice none 0 0 := by simpa using hcs
    exact ⟨none, 0, [], rfl, Rw.nil, by simp, by simp, by simp⟩
  · obtain rfl : v = .slice (some a) len cap := by simpa using hcs
    have hlm : len ≤ m := by rw [hmm]; split <;> omega
    rw [show Tryz.prog.cellsOf 27 = 32 by kernel_rfl] at hi
    obtain ⟨V, hV⟩ := choose_lt (α := List UInt8) (n := len) (p := fun i o => (∀ j v, (idc o)[j]? = some v → w.cell? (a.add (i * 32 + j)) = some v) ∧ o.length = 32) (fun i hlt => by
      obtain ⟨cs, h1, h2⟩ := hi i (by omega)
      obtain ⟨_, hcl, hat⟩ := World.cells?_some h1
      obtain ⟨x, hx, rfl⟩ := open_id hcl h2
      refine ⟨x, fun j v hj => ?_, hx⟩
      have := hat j (by have := (List.getElem?_eq_some_iff.1 hj).1; omega)
      rw [addr_add_add] at this
      rw [this]; exact hj)
    unfold maxLen at hm
    have hlen : ((List.range len).map V).length = len := by simp
    refine ⟨some a, cap, (List.range len).map V, by rw [hlen], fun hn => ?_, ?_, by rw [hlen]; exact hl, by rw [hlen]; omega⟩
    · have hn' : 0 < len := by simpa using hn
      have ha : a = ⟨a.block, a.off, none⟩ := by
        obtain ⟨u, hu⟩ : ∃ u, (idc (V 0))[0]? = some u := ⟨_, List.getElem?_eq_getElem (by rw [idc_len (hV 0 hn').2]; omega)⟩
        have := (hV 0 hn').1 0 u hu
        exact spotO_none (v := u) (by simpa [Addr.add] using this)
      refine ⟨a.block, a.off, congrArg some ha, fun i hi j v hv => ?_⟩
      have hi' : i < len := by simpa using hi
      have := (hV i hi').1 j v (by simpa using hv)
      rw [ha] at this
      have e : (⟨a.block, a.off, none⟩ : Addr).add (i * 32 + j) = ⟨a.block, a.off + i * 32 + j, none⟩ := by
        unfold Addr.add
        split
        · rename_i hz
          rw [show a.off + i * 32 + j = a.off by omega]
        · simp; omega
      rw [e] at this
      exact this
    · intro x hx
      obtain ⟨i, hi, rfl⟩ := List.mem_map.1 hx
      exact (hV i (List.mem_range.1 hi)).2
set_option maxRecDepth 100000 in
theorem open_ccells {cs : List Value} (hc : cs.length = 35) (h : DataW.trod enc Tryz.prog w base spare held fuel 30 cs = some y) : ∃ x : CM, cs = x.cells ∧ CL w x := by
  obtain ⟨xs, n, _, _, _, hlen, hg⟩ := DataW.trod_struct Tryz.underlying30 h
  match xs, hlen with
  | [y0, y1, y2, y3], _ =>
    have g0 : DataW.trod enc Tryz.prog w base spare held n 27 (List.take (Tryz.prog.cellsOf 27) (List.drop 0 cs)) = [y0, y1, y2, y3][0]? := hg 0 _ rfl
    have g1 : DataW.trod enc Tryz.prog w base spare held n 28 (List.take (Tryz.prog.cellsOf 28) (List.drop 32 cs)) = [y0, y1, y2, y3][1]? := hg 1 _ rfl
    have g2 : DataW.trod enc Tryz.prog w base spare held n 9 (List.take (Tryz.prog.cellsOf 9) (List.drop 33 cs)) = [y0, y1, y2, y3][2]? := hg 2 _ rfl
    have g3 : DataW.trod enc Tryz.prog w base spare held n 3 (List.take (Tryz.prog.cellsOf 3) (List.drop 34 cs)) = [y0, y1, y2, y3][3]? := hg 3 _ rfl
    rw [show Tryz.prog.cellsOf 27 = 32 by kernel_rfl] at g0
    rw [show Tryz.prog.cellsOf 28 = 1 by kernel_rfl] at g1
    rw [show Tryz.prog.cellsOf 9 = 1 by kernel_rfl] at g2
    rw [show Tryz.prog.cellsOf 3 = 1 by kernel_rfl] at g3
    simp only [List.drop_zero, List.getElem?_cons_zero, List.getElem?_cons_succ] at g0 g1 g2 g3
    obtain ⟨t, ht, e0⟩ := open_id (by simp; omega) g0
    obtain ⟨v1, k1⟩ : ∃ v, List.take 1 (List.drop 32 cs) = [v] := List.length_eq_one_iff.1 (by simp; omega)
    rw [k1] at g1
    obtain ⟨A, c, ps, rfl, hr, hl, hn, hn'⟩ := open_ids g1
    obtain ⟨s, e2, _, hs⟩ := DataW.trod_string Tryz.underlying9 g2
    obtain ⟨z, e3, _, wz⟩ := DataW.trod_int Tryz.underlying3 g3
    have z1 : -9223372036854775808 ≤ z ∧ z ≤ 9223372036854775807 := by simpa [Lit.wf, IntKind.min, IntKind.max, IntKind.signed, IntKind.bits] using wz
    refine ⟨⟨t, A, ps, c, s, z⟩, ?_, ⟨ht, hr, hl, hn, hn', by unfold maxLen at hs; exact hs, z1.1, z1.2⟩⟩
    show cs = idc t ++ [.slice A ps.length c, .string s, .int .i64 z]
    have e4 : List.take 1 (List.drop 34 cs) = List.drop 34 cs := List.take_of_length_le (by simp; omega)
    rw [e4] at e3
    have d3 : List.drop 33 cs = [.string s, .int .i64 z] := by
      rw [← List.take_append_drop 1 (List.drop 33 cs), e2, List.drop_drop, e3]; rfl
    have d2 : List.drop 32 cs = [.slice A ps.length c, .string s, .int .i64 z] := by
      rw [← List.take_append_drop 1 (List.drop 32 cs), k1, List.drop_drop, d3]; rfl
    rw [← e0, ← d2, List.take_append_drop]
set_option maxRecDepth 100000 in
theorem open_ocells {cs : List Value} (hc : cs.length = 38) (h : DataW.trod enc Tryz.prog w base spare held fuel 32 cs = some y) : ∃ x : OM, cs = x.cells ∧ OL w x := by
  obtain ⟨xs, n, _, _, _, hlen, hg⟩ := DataW.trod_struct Tryz.underlying32 h
  match xs, hlen with
  | [y0, y1, y2, y3], _ =>
    have g0 : DataW.trod enc Tryz.prog w base spare held n 5 (List.take (Tryz.prog.cellsOf 5) (List.drop 0 cs)) = [y0, y1, y2, y3][0]? := hg 0 _ rfl
    have g1 : DataW.trod enc Tryz.prog w base spare held n 24 (List.take (Tryz.prog.cellsOf 24) (List.drop 1 cs)) = [y0, y1, y2, y3][1]? := hg 1 _ rfl
    have g2 : DataW.trod enc Tryz.prog w base spare held n 25 (List.take (Tryz.prog.cellsOf 25) (List.drop 2 cs)) = [y0, y1, y2, y3][2]? := hg 2 _ rfl
    have g3 : DataW.trod enc Tryz.prog w base spare held n 30 (List.take (Tryz.prog.cellsOf 30) (List.drop 3 cs)) = [y0, y1, y2, y3][3]? := hg 3 _ rfl
    rw [show Tryz.prog.cellsOf 5 = 1 by kernel_rfl] at g0
    rw [show Tryz.prog.cellsOf 24 = 1 by kernel_rfl] at g1
    rw [show Tryz.prog.cellsOf 25 = 1 by kernel_rfl] at g2
    rw [show Tryz.prog.cellsOf 30 = 35 by kernel_rfl] at g3
    simp only [List.drop_zero, List.getElem?_cons_zero, List.getElem?_cons_succ] at g0 g1 g2 g3
    obtain ⟨k, e0, _, wk⟩ := DataW.trod_int Tryz.underlying5 g0
    have k1 : 0 ≤ k ∧ k ≤ 255 := by simpa [Lit.wf, IntKind.min, IntKind.max, IntKind.signed, IntKind.bits] using wk
    obtain ⟨kn, rfl⟩ : ∃ kn : Nat, k = (kn : Int) := ⟨k.toNat, by omega⟩
    obtain ⟨v1, j1⟩ : ∃ v, List.take 1 (List.drop 1 cs) = [v] := List.length_eq_one_iff.1 (by simp; omega)
    rw [j1] at g1
    obtain ⟨A, c, b, rfl, hb, hbc, hbl⟩ := open_bytes g1
    obtain ⟨v2, j2⟩ : ∃ v, List.take 1 (List.drop 2 cs) = [v] := List.length_eq_one_iff.1 (by simp; omega)
    rw [j2] at g2
    obtain ⟨E, d, es, rfl, hr, hl, hs, hn, hn'⟩ := open_entries g2
    obtain ⟨m, e3, hm⟩ := open_ccells (by simp; omega) g3
    refine ⟨⟨kn, A, b, c, E, es, d, m⟩, ?_, ⟨by show kn < 256; omega, hb, hbc, hbl, hr, hl, hs, hn, hn', hm⟩⟩
    show cs = .int .u8 (kn : Int) :: .slice A b.length c :: .slice E es.length d :: m.cells
    have e4 : List.take 35 (List.drop 3 cs) = List.drop 3 cs := List.take_of_length_le (by simp; omega)
    rw [e4] at e3
    have d2 : List.drop 2 cs = .slice E es.length d :: m.cells := by
      rw [← List.take_append_drop 1 (List.drop 2 cs), j2, List.drop_drop, e3]; rfl
    have d1 : List.drop 1 cs = .slice A b.length c :: .slice E es.length d :: m.cells := by
      rw [← List.take_append_drop 1 (List.drop 1 cs), j1, List.drop_drop, d2]; rfl
    rw [← List.take_append_drop 1 cs, e0, d1]; rfl
set_option maxRecDepth 100000 in
/-- An object that came in. -/
theorem open_object {r : Reach} {b0 : Nat} {v : Value} {d : DataW H} {p : List MemPlace}
    (hv : Value.okWide Tryz.prog w r b0 32 v) (h : DataW.Trod enc Tryz.prog w base spare held 32 v d p) :
    ∃ x : OM, v = .agg x.cells.toArray ∧ OL w x := by
  obtain ⟨cs, rfl, hsz, _⟩ : ∃ cs, v = .agg cs ∧ cs.size = Tryz.prog.cellsOf 32 ∧ Row.okWide Tryz.prog w r b0 32 cs := by
    simpa [Value.okWide, Tryz.underlying32] using hv
  rw [show Tryz.prog.cellsOf 32 = 38 by kernel_rfl] at hsz
  obtain ⟨l⟩ := cs
  obtain ⟨fuel, hf⟩ := h
  obtain ⟨x, hx, hl⟩ := open_ocells (cs := l) hsz hf
  exact ⟨x, by rw [hx], hl⟩
end
end Go.Proofs.YthfffbpcmlgoiaaGreatDoor
