/- The texts WEnt, WScan, WRead, WRet, WFunA, WFunE, one behind the other. Own work. -/
import Derived.Test.YthgcfjhnnhigoaaGreatGE
import Derived.Test.YthgcfjhnnhigoaaGreatGA
import Derived.Test.YthgcfjhnnhigoaaGreatGD
import Derived.Test.YthgcfjhnnhigoaaGreatGI
import Derived.Test.YthgcfjhnnhigoaaGreatGJ
import Derived.Test.YthgcfjhnnhigoaaGreatGB
set_option linter.unusedVariables false
set_option linter.unusedSimpArgs false
/- Lists of entries (a record, and where it ends) in memory. Own work. -/
namespace Go.Proofs.YthgcfjhnnhigoaaGreat
open Go.RowKit

theorem cells6 {W w' : World} {b : Nat} {v0 v1 v2 v3 v4 v5 : Value} (hb : Ab W w') (h : W.cell? ⟨b, 0, none⟩ = some v0 ∧ W.cell? ⟨b, 1, none⟩ = some v1 ∧ W.cell? ⟨b, 2, none⟩ = some v2 ∧ W.cell? ⟨b, 3, none⟩ = some v3 ∧ W.cell? ⟨b, 4, none⟩ = some v4 ∧ W.cell? ⟨b, 5, none⟩ = some v5) :
    w'.cell? ⟨b, 0, none⟩ = some v0 ∧ w'.cell? ⟨b, 1, none⟩ = some v1 ∧ w'.cell? ⟨b, 2, none⟩ = some v2 ∧ w'.cell? ⟨b, 3, none⟩ = some v3 ∧ w'.cell? ⟨b, 4, none⟩ = some v4 ∧ w'.cell? ⟨b, 5, none⟩ = some v5 :=
  ⟨hb.at h.1, hb.at h.2.1, hb.at h.2.2.1, hb.at h.2.2.2.1, hb.at h.2.2.2.2.1, hb.at h.2.2.2.2.2⟩
/-- An entry: a record, where its bytes lie, and where it ends. -/
structure EntM where
  x : RecM
  e : Nat
instance : Inhabited EntM := ⟨⟨default, 0⟩⟩
def EntM.cells (y : EntM) : List Value := [.int .i64 y.x.num, .slice y.x.A y.x.b.length y.x.c, .int .i64 (y.e : Int)]
def xsOf (ys : List EntM) : List RecM := ys.map EntM.x
def erecs (ys : List EntM) : List Frame.Rec := recs (xsOf ys)
def cellsE (ys : List EntM) : List Value := (ys.map EntM.cells).flatten
theorem cellsE_snoc (ys : List EntM) (y : EntM) : cellsE (ys ++ [y]) = cellsE ys ++ y.cells := by simp [cellsE]
theorem erecs_length (ys : List EntM) : (erecs ys).length = ys.length := by simp [erecs, recs, xsOf]
theorem erecs_get (ys : List EntM) (k : Nat) (h : k < ys.length) : (erecs ys)[k]'(by rw [erecs_length]; exact h) = ys[k].x.r := by simp [erecs, recs, xsOf]
theorem erecs_snoc (ys : List EntM) (y : EntM) : erecs (ys ++ [y]) = erecs ys ++ [y.x.r] := by simp [erecs, recs, xsOf]
theorem erecs_take (ys : List EntM) (k : Nat) : erecs (ys.take k) = (erecs ys).take k := by simp [erecs, recs, xsOf, List.map_take]
theorem erecs_drop (ys : List EntM) (k : Nat) : erecs (ys.drop k) = (erecs ys).drop k := by simp [erecs, recs, xsOf, List.map_drop]
theorem cellsE_at (ys : List EntM) : ∀ i (h : i < ys.length), (cellsE ys)[i * 3]? = some (.int .i64 ys[i].x.num) ∧ (cellsE ys)[i * 3 + 1]? = some (.slice ys[i].x.A ys[i].x.b.length ys[i].x.c) ∧
    (cellsE ys)[i * 3 + 2]? = some (.int .i64 (ys[i].e : Int)) := by
  induction ys with
  | nil => intro i h; exact absurd h (by simp)
  | cons y ys ih =>
    intro i h
    have e : cellsE (y :: ys) = .int .i64 y.x.num :: .slice y.x.A y.x.b.length y.x.c :: .int .i64 (y.e : Int) :: cellsE ys := by simp [cellsE, EntM.cells]
    rw [e]
    cases i with
    | zero => exact ⟨rfl, rfl, rfl⟩
    | succ j =>
      have := ih j (by simpa using h)
      rw [show (j + 1) * 3 = j * 3 + 1 + 1 + 1 by omega]
      simpa using this
/-- Where each one ends. -/
def Ends (ys : List EntM) : Prop := ∀ i (h : i < ys.length), ys[i].e = (Frame.all ((erecs ys).take (i + 1))).length
theorem ends_nil : Ends [] := fun i h => absurd h (by simp)
theorem ends_snoc {ys : List EntM} {y : EntM} (h : Ends ys) (he : y.e = (Frame.all (erecs ys)).length + (12 + y.x.b.length)) : Ends (ys ++ [y]) := by
  intro i hi
  rw [erecs_snoc]
  rcases Nat.lt_or_ge i ys.length with h1 | h1
  · rw [List.getElem_append_left h1, List.take_append_of_le_length (by rw [erecs_length]; omega)]
    exact h i h1
  · have : i = ys.length := by simp at hi; omega
    subst this
    rw [List.getElem_append_right (by omega), List.take_of_length_le (by simp [erecs_length]), Frame.all_append, Frame.all_one, List.length_append, Frame.enc_length]
    simpa [RecM.r] using he
theorem ends_take {ys : List EntM} (h : Ends ys) (k : Nat) : Ends (ys.take k) := by
  intro i hi
  have hi' : i < ys.length ∧ i < k := by simp at hi; omega
  rw [List.getElem_take, erecs_take, List.take_take, Nat.min_eq_left (by omega)]
  exact h i hi'.1

def EntsAt (w : World) (lo : Nat) (a : Addr) (ys : List EntM) : Prop :=
  lo ≤ a.block ∧ ∀ i (h : i < ys.length), w.cell? (a.add (i * 3)) = some (.int .i64 ys[i].x.num) ∧ w.cell? (a.add (i * 3 + 1)) = some (.slice ys[i].x.A ys[i].x.b.length ys[i].x.c) ∧
    w.cell? (a.add (i * 3 + 2)) = some (.int .i64 (ys[i].e : Int)) ∧ Laid w lo ys[i].x
/-- The slice of entries (A, n, c) is ys. -/
def Ents (w : World) (lo : Nat) (A : Option Addr) (ys : List EntM) : Prop := 0 < ys.length → ∃ a, A = some a ∧ EntsAt w lo a ys
/-- The address of l[k:], for entries. -/
def cutE (a : Option Addr) (cap k : Nat) : Option Addr := if cap = k then a else a.map (·.add (k * 3))
section
variable {w w' : World} {lo lo' : Nat} {A : Option Addr} {ys : List EntM}
theorem Ents.ab (h : Ents w lo A ys) (hb : Ab w w') : Ents w' lo A ys := fun hn => by
  obtain ⟨a, ha, h1, h2⟩ := h hn
  exact ⟨a, ha, h1, fun i hi => ⟨hb.at (h2 i hi).1, hb.at (h2 i hi).2.1, hb.at (h2 i hi).2.2.1, (h2 i hi).2.2.2.ab hb⟩⟩
theorem Ents.mono (h : Ents w lo A ys) (hl : lo' ≤ lo) : Ents w lo' A ys := fun hn => by
  obtain ⟨a, ha, h1, h2⟩ := h hn
  exact ⟨a, ha, by omega, fun i hi => ⟨(h2 i hi).1, (h2 i hi).2.1, (h2 i hi).2.2.1, (h2 i hi).2.2.2.mono hl⟩⟩
theorem Ents.take (h : Ents w lo A ys) (k : Nat) : Ents w lo A (ys.take k) := fun hn => by
  have hn' : 0 < ys.length := by simp at hn; omega
  obtain ⟨a, ha, h1, h2⟩ := h hn'
  refine ⟨a, ha, h1, fun i hi => ?_⟩
  have hi' : i < ys.length := by simp at hi; omega
  rw [List.getElem_take]; exact h2 i hi'
theorem Ents.cut (h : Ents w lo A ys) (k cap : Nat) (hc : ys.length ≤ cap) : Ents w lo (cutE A cap k) (ys.drop k) := fun hn => by
  rw [List.length_drop] at hn
  obtain ⟨a, rfl, h1, h2⟩ := h (by omega)
  unfold cutE
  rw [if_neg (by omega)]
  refine ⟨a.add (k * 3), rfl, by rw [addr_add_block]; exact h1, fun i hi => ?_⟩
  rw [List.length_drop] at hi
  have := h2 (k + i) (by omega)
  rw [addr_add_add, addr_add_add, addr_add_add, List.getElem_drop, show k * 3 + i * 3 = (k + i) * 3 by omega, show k * 3 + (i * 3 + 1) = (k + i) * 3 + 1 by omega, show k * 3 + (i * 3 + 2) = (k + i) * 3 + 2 by omega]
  exact this
theorem Ents.block (h : Ents w lo A ys) (hk : ∀ g, lo ≤ g → g < w.heap.size → w'.heap[g]? = w.heap[g]?) : Ents w' lo A ys := fun hn => by
  obtain ⟨a, ha, h0, h1⟩ := h hn
  refine ⟨a, ha, h0, fun i hi => ?_⟩
  obtain ⟨h1, h2, h3, h4⟩ := h1 i hi
  refine ⟨(World.cell?_of_block (hk _ ?_ (cell_lt h1))).trans h1, (World.cell?_of_block (hk _ ?_ (cell_lt h2))).trans h2, (World.cell?_of_block (hk _ ?_ (cell_lt h3))).trans h3, h4.block hk⟩
  all_goals rw [addr_add_block]; exact h0
theorem Ents.set (h : Ents w lo A ys) {p : Addr} (hp : p.block < lo) (u : Value) : Ents (w.setCell p u) lo A ys :=
  h.block fun g hg _ => Below.heap_setCell w p u g (by omega)
/-- An entry's three cells, as the walk writes them. -/
theorem Ents.at_ (h : Ents w lo A ys) {k : Nat} (hk : k < ys.length) : ∃ a, A = some a ∧ lo ≤ a.block ∧ w.cell? (a.add (k * 3)) = some (.int .i64 ys[k].x.num) ∧
    w.cell? ⟨(a.add (k * 3)).block, (a.add (k * 3)).off + 1, none⟩ = some (.slice ys[k].x.A ys[k].x.b.length ys[k].x.c) ∧ w.cell? ⟨(a.add (k * 3)).block, (a.add (k * 3)).off + 2, none⟩ = some (.int .i64 (ys[k].e : Int)) ∧ Laid w lo ys[k].x := by
  obtain ⟨a, ha, h0, h1⟩ := h (by omega)
  obtain ⟨c0, c1, c2, l⟩ := h1 k hk
  rw [radd_pos _ _ _ (by omega)] at c1 c2
  exact ⟨a, ha, h0, c0, c1, c2, l⟩
end
/-- The call's own list of entries. -/
def OwnE (lo : Nat) (w : World) (A : Option Addr) (c : Nat) (ys : List EntM) : Prop := OV 163 3 lo w A ys.length c (cellsE ys)
section
variable {w w' : World} {lo lo' c : Nat} {A : Option Addr} {ys : List EntM}
theorem OwnE.nil : OwnE lo w none 0 [] := OV.nil
theorem OwnE.ab (h : OwnE lo w A c ys) (hb : Ab w w') : OwnE lo w' A c ys := OV.block h fun g _ hg => hb.out.block g hg
theorem OwnE.le (h : OwnE lo w A c ys) : ys.length ≤ c := by
  unfold OwnE OV at h
  rcases h.2 with ⟨hv, h0⟩ | ⟨g, cap, cur, hv, _, _, hn, _⟩
  · injection hv; omega
  · injection hv; omega
theorem OwnE.ents (h : OwnE lo w A c ys) (hl : ∀ y ∈ ys, Laid w lo' y.x) (hlo : lo' ≤ lo) : Ents w lo' A ys := by
  intro hn
  unfold OwnE at h
  rcases h.2 with ⟨_, h0⟩ | ⟨g, cap, cur, hv, hb, _⟩
  · omega
  · have hA : A = some ⟨g, 0, none⟩ := by injection hv
    have hc := h
    unfold OV at hc
    refine ⟨_, hA, Nat.le_trans hlo hb, fun i hi => ?_⟩
    obtain ⟨c0, c1, c2⟩ := cellsE_at ys i hi
    exact ⟨hc.cells (g := g) (by rw [hA]; rfl) _ _ c0, hc.cells (g := g) (by rw [hA]; rfl) _ _ c1, hc.cells (g := g) (by rw [hA]; rfl) _ _ c2, hl _ (List.getElem_mem hi)⟩
end
theorem infoEnt : (Tryz.prog.info? 163).map (fun i => (i.zero, i.size, i.bytes)) = some (some (.agg #[.int .i64 0, .slice none 0 0, .int .i64 0]), 3, 40) := by kernel_rfl

theorem stepAppE {lo : Nat} {w : World} {A : Option Addr} {c : Nat} {ys : List EntM} {y : EntM} {ops : Array Oper} {o : Oper} {a : Act} {g d : Nat} {fr : Nat × Nat} {K : Act → World → Prop} {Q : Exit → Act → World → Prop} {E : Prop}
    (hgd : o.guard = none) (s z : Operand) (ho : o.op = .call { callee := .builtin .append, args := #[s, z], argTypes := #[159, 159] })
    (hs : a.eval s = .slice A ys.length c) (hy : a.eval z = .slice (some ⟨g, 0, none⟩) 1 d) (h : OwnE lo w A c ys) (hlo : lo ≤ w.heap.size)
    (hg : w.heap[g]? = some (.cells #[.int .i64 y.x.num, .slice y.x.A y.x.b.length y.x.c, .int .i64 (y.e : Int)] 163 fr)) (hlen : ys.length ≤ 1000000)
    (hK : ∀ A' c' w' zs, Hid (zs = ys ++ [y]) → OwnE lo w' A' c' zs → w.grownBy w' (A.map (·.block)) → (∀ W : World, Ab W w → W.heap.size ≤ lo → Ab W w') → K (a.put o.dst (.slice A' zs.length c')) w') :
    if Region.wanted o (yielded ops a.tmps) = true then Oper.wp Tryz.prog o a w K Q else E := by
  have hw : Region.wanted o (yielded ops a.tmps) = true := by simp [Region.wanted, hgd]
  rw [if_pos hw]
  obtain ⟨i0, hi0, hz0, hz1, hz2⟩ := info_parts infoEnt
  refine wp_appV (ws := y.cells) s z _ ho i0 _ Tryz.underlying159 hi0 hz0 hz1 hz2 rfl (by omega) hs hy h hlo rfl ?_ ?_ (by omega) (by unfold maxLen; omega) (by omega) ?_
  · intro j u hu
    have e : (⟨g, 0, none⟩ : Addr).add j = ⟨g, j, none⟩ := by unfold Addr.add; split <;> simp_all
    rw [e]
    unfold World.cell?
    rw [hg]
    simpa [EntM.cells] using hu
  · intro u hu
    have hu' : u = .int .i64 y.x.num ∨ u = .slice y.x.A y.x.b.length y.x.c ∨ u = .int .i64 (y.e : Int) := by simpa [EntM.cells] using hu
    rcases hu' with rfl | rfl | rfl <;> rfl
  · intro g' c' w' h4 h5 h6
    have h7 : OwnE lo w' (some ⟨g', 0, none⟩) c' (ys ++ [y]) := by
      unfold OwnE
      rw [cellsE_snoc, List.length_append]; exact h4
    have := hK _ c' w' (ys ++ [y]) rfl h7 h5 (fun W hW hl => grown_ab hW h5 (fun k hk => by
      obtain ⟨a, ha, rfl⟩ := map_blk hk
      exact Nat.le_trans hl (OV.rng h a ha).1))
    rwa [List.length_append] at this

/-- s[k:] of entries, its address under a name. -/
theorem run_cutE (k : Nat) (kd : IntKind) (a : Option Addr) (len cap : Nat) (w : World) (h : k ≤ len) :
    (Instr.slice 159 (.slice a len cap) (some (.int kd (k : Int))) none none).run Tryz.prog w = .ok (.slice (cutE a cap k) (len - k) (cap - k)) w := by
  have hu : Tryz.prog.underlying 159 = some (.slice (Tryz.prog.elem 159)) := by kernel_rfl
  obtain ⟨i0, hi0, _, hz1, _⟩ := info_parts infoEnt
  have he : Tryz.prog.elem 159 = 163 := by kernel_rfl
  rw [run_slice_l w 159 a len cap hu kd (k : Int) (by omega) (by omega), he]
  simp only [sizeOf, typeInfo, sliced, Int.toNat_natCast, cutE, Sem.run_bind, Sem.run_pure]
  simp [hi0, hz1]
/-- r[k:] of records, its address under a name. -/
def cutR (a : Option Addr) (cap k : Nat) : Option Addr := if cap = k then a else a.map (·.add (k * 2))
theorem Recs.cut {w : World} {lo : Nat} {A : Option Addr} {xs : List RecM} (h : Recs w lo A xs) (k cap : Nat) (hc : xs.length ≤ cap) : Recs w lo (cutR A cap k) (xs.drop k) := fun hn => by
  rw [List.length_drop] at hn
  obtain ⟨a, rfl, h1, h2⟩ := h (by omega)
  unfold cutR
  rw [if_neg (by omega)]
  refine ⟨a.add (k * 2), rfl, by rw [addr_add_block]; exact h1, fun i hi => ?_⟩
  rw [List.length_drop] at hi
  have := h2 (k + i) (by omega)
  rw [addr_add_add, addr_add_add, List.getElem_drop, show k * 2 + i * 2 = (k + i) * 2 by omega, show k * 2 + (i * 2 + 1) = (k + i) * 2 + 1 by omega]
  exact this
end Go.Proofs.YthgcfjhnnhigoaaGreat

/- endOf, behind and scan of package wal, walked. Own work. -/
namespace Go.Proofs.YthgcfjhnnhigoaaGreat
open Go.RowKit

theorem endOf_nil (A : Option Addr) (c : Nat) (w : World) : Calls Tryz.prog 108 #[.slice A 0 c] w fun e w' => e = .returned (.int .i64 0) ∧ w = w' := by
  go_enter Tryz.func108, Tryz.ntmps108
  go_wp2
  go_ret
  exact ⟨rfl, rfl⟩
theorem endOf_some (A : Option Addr) (c k : Nat) (ys : List EntM) (w : World) (hk : k < ys.length) (h : Ents w 0 A ys) (hn : ys.length ≤ 1000000) :
    Calls Tryz.prog 108 #[.slice A (k + 1) c] w fun e w' => e = .returned (.int .i64 (ys[k].e : Int)) ∧ w = w' := by
  obtain ⟨a, rfl, _, c0, c1, c2, _⟩ := h.at_ hk
  have hk1 : k ≤ 1000000 := by omega
  generalize ys[k] = y at *
  clear c0 c1 h
  have hi0 : (0 : Int) ≤ (k : Int) := by omega
  have hi1 : (k : Int) < (k : Int) + 1 := by omega
  go_enter Tryz.func108, Tryz.ntmps108
  go_wp2
  go_ret
  exact ⟨rfl, rfl⟩
theorem behind_some (A : Option Addr) (c k : Nat) (ys : List EntM) (w : World) (hk : k < ys.length) (h : Ents w 0 A ys) (hn : ys.length ≤ 1000000) (h0 : 0 ≤ ys[k].x.num) (h1 : ys[k].x.num ≤ 1000000000) :
    Calls Tryz.prog 106 #[.slice A (k + 1) c] w fun e w' => e = .returned (.int .i64 (ys[k].x.num + 1)) ∧ w = w' := by
  obtain ⟨a, rfl, _, c0, c1, c2, _⟩ := h.at_ hk
  have hk1 : k ≤ 1000000 := by omega
  generalize ys[k] = y at *
  clear c2 c1 h
  have hi0 : (0 : Int) ≤ (k : Int) := by omega
  have hi1 : (k : Int) < (k : Int) + 1 := by omega
  go_enter Tryz.func106, Tryz.ntmps106
  go_wp2
  go_ret
  exact ⟨rfl, rfl⟩

/-- Where the entries end. -/
theorem endOf_any (A : Option Addr) (c u : Nat) (ys : List EntM) (w : World) (h : Ents w 0 A ys) (hE : Ends ys) (hn : ys.length ≤ 1000000) (hu : u = (Frame.all (erecs ys)).length) :
    Calls Tryz.prog 108 #[.slice A ys.length c] w fun e w' => e = .returned (.int .i64 (u : Int)) ∧ w = w' := by
  rcases Nat.eq_zero_or_pos ys.length with h0 | h0
  · have : ys = [] := List.eq_nil_of_length_eq_zero h0
    subst this
    obtain rfl : u = 0 := hu
    exact endOf_nil A c w
  · obtain ⟨k, hk⟩ : ∃ k, ys.length = k + 1 := ⟨ys.length - 1, by omega⟩
    have he := hE k (by omega)
    rw [List.take_of_length_le (by rw [erecs_length]; omega), ← hu] at he
    have := endOf_some A c k ys w (by omega) h hn
    rw [he] at this
    rw [hk]
    exact this
theorem behind_any (A : Option Addr) (c : Nat) (ys : List EntM) (n : Int) (w : World) (h : Ents w 0 A ys) (hF : Frame.Foll (erecs ys)) (h0 : 0 < ys.length) (hn : ys.length ≤ 1000000) (hm : n = Wal.base (erecs ys) + ys.length) :
    Calls Tryz.prog 106 #[.slice A ys.length c] w fun e w' => e = .returned (.int .i64 n) ∧ w = w' := by
  obtain ⟨k, hk⟩ : ∃ k, ys.length = k + 1 := ⟨ys.length - 1, by omega⟩
  have hv := (hF k (by rw [erecs_length]; omega)).1
  have hb := Wal.num_at hF k (by rw [erecs_length]; omega)
  rw [erecs_get ys k (by omega)] at hv hb
  have := behind_some A c k ys w (by omega) h hn hv.1 hv.2.1
  have e : ys[k].x.num + 1 = n := by
    have hb' : ys[k].x.num = Wal.base (erecs ys) + k := hb
    omega
  rw [e] at this
  rw [hk]
  exact this
theorem first_num (A : Option Addr) (lo : Nat) (ys : List EntM) (w : World) (h : Ents w lo A ys) (hF : Frame.Foll (erecs ys)) (h0 : 0 < ys.length) : ∃ a, A = some a ∧ w.cell? (a.add (0 * 3)) = some (.int .i64 (Wal.base (erecs ys))) := by
  obtain ⟨a, ha, _, c0, _⟩ := h.at_ h0
  have hb := Wal.num_at hF 0 (by rw [erecs_length]; omega)
  rw [erecs_get ys 0 h0] at hb
  refine ⟨a, ha, ?_⟩
  have hb' : ys[0].x.num = Wal.base (erecs ys) := by rw [show ys[0].x.num = Wal.base (erecs ys) + ((0 : Nat) : Int) from hb]; simp
  rw [← hb']
  exact c0

def ScanP (b : List UInt8) (w : World) (e : Ending) (w' : World) : Prop :=
  ∃ (E : Option Addr) (d : Nat) (ys : List EntM) (u : Nat), Hid (Frame.IsScan b (erecs ys) u) ∧ Hid (Ends ys) ∧ e = .returned (.slice E ys.length d) ∧ Ents w' w.heap.size E ys ∧ ys.length ≤ d ∧ Ab w w'

/-- How far the loop of scan has come. -/
def ScanRel (b : List UInt8) (xs : List RecM) (w3 w : World) (f i : Value) (wr : World) : Prop :=
  ∃ (k : Nat) (E : Option Addr) (d : Nat) (ys : List EntM), k ≤ xs.length ∧ i = .int .i64 (k : Int) ∧ f = .slice E ys.length d ∧ Hid (xsOf ys = xs.take k) ∧ Hid (Ends ys) ∧ ys.length ≤ 20000 ∧ OwnE w3.heap.size wr E d ys ∧ Ab w3 wr
theorem scan_next {b : List UInt8} {xs : List RecM} {ys : List EntM} {k u : Nat} (hs : Frame.IsScan b (recs xs) u) (hx : xsOf ys = xs.take k) (hk : k < xs.length) (hb : b.length ≤ 20000) :
    (Frame.all (erecs ys)).length + (12 + xs[k].b.length) ≤ 20000 ∧ ys.length = k := by
  have h1 : erecs ys = (recs xs).take k := by unfold erecs; rw [hx, recs_take]
  have h2 := Wal.take_step (recs xs) k (by rw [recs_length]; exact hk)
  have h3 := Wal.take_le (recs xs) (k + 1)
  have h4 := hs.2.2.1.length_le
  rw [recs_get xs k hk] at h2
  have h5 : xs[k].r.data.length = xs[k].b.length := rfl
  refine ⟨by rw [h1]; omega, ?_⟩
  have := congrArg List.length hx
  simp [xsOf] at this
  omega

set_option maxHeartbeats 3200000 in
set_option maxRecDepth 100000 in
theorem wscan_any (A B : Option Addr) (ca cb : Nat) (s t : List UInt8) (cap : Int) (w : World) (hs : RB w 0 A s) (ht : RB w 0 B t) (hca : s.length ≤ ca) (hcb : t.length ≤ cb) (hu : Disk.up ⟨s, t, cap, false⟩ = 0) :
    Calls Tryz.prog 105 #[.agg #[.slice A s.length ca, .slice B t.length cb, .int .i64 cap, .bool false]] w (ScanP (s ++ t) w) := by
  have hnb := (Disk.up_zero hu).1
  have hsz := Disk.size_le hnb
  simp only [Disk.Dev.size] at hsz
  obtain ⟨N, hN⟩ : ∃ N : Nat, s.length + t.length = N := ⟨_, rfl⟩
  have hN1 := Nat.le_of_eq hN
  have hN2 := Nat.le_of_eq hN.symm
  have ls : s.length ≤ 20000 := by omega
  have lt : t.length ≤ 20000 := by omega
  have hN3 : N ≤ 20000 := by omega
  have HS := Lib.hid (show Disk.size ⟨s, t, cap, false⟩ = ((N : Int), 0) by rw [← hN]; exact if_neg hnb)
  have HR := Lib.hid (show Disk.read ⟨s, t, cap, false⟩ 0 (N : Int) = (s ++ t, 0) by
    unfold Disk.read
    rw [if_neg (by simpa using hu), if_neg (by simp only [Disk.Dev.size]; omega)]
    simp only [Disk.Dev.all, Int.toNat_zero, List.drop_zero, Int.toNat_natCast]
    rw [List.take_of_length_le (by simp; omega)])
  clear hnb hsz hN hu
  go_enter Tryz.func105, Tryz.ntmps105
  go_wp2_with fail
  refine (size_any A B ca cb s t cap false _ (by omega) (by omega)).mono ?_
  rintro e w1 ⟨r, er, hr, rfl, hb1⟩
  obtain ⟨rfl, rfl⟩ := Prod.mk.inj (hr.out.trans HS.out)
  clear hr
  have bq0 := hb1.at (p := ⟨w.heap.size, 0, none⟩) (v := .slice A s.length ca) ckA; have bq1 := hb1.at (p := ⟨w.heap.size, 1, none⟩) (v := .slice B t.length cb) ckA; have bq2 := hb1.at (p := ⟨w.heap.size, 2, none⟩) (v := .int .i64 cap) ckA; have bq3 := hb1.at (p := ⟨w.heap.size, 3, none⟩) (v := .bool false) ckA
  go_wp2_with fail
  refine (read_any A B ca cb s t cap false _ (hs.ab abA) (ht.ab abA) hca hcb (by omega) (by omega) 0 (N : Int) (by omega) (by omega)).mono ?_
  rintro e w2 ⟨b, er, D, cd, hr, rfl, p2, hcd, hb2⟩
  obtain ⟨hb, rfl⟩ := Prod.mk.inj (hr.out.trans HR.out)
  have HB := Lib.hid hb
  have hbl : b.length ≤ 20000 := by rw [hb, List.length_append]; omega
  clear hr hb
  go_wp2_with fail
  refine (scan_any D b cd _ (p2.zero.ab abA) hcd (by omega)).mono ?_
  rintro e w3 ⟨X, cx, xs, u, er, hS, rfl, ho, hb3⟩
  have hS' : Hid (er = 0 ∧ ∃ n : Nat, u = n ∧ Frame.IsScan b (recs xs) n) := Lib.hid (by
    rcases hS.out with ⟨h1, _⟩ | ⟨_, h2, h3⟩
    · omega
    · exact ⟨h2, h3⟩)
  obtain ⟨rfl, un, rfl, hSn⟩ := hS'.out
  have HS2 := Lib.hid hSn
  clear hS hS' hSn
  have hrec := ho.recs
  have z3 := hb3.size
  have b3 : Ab w w3 := abA
  have zw := b3.size
  have hxl : xs.length ≤ 20000 := by
    have h1 := HS2.out.2.2.1.length_le
    have h2 := Wal.all_len (recs xs)
    rw [recs_length] at h2
    omega
  have hlo : w.heap.size ≤ w2.heap.size := Ab.size abA
  clear ho
  go_wp2_with fail
  go_loopw [10, 34] (fun f i wr => ScanRel b xs w3 w f i wr) (fun _ i _ => xs.length - (intOf i).toNat)
  case atStart => exact ⟨0, none, 0, [], Nat.zero_le _, rfl, rfl, Lib.hid rfl, Lib.hid ends_nil, Nat.zero_le _, OwnE.nil, Ab.refl _⟩
  case round =>
    obtain ⟨k, E, d, ys, hk, rfl, rfl, hX, hE, hyl, hO, hbr⟩ := hrel
    by_cases hlt : k < xs.length
    · obtain ⟨hroom, hyk⟩ := scan_next HS2.out hX.out hlt hbl
      obtain ⟨a, hXa, hal, c0, c1, hL⟩ := (hrec.ab hbr).at_ hlt
      have hval := (HS2.out.1 k (by rw [recs_length]; exact hlt)).1
      rw [recs_get xs k hlt] at hval
      have HV := Lib.hid hval
      have HX2 := Lib.hid (show xs.take (k + 1) = xs.take k ++ [xs[k]] from List.take_succ_eq_append_getElem hlt)
      subst hXa
      generalize xs[k] = x at *
      have hYL : ∀ y ∈ ys, Laid w3 w2.heap.size y.x := fun y hy => by
        have h1 : y.x ∈ xs.take k := by rw [← hX.out]; exact List.mem_map_of_mem hy
        have h2 := List.mem_of_mem_take h1
        obtain ⟨i, hi, he⟩ := List.mem_iff_getElem.1 h2
        obtain ⟨_, _, _, _, _, l⟩ := hrec.at_ hi
        rw [he] at l
        exact l
      have HYL := Lib.hid hYL
      have hyk1 := Nat.le_of_eq hyk
      obtain ⟨v, hv⟩ : ∃ v, (Frame.all (erecs ys)).length = v := ⟨_, rfl⟩
      have HV2 := Lib.hid hv.symm
      rw [hv] at hroom
      have zr := hbr.size
      have hsum : IntKind.i64.wrap ((v : Int) + (12 + (x.b.length : Int))) = ((v + (12 + x.b.length) : Nat) : Int) := by rw [IntWalk.i64_in _ (by omega)]; omega
      have hki : (k : Int) < (xs.length : Int) := by omega
      have hk0 : (0 : Int) ≤ (k : Int) := by omega
      clear hval hYL hyk hv
      go_wp2_with fail
      refine (fsize_any x.num x.A x.b x.c _).mono ?_
      rintro e w4 ⟨n4, er4, h4, rfl, hb4⟩
      obtain ⟨rfl, rfl⟩ := SizeE.unique h4.out (show SizeE ⟨x.num, x.b⟩ (12 + (x.b.length : Int)) 0 from .inl ⟨HV.out, rfl, rfl⟩)
      clear h4
      have hfar : ∀ a, E = some a → a.block ≠ wr.heap.size := fun a ha => by have := (OV.rng hO a ha).2; omega
      have xq0 := hb4.at (p := ⟨wr.heap.size, 0, none⟩) (v := .int .i64 x.num) (by simp [go_sem])
      have xq1 := hb4.at (p := ⟨wr.heap.size, 1, none⟩) (v := .slice x.A x.b.length x.c) (by simp [go_sem])
      have hbx : Ab wr w4 := abA
      have hb5 : Ab w3 w4 := hbr.trans hbx
      have hO4 := hO.ab hbx
      have hE4 : Ents w4 w.heap.size E ys := hO4.ents (fun y hy => ((HYL.out y hy).ab hb5).mono hlo) (by omega)
      have z4 := hb4.size
      simp at z4
      clear hb4 hO
      go_wp2_with fail
      refine wp_region_held_drew (by kernel_rfl) (S := fun w' => w'.cell? ⟨wr.heap.size, 0, none⟩ = some (.int .i64 x.num) ∧ w'.cell? ⟨wr.heap.size, 1, none⟩ = some (.slice x.A x.b.length x.c)) ?_ (fun hHeld => ?_)
      · exact ⟨ckA, ckA⟩
      (refine rtA 0 ?_ ?_
       (try simp only [Act.put, stA, st0, st1]))
      (refine rtA 1 ?_ ?_
       (try simp only [Act.put, stA, st0, st1]))
      (refine rtA 2 ?_ ?_
       (try simp only [Act.put, stA, st0, st1]))
      (refine rtA 4 ?_ ?_
       (try simp only [Act.put, stA, st0, st1]))
      refine r1A 3 (fun K hK => ?_)
      (go_simp
       ((go_at_call 108)
        refine (endOf_any E d v ys _ ((hE4.ab abA).mono (Nat.zero_le _)) hE.out (by omega) HV2.out).mono ?_
        rintro e w5 ⟨rfl, rfl⟩)
       (try go_wp2_with fail)
       (refine hK.out _ _ ?_ (fun hHeld => ?_)
        · (try dsimp only); exact ⟨ckA, ckA⟩
        clear hK K
        (try simp only [Act.put, stA, st0, st1])))
      (refine rtA 5 ?_ ?_
       (try simp only [Act.put, stA, st0, st1]))
      (refine rtA 6 ?_ ?_
       (try simp only [Act.put, stA, st0, st1]))
      refine r1A 7 (fun K hK => ?_)
      (go_simp
       (refine hK.out _ _ ?_ (fun hHeld => ?_)
        · (try dsimp only); exact ⟨ckA, ckA⟩
        clear hK K
        (try simp only [Act.put, stA, st0, st1])))
      refine r1A 8 (fun K hK => ?_)
      ((refine stepAppE (y := ⟨x, v + (12 + x.b.length)⟩) (by rfl) _ _ (by rfl) (by rfl) (by rfl) (hO4.ab abA) (Ab.size (show Ab w3 _ from abA)) (by repeat (first | exact new_plain wnA | exact new_drewN wnA | exact new_drew wnA | with_reducible refine old_alloc ?_ | with_reducible refine old_drew ?_ | with_reducible refine old_drewN ?_ _ | with_reducible refine old_ab (by assumption) ?_)) (by omega) ?_
        intro E6 d6 w6 zs hzs hO6 g6 f6
        have b6 := f6 w3 abA (Nat.le_refl _)
        clear f6)
       (refine hK.out _ _ ?_ (fun hHeld => ?_)
        · (try dsimp only); exact ⟨grown_cell g6 ckA hfar, grown_cell g6 ckA hfar⟩
        clear hK K
        (try simp only [Act.put, stA, st0, st1])))
      refine r1A 9 (fun K hK => ?_)
      (go_simp
       (refine hK.out _ _ ?_ (fun hHeld => ?_)
        · (try dsimp only); exact hHeld
        clear hK K
        (try simp only [Act.put, stA, st0, st1])))
      refine wpAnyH_done (by kernel_rfl) ?_ _
      clear hsum
      go_wp2
      go_roundw
      case rel =>
        refine ⟨k + 1, E6, d6, zs, by omega, by go_num, rfl, Lib.hid ?_, Lib.hid ?_, ?_, hO6, abA⟩
        · rw [hzs.out, HX2.out, ← hX.out]; unfold xsOf; rw [List.map_append]; rfl
        · rw [hzs.out]; exact ends_snoc hE.out (by have := HV2.out; simp only; omega)
        · have := congrArg List.length hzs.out; simp at this; omega
      case measure => simp [intOf]; omega
    · obtain rfl : k = xs.length := by omega
      go_wp2
      go_ret
      refine ⟨E, d, ys, un, Lib.hid ?_, hE, rfl, ?_, hO.le, b3.trans hbr⟩
      · have h1 := hX.out
        rw [List.take_length] at h1
        rw [← HB.out]
        unfold erecs
        rw [h1]; exact HS2.out
      · refine hO.ents (fun y hy => ?_) zw
        have h1 : y.x ∈ xs := by
          have h2 := hX.out
          rw [List.take_length] at h2
          rw [← h2]; exact List.mem_map_of_mem hy
        obtain ⟨i, hi, he⟩ := List.mem_iff_getElem.1 h1
        obtain ⟨_, _, _, _, _, l⟩ := hrec.at_ hi
        rw [he] at l
        exact (l.ab hbr).mono hlo
end Go.Proofs.YthgcfjhnnhigoaaGreat

/- numbered and read of package wal, walked. Own work. -/
namespace Go.Proofs.YthgcfjhnnhigoaaGreat
open Go.RowKit

def fitsB (rs : List Frame.Rec) (f n : Int) : Bool := @decide (Wal.Fits rs f n) (by unfold Wal.Fits; infer_instance)
theorem fitsB_true {rs : List Frame.Rec} {f n : Int} : fitsB rs f n = true ↔ Wal.Fits rs f n := by unfold fitsB; simp
theorem fitsB_false {rs : List Frame.Rec} {f n : Int} : fitsB rs f n = false ↔ ¬ Wal.Fits rs f n := by rw [← fitsB_true]; simp
theorem fits_nil {f n : Int} : Wal.Fits [] f n ↔ (f = n ∧ 0 ≤ f ∧ f ≤ 1000000001) := by unfold Wal.Fits; simp; omega
theorem fits_some {rs : List Frame.Rec} {f n : Int} (hF : Frame.Foll rs) (h : 0 < rs.length) : Wal.Fits rs f n ↔ (f = Wal.base rs ∧ n = Wal.base rs + rs.length) := by
  have := Wal.base_rng hF h
  unfold Wal.Fits; omega

theorem numbered_nil (A B : Option Addr) (ca cb : Nat) (s t : List UInt8) (cap : Int) (dn : Bool) (f n : Int) (w : World) (E : Option Addr) (d : Nat) :
    Calls Tryz.prog 129 #[.agg #[.slice A s.length ca, .slice B t.length cb, .int .i64 cap, .bool dn, .int .i64 f, .int .i64 n, .slice E 0 d]] w fun e w' => e = .returned (.bool (fitsB [] f n)) ∧ Ab w w' := by
  by_cases h1 : f = n
  · subst h1
    by_cases h2 : 0 ≤ f
    · by_cases h3 : f ≤ 1000000001
      · have hv := Lib.hid (show fitsB [] f f = true from fitsB_true.2 (fits_nil.2 ⟨rfl, h2, h3⟩))
        go_enter Tryz.func129, Tryz.ntmps129
        go_wp2
        go_ret
        exact ⟨ret_bool (by first | (rw [hv.out]; done) | (rw [hv.out]; simp; done) | (rw [hv.out]; simp; omega)), abA⟩
      · have hv := Lib.hid (show fitsB [] f f = false from fitsB_false.2 (fun h => h3 (fits_nil.1 h).2.2))
        go_enter Tryz.func129, Tryz.ntmps129
        go_wp2
        go_ret
        exact ⟨ret_bool (by first | (rw [hv.out]; done) | (rw [hv.out]; simp; done) | (rw [hv.out]; simp; omega)), abA⟩
    · have hv := Lib.hid (show fitsB [] f f = false from fitsB_false.2 (fun h => h2 (fits_nil.1 h).2.1))
      go_enter Tryz.func129, Tryz.ntmps129
      go_wp2
      go_ret
      exact ⟨ret_bool (by first | (rw [hv.out]; done) | (rw [hv.out]; simp; done) | (rw [hv.out]; simp; omega)), abA⟩
  · have hv := Lib.hid (show fitsB [] f n = false from fitsB_false.2 (fun h => h1 (fits_nil.1 h).1))
    have hq : (f == n) = false := by simpa using h1
    have HQ := Lib.hid h1
    clear h1
    go_enter Tryz.func129, Tryz.ntmps129
    go_wp2
    go_ret
    exact ⟨ret_bool (by first | (rw [hv.out]; done) | (rw [hv.out]; simp; done) | (rw [hv.out]; simp; omega)), abA⟩

set_option maxHeartbeats 800000 in
theorem numbered_some (A B : Option Addr) (ca cb : Nat) (s t : List UInt8) (cap : Int) (dn : Bool) (f n : Int) (w : World) (E : Option Addr) (d : Nat) (ys : List EntM) (hE : Ents w 0 E ys) (hF : Frame.Foll (erecs ys)) (h0 : 0 < ys.length) (hn : ys.length ≤ 20000) :
    Calls Tryz.prog 129 #[.agg #[.slice A s.length ca, .slice B t.length cb, .int .i64 cap, .bool dn, .int .i64 f, .int .i64 n, .slice E ys.length d]] w fun e w' => e = .returned (.bool (fitsB (erecs ys) f n)) ∧ Ab w w' := by
  have hfs := fits_some (f := f) (n := n) hF (by rw [erecs_length]; exact h0)
  rw [erecs_length] at hfs
  obtain ⟨a, rfl, c0⟩ := first_num E 0 ys w hE hF h0
  have c0' : w.cell? a = some (.int .i64 (Wal.base (erecs ys))) := c0
  have hB := Lib.hid (fun (m : Int) (hm : m = Wal.base (erecs ys) + ys.length) (w' : World) (hb : Ab w w') => behind_any (some a) d ys m w' (hE.ab hb) hF h0 (by omega) hm)
  have hi0 : (0 : Int) < (ys.length : Int) := by omega
  generalize hr : erecs ys = rs at *
  generalize hbase : Wal.base rs = bs at *
  obtain ⟨m, hm⟩ : ∃ m : Int, m = bs + ys.length := ⟨_, rfl⟩
  rw [← hm] at hfs
  have HM := Lib.hid hm
  clear c0 hr hbase hm hF hE
  by_cases h1 : f = bs
  · by_cases h2 : n = m
    · have hv := Lib.hid (show fitsB rs f n = true from fitsB_true.2 (hfs.2 ⟨h1, h2⟩))
      subst h1
      subst h2
      clear hfs
      go_enter Tryz.func129, Tryz.ntmps129
      go_wp2
      have hcell : (w.alloc (.cells #[.slice A s.length ca, .slice B t.length cb, .int .i64 cap, .bool dn, .int .i64 f, .int .i64 n, .slice (some a) ys.length d] 165)).cell? a = some (.int .i64 f) := cell_alloc c0'
      go_quiet ((go_at_call 106
                 exact Calls.quiet_of_same ((hB.out n HM.out _ abA).mono fun _ _ h => ⟨h.1, h.2.symm⟩)))
      go_wp2
      go_ret
      exact ⟨ret_bool (by first | (rw [hv.out]; done) | (rw [hv.out]; simp; done)), abA⟩
    · have hv := Lib.hid (show fitsB rs f n = false from fitsB_false.2 (fun h => h2 (hfs.1 h).2))
      have hq : (n == m) = false := by simpa using h2
      subst h1
      clear hfs h2
      go_enter Tryz.func129, Tryz.ntmps129
      go_wp2
      have hcell : (w.alloc (.cells #[.slice A s.length ca, .slice B t.length cb, .int .i64 cap, .bool dn, .int .i64 f, .int .i64 n, .slice (some a) ys.length d] 165)).cell? a = some (.int .i64 f) := cell_alloc c0'
      go_quiet ((go_at_call 106
                 exact Calls.quiet_of_same ((hB.out m HM.out _ abA).mono fun _ _ h => ⟨h.1, h.2.symm⟩)))
      go_wp2
      go_ret
      exact ⟨ret_bool (by first | (rw [hv.out]; done) | (rw [hv.out]; simp; done)), abA⟩
  · have hv := Lib.hid (show fitsB rs f n = false from fitsB_false.2 (fun h => h1 (hfs.1 h).1))
    have hq : (f == bs) = false := by simpa using h1
    clear hfs h1
    go_enter Tryz.func129, Tryz.ntmps129
    go_wp2
    have hcell : (w.alloc (.cells #[.slice A s.length ca, .slice B t.length cb, .int .i64 cap, .bool dn, .int .i64 f, .int .i64 n, .slice (some a) ys.length d] 165)).cell? a = some (.int .i64 bs) := cell_alloc c0'
    go_quiet (fail)
    go_wp2
    go_ret
    exact ⟨ret_bool (by first | (rw [hv.out]; done) | (rw [hv.out]; simp; done)), abA⟩
theorem numbered_any (A B : Option Addr) (ca cb : Nat) (s t : List UInt8) (cap : Int) (dn : Bool) (f n : Int) (w : World) (E : Option Addr) (d : Nat) (ys : List EntM) (hE : Ents w 0 E ys) (hF : Frame.Foll (erecs ys)) (hn : ys.length ≤ 20000) (b : Bool) (hb : fitsB (erecs ys) f n = b) :
    Calls Tryz.prog 129 #[.agg #[.slice A s.length ca, .slice B t.length cb, .int .i64 cap, .bool dn, .int .i64 f, .int .i64 n, .slice E ys.length d]] w fun e w' => e = .returned (.bool b) ∧ Ab w w' := by
  subst hb
  rcases Nat.eq_zero_or_pos ys.length with h0 | h0
  · have : ys = [] := List.eq_nil_of_length_eq_zero h0
    subst this
    exact numbered_nil A B ca cb s t cap dn f n w E d
  · exact numbered_some A B ca cb s t cap dn f n w E d ys hE hF h0 hn

/-- It returns the log with its records. -/
def GotLog (w : World) (A B : Option Addr) (ca cb : Nat) (s t : List UInt8) (cap f n : Int) (rs : List Frame.Rec) (e : Ending) (w' : World) : Prop :=
  ∃ (E : Option Addr) (d : Nat) (ys : List EntM), Hid (erecs ys = rs) ∧ Hid (Ends ys) ∧ e = .returned (.tuple #[.agg #[.slice A s.length ca, .slice B t.length cb, .int .i64 cap, .bool false, .int .i64 f, .int .i64 n, .slice E ys.length d], .int .i64 0]) ∧ Ents w' w.heap.size E ys ∧ ys.length ≤ d ∧ ys.length ≤ 20000 ∧ Ab w w'

set_option maxHeartbeats 1600000 in
theorem read_up_bad (A B : Option Addr) (ca cb : Nat) (s t : List UInt8) (cap : Int) (dn : Bool) (f n : Int) (w : World) (hs : RB w 0 A s) (ht : RB w 0 B t) (hca : s.length ≤ ca) (hcb : t.length ≤ cb) (ls : s.length ≤ 1000000) (lt : t.length ≤ 1000000) (hu : Disk.up ⟨s, t, cap, dn⟩ ≠ 0) :
    Calls Tryz.prog 110 #[.agg #[.slice A s.length ca, .slice B t.length cb, .int .i64 cap, .bool dn, .int .i64 f, .int .i64 n]] w fun e w' => e = .returned (.tuple #[.agg #[.slice none 0 0, .slice none 0 0, .int .i64 0, .bool false, .int .i64 0, .int .i64 0, .slice none 0 0], .int .i64 8]) ∧ Ab w w' := by
  by_cases hb : Disk.bad ⟨s, t, cap, dn⟩
  · have HS := Lib.hid (show Disk.size ⟨s, t, cap, dn⟩ = (0, 8) from if_pos hb)
    clear hb hu
    go_enter Tryz.func110, Tryz.ntmps110
    go_wp2_with fail
    refine (size_any A B ca cb s t cap dn _ (by omega) (by omega)).mono ?_
    rintro e w1 ⟨r, er, hr, rfl, hb1⟩
    obtain ⟨rfl, rfl⟩ := Prod.mk.inj (hr.out.trans HS.out)
    clear hr
    have zq0 := hb1.at (p := ⟨w.heap.size + 1, 0, none⟩) (v := .slice none 0 0) (by simp [go_sem]); have zq1 := hb1.at (p := ⟨w.heap.size + 1, 1, none⟩) (v := .slice none 0 0) (by simp [go_sem]); have zq2 := hb1.at (p := ⟨w.heap.size + 1, 2, none⟩) (v := .int .i64 0) (by simp [go_sem]); have zq3 := hb1.at (p := ⟨w.heap.size + 1, 3, none⟩) (v := .bool false) (by simp [go_sem]); have zq4 := hb1.at (p := ⟨w.heap.size + 1, 4, none⟩) (v := .int .i64 0) (by simp [go_sem]); have zq5 := hb1.at (p := ⟨w.heap.size + 1, 5, none⟩) (v := .int .i64 0) (by simp [go_sem]); have zq6 := hb1.at (p := ⟨w.heap.size + 1, 6, none⟩) (v := .slice none 0 0) (by simp [go_sem])
    have zr0 : w1.frozen? ⟨w.heap.size + 1, 0, none⟩ = false := (hb1.frozen (p := ⟨w.heap.size + 1, 0, none⟩) (by simp)).trans (by simp [go_sem]); have zr1 : w1.frozen? ⟨w.heap.size + 1, 1, none⟩ = false := (hb1.frozen (p := ⟨w.heap.size + 1, 1, none⟩) (by simp)).trans (by simp [go_sem]); have zr2 : w1.frozen? ⟨w.heap.size + 1, 2, none⟩ = false := (hb1.frozen (p := ⟨w.heap.size + 1, 2, none⟩) (by simp)).trans (by simp [go_sem]); have zr3 : w1.frozen? ⟨w.heap.size + 1, 3, none⟩ = false := (hb1.frozen (p := ⟨w.heap.size + 1, 3, none⟩) (by simp)).trans (by simp [go_sem]); have zr4 : w1.frozen? ⟨w.heap.size + 1, 4, none⟩ = false := (hb1.frozen (p := ⟨w.heap.size + 1, 4, none⟩) (by simp)).trans (by simp [go_sem]); have zr5 : w1.frozen? ⟨w.heap.size + 1, 5, none⟩ = false := (hb1.frozen (p := ⟨w.heap.size + 1, 5, none⟩) (by simp)).trans (by simp [go_sem]); have zr6 : w1.frozen? ⟨w.heap.size + 1, 6, none⟩ = false := (hb1.frozen (p := ⟨w.heap.size + 1, 6, none⟩) (by simp)).trans (by simp [go_sem])
    go_wp2
    refine bodyPost_ret (v := .tuple #[.agg #[.slice none 0 0, .slice none 0 0, .int .i64 0, .bool false, .int .i64 0, .int .i64 0, .slice none 0 0], .int .i64 8]) (by simp [results, Tryz.results110, go_sem, zq0, zq1, zq2, zq3, zq4, zq5, zq6]) rfl ?_
    exact ⟨rfl, abA⟩
  · obtain rfl : dn = true := by
      cases dn with
      | true => rfl
      | false => exact absurd (Disk.up_ok hb rfl) hu
    obtain ⟨N, hN⟩ : ∃ N : Nat, s.length + t.length = N := ⟨_, rfl⟩
    have HS := Lib.hid (show Disk.size ⟨s, t, cap, true⟩ = ((N : Int), 0) by rw [← hN]; exact if_neg hb)
    clear hb hu hN
    go_enter Tryz.func110, Tryz.ntmps110
    go_wp2_with fail
    refine (size_any A B ca cb s t cap true _ (by omega) (by omega)).mono ?_
    rintro e w1 ⟨r, er, hr, rfl, hb1⟩
    obtain ⟨rfl, rfl⟩ := Prod.mk.inj (hr.out.trans HS.out)
    clear hr
    have zq0 := hb1.at (p := ⟨w.heap.size + 1, 0, none⟩) (v := .slice none 0 0) (by simp [go_sem]); have zq1 := hb1.at (p := ⟨w.heap.size + 1, 1, none⟩) (v := .slice none 0 0) (by simp [go_sem]); have zq2 := hb1.at (p := ⟨w.heap.size + 1, 2, none⟩) (v := .int .i64 0) (by simp [go_sem]); have zq3 := hb1.at (p := ⟨w.heap.size + 1, 3, none⟩) (v := .bool false) (by simp [go_sem]); have zq4 := hb1.at (p := ⟨w.heap.size + 1, 4, none⟩) (v := .int .i64 0) (by simp [go_sem]); have zq5 := hb1.at (p := ⟨w.heap.size + 1, 5, none⟩) (v := .int .i64 0) (by simp [go_sem]); have zq6 := hb1.at (p := ⟨w.heap.size + 1, 6, none⟩) (v := .slice none 0 0) (by simp [go_sem])
    have zr0 : w1.frozen? ⟨w.heap.size + 1, 0, none⟩ = false := (hb1.frozen (p := ⟨w.heap.size + 1, 0, none⟩) (by simp)).trans (by simp [go_sem]); have zr1 : w1.frozen? ⟨w.heap.size + 1, 1, none⟩ = false := (hb1.frozen (p := ⟨w.heap.size + 1, 1, none⟩) (by simp)).trans (by simp [go_sem]); have zr2 : w1.frozen? ⟨w.heap.size + 1, 2, none⟩ = false := (hb1.frozen (p := ⟨w.heap.size + 1, 2, none⟩) (by simp)).trans (by simp [go_sem]); have zr3 : w1.frozen? ⟨w.heap.size + 1, 3, none⟩ = false := (hb1.frozen (p := ⟨w.heap.size + 1, 3, none⟩) (by simp)).trans (by simp [go_sem]); have zr4 : w1.frozen? ⟨w.heap.size + 1, 4, none⟩ = false := (hb1.frozen (p := ⟨w.heap.size + 1, 4, none⟩) (by simp)).trans (by simp [go_sem]); have zr5 : w1.frozen? ⟨w.heap.size + 1, 5, none⟩ = false := (hb1.frozen (p := ⟨w.heap.size + 1, 5, none⟩) (by simp)).trans (by simp [go_sem]); have zr6 : w1.frozen? ⟨w.heap.size + 1, 6, none⟩ = false := (hb1.frozen (p := ⟨w.heap.size + 1, 6, none⟩) (by simp)).trans (by simp [go_sem])
    obtain ⟨bq0, bq1, bq2, bq3, bq4, bq5⟩ := cells6 hb1 (b := w.heap.size) (v0 := .slice A s.length ca) (v1 := .slice B t.length cb) (v2 := .int .i64 cap) (v3 := .bool true) (v4 := .int .i64 f) (v5 := .int .i64 n) (by first | (simp [go_sem]; done) | (refine ⟨?_, ?_, ?_, ?_, ?_, ?_⟩ <;> assumption))
    go_wp2
    refine bodyPost_ret (v := .tuple #[.agg #[.slice none 0 0, .slice none 0 0, .int .i64 0, .bool false, .int .i64 0, .int .i64 0, .slice none 0 0], .int .i64 8]) (by simp [results, Tryz.results110, go_sem, zq0, zq1, zq2, zq3, zq4, zq5, zq6]) rfl ?_
    exact ⟨rfl, abA⟩

/-- The log with its entries lies at P, beside the result's zero cells. -/
def RdCut (w : World) (A B : Option Addr) (ca cb : Nat) (s t : List UInt8) (cap f n : Int) (v : Value) (wx : World) : Prop :=
  ∃ (P : Nat) (E : Option Addr) (d : Nat) (ys : List EntM) (u : Nat), v = .pointer (some ⟨P, 0, none⟩) ∧ wx.cell? ⟨P, 0, none⟩ = some (.slice A s.length ca) ∧ wx.cell? ⟨P, 1, none⟩ = some (.slice B t.length cb) ∧
    wx.cell? ⟨P, 2, none⟩ = some (.int .i64 cap) ∧ wx.cell? ⟨P, 3, none⟩ = some (.bool false) ∧ wx.cell? ⟨P, 4, none⟩ = some (.int .i64 f) ∧ wx.cell? ⟨P, 5, none⟩ = some (.int .i64 n) ∧ wx.cell? ⟨P, 6, none⟩ = some (.slice E ys.length d) ∧
    Hid (Frame.IsScan (s ++ t) (erecs ys) u) ∧ Hid (Ends ys) ∧ Ents wx (w.heap.size + 1 + 1) E ys ∧ ys.length ≤ d ∧ w.heap.size + 1 < P ∧ Ab ((w.alloc (.cells #[.slice A s.length ca, .slice B t.length cb, .int .i64 cap, .bool false, .int .i64 f, .int .i64 n] 29)).alloc (.cells #[.slice none 0 0, .slice none 0 0, .int .i64 0, .bool false, .int .i64 0, .int .i64 0, .slice none 0 0] 165)) wx

set_option maxHeartbeats 3200000 in
theorem read_up_no (A B : Option Addr) (ca cb : Nat) (s t : List UInt8) (cap f n : Int) (w : World) (hs : RB w 0 A s) (ht : RB w 0 B t) (hca : s.length ≤ ca) (hcb : t.length ≤ cb) (hu : Disk.up ⟨s, t, cap, false⟩ = 0) (rs : List Frame.Rec) (u : Nat) (hsc : Frame.IsScan (s ++ t) rs u) (hno : u ≠ s.length + t.length ∨ ¬ Wal.Fits rs f n) :
    Calls Tryz.prog 110 #[.agg #[.slice A s.length ca, .slice B t.length cb, .int .i64 cap, .bool false, .int .i64 f, .int .i64 n]] w fun e w' => e = .returned (.tuple #[.agg #[.slice none 0 0, .slice none 0 0, .int .i64 0, .bool false, .int .i64 0, .int .i64 0, .slice none 0 0], .int .i64 8]) ∧ Ab w w' := by
  have hnb := (Disk.up_zero hu).1
  have hsz := Disk.size_le hnb
  simp only [Disk.Dev.size] at hsz
  obtain ⟨N, hN⟩ : ∃ N : Nat, s.length + t.length = N := ⟨_, rfl⟩
  have hbl : (s ++ t).length ≤ 20000 := by rw [List.length_append]; omega
  have hle := Frame.scan_le hsc
  rw [List.length_append, hN] at hle
  rw [hN] at hno
  have ls : s.length ≤ 20000 := by omega
  have lt : t.length ≤ 20000 := by omega
  have HS := Lib.hid (show Disk.size ⟨s, t, cap, false⟩ = ((N : Int), 0) by rw [← hN]; exact if_neg hnb)
  have HU := Lib.hid hu
  have HSC := Lib.hid hsc
  have HNO := Lib.hid hno
  clear hno hnb hsz hN hu hsc
  by_cases huN : u < N
  · have hlt : decide ((u : Int) < (N : Int)) = true := by simpa using huN
    go_enter Tryz.func110, Tryz.ntmps110
    go_wp2_with fail
    refine (size_any A B ca cb s t cap false _ (by omega) (by omega)).mono ?_
    rintro e w1 ⟨r, er, hr, rfl, hb1⟩
    obtain ⟨rfl, rfl⟩ := Prod.mk.inj (hr.out.trans HS.out)
    clear hr
    have z1 := hb1.size
    (try simp at z1)
    obtain ⟨bq0, bq1, bq2, bq3, bq4, bq5⟩ := cells6 hb1 (b := w.heap.size) (v0 := .slice A s.length ca) (v1 := .slice B t.length cb) (v2 := .int .i64 cap) (v3 := .bool false) (v4 := .int .i64 f) (v5 := .int .i64 n) (by first | (simp [go_sem]; done) | (refine ⟨?_, ?_, ?_, ?_, ?_, ?_⟩ <;> assumption))
    go_upto_region 4 with fail
    go_cut [6] (fun s6 wx => RdCut w A B ca cb s t cap f n s6 wx)
    case first =>
      refine wp_region_held_drew (by kernel_rfl) (S := fun w' => w'.cell? ⟨w.heap.size, 0, none⟩ = some (.slice A s.length ca) ∧ w'.cell? ⟨w.heap.size, 1, none⟩ = some (.slice B t.length cb) ∧ w'.cell? ⟨w.heap.size, 2, none⟩ = some (.int .i64 cap) ∧ w'.cell? ⟨w.heap.size, 3, none⟩ = some (.bool false) ∧ w'.cell? ⟨w.heap.size, 4, none⟩ = some (.int .i64 f) ∧ w'.cell? ⟨w.heap.size, 5, none⟩ = some (.int .i64 n)) ?_ (fun hHeld => ?_)
      · (refine ⟨?_, ?_, ?_, ?_, ?_, ?_⟩ <;> (exact ckA))
      (refine rtA 0 ?_ ?_
       (try simp only [Act.put, stA, st0, st1]))
      (refine rtA 1 ?_ ?_
       (try simp only [Act.put, stA, st0, st1]))
      (refine rtA 2 ?_ ?_
       (try simp only [Act.put, stA, st0, st1]))
      (refine wpAnyH_ready (rs := [3, 5]) (by kernel_rfl) (by simp) ?_)
      refine AllReadyH.cons rfl (fun K hK => ?_) (AllReadyH.cons rfl (fun K hK => ?_) AllReadyH.nil)
      · (go_simp
         ((go_at_call 105)
          refine (wscan_any A B ca cb s t cap _ (hs.ab abA) (ht.ab abA) hca hcb HU.out).mono ?_
          rintro e w2 ⟨E, d, ys, u2, hS2, hE2, rfl, hEn, hd, hb2⟩
          have z2 := hb2.size
          (try simp at z2))
         (try go_wp2_with fail)
         (refine hK.out _ _ ?_ (fun hHeld => ?_)
          · (try dsimp only); (refine ⟨?_, ?_, ?_, ?_, ?_, ?_⟩ <;> (exact ckA))
          clear hK K
          (try simp only [Act.put, stA, st0, st1])))
        (refine rtA 4 ?_ ?_
         (try simp only [Act.put, stA, st0, st1]))
        refine r1A 5 (fun K hK => ?_)
        (go_simp
         (refine hK.out _ _ ?_ (fun hHeld => ?_)
          · (try dsimp only); (refine ⟨?_, ?_, ?_, ?_, ?_, ?_⟩ <;> (exact ckA))
          clear hK K
          (try simp only [Act.put, stA, st0, st1])))
        refine r1A 6 (fun K hK => ?_)
        (go_simp
         (refine hK.out _ _ ?_ (fun hHeld => ?_)
          · (try dsimp only); (refine ⟨?_, ?_, ?_, ?_, ?_, ?_⟩ <;> (exact ckA))
          clear hK K
          (try simp only [Act.put, stA, st0, st1])))
        refine wpAnyH_done (by kernel_rfl) ?_ _
        have hz : Ab ((w.alloc (.cells #[.slice A s.length ca, .slice B t.length cb, .int .i64 cap, .bool false, .int .i64 f, .int .i64 n] 29)).alloc (.cells #[.slice none 0 0, .slice none 0 0, .int .i64 0, .bool false, .int .i64 0, .int .i64 0, .slice none 0 0] 165)) w2 := abA
        have hEZ : Ents w2 (w.heap.size + 1 + 1) E ys := hEn.mono wnA
        go_wp2_with fail
        go_meet
        exact ⟨_, E, d, ys, u2, rfl, (by first | (simp [go_sem]; done) | (simp [go_sem, *]; done)), (by first | (simp [go_sem]; done) | (simp [go_sem, *]; done)), (by first | (simp [go_sem]; done) | (simp [go_sem, *]; done)), (by first | (simp [go_sem]; done) | (simp [go_sem, *]; done)), (by first | (simp [go_sem]; done) | (simp [go_sem, *]; done)), (by first | (simp [go_sem]; done) | (simp [go_sem, *]; done)), (by first | (simp [go_sem]; done) | (simp [go_sem, *]; done)), hS2, hE2, hEZ.ab abA, hd, by omega, abA⟩
      · (go_simp
         (refine hK.out _ _ ?_ (fun hHeld => ?_)
          · (try dsimp only); (refine ⟨?_, ?_, ?_, ?_, ?_, ?_⟩ <;> (exact ckA))
          clear hK K
          (try simp only [Act.put, stA, st0, st1])))
        refine r1A 3 (fun K hK => ?_)
        (go_simp
         ((go_at_call 105)
          refine (wscan_any A B ca cb s t cap _ (hs.ab abA) (ht.ab abA) hca hcb HU.out).mono ?_
          rintro e w2 ⟨E, d, ys, u2, hS2, hE2, rfl, hEn, hd, hb2⟩
          have z2 := hb2.size
          (try simp at z2)
          have yq0 := hb2.at (p := ⟨w1.heap.size, 0, none⟩) (v := .slice none 0 0) (by simp [go_sem]); have yq1 := hb2.at (p := ⟨w1.heap.size, 1, none⟩) (v := .slice none 0 0) (by simp [go_sem]); have yq2 := hb2.at (p := ⟨w1.heap.size, 2, none⟩) (v := .int .i64 0) (by simp [go_sem]); have yq3 := hb2.at (p := ⟨w1.heap.size, 3, none⟩) (v := .bool false) (by simp [go_sem]); have yq4 := hb2.at (p := ⟨w1.heap.size, 4, none⟩) (v := .int .i64 0) (by simp [go_sem]); have yq5 := hb2.at (p := ⟨w1.heap.size, 5, none⟩) (v := .int .i64 0) (by simp [go_sem]); have yq6 := hb2.at (p := ⟨w1.heap.size, 6, none⟩) (v := .slice none 0 0) (by simp [go_sem])
          have yr0 : w2.frozen? ⟨w1.heap.size, 0, none⟩ = false := (hb2.frozen (p := ⟨w1.heap.size, 0, none⟩) (by simp)).trans (by simp [go_sem]); have yr1 : w2.frozen? ⟨w1.heap.size, 1, none⟩ = false := (hb2.frozen (p := ⟨w1.heap.size, 1, none⟩) (by simp)).trans (by simp [go_sem]); have yr2 : w2.frozen? ⟨w1.heap.size, 2, none⟩ = false := (hb2.frozen (p := ⟨w1.heap.size, 2, none⟩) (by simp)).trans (by simp [go_sem]); have yr3 : w2.frozen? ⟨w1.heap.size, 3, none⟩ = false := (hb2.frozen (p := ⟨w1.heap.size, 3, none⟩) (by simp)).trans (by simp [go_sem]); have yr4 : w2.frozen? ⟨w1.heap.size, 4, none⟩ = false := (hb2.frozen (p := ⟨w1.heap.size, 4, none⟩) (by simp)).trans (by simp [go_sem]); have yr5 : w2.frozen? ⟨w1.heap.size, 5, none⟩ = false := (hb2.frozen (p := ⟨w1.heap.size, 5, none⟩) (by simp)).trans (by simp [go_sem]); have yr6 : w2.frozen? ⟨w1.heap.size, 6, none⟩ = false := (hb2.frozen (p := ⟨w1.heap.size, 6, none⟩) (by simp)).trans (by simp [go_sem]))
         (try go_wp2_with fail)
         (refine hK.out _ _ ?_ (fun hHeld => ?_)
          · (try dsimp only); (refine ⟨?_, ?_, ?_, ?_, ?_, ?_⟩ <;> (exact ckA))
          clear hK K
          (try simp only [Act.put, stA, st0, st1])))
        (refine rtA 4 ?_ ?_
         (try simp only [Act.put, stA, st0, st1]))
        refine r1A 6 (fun K hK => ?_)
        (go_simp
         (refine hK.out _ _ ?_ (fun hHeld => ?_)
          · (try dsimp only); (refine ⟨?_, ?_, ?_, ?_, ?_, ?_⟩ <;> (exact ckA))
          clear hK K
          (try simp only [Act.put, stA, st0, st1])))
        refine wpAnyH_done (by kernel_rfl) ?_ _
        have hz : Ab ((w.alloc (.cells #[.slice A s.length ca, .slice B t.length cb, .int .i64 cap, .bool false, .int .i64 f, .int .i64 n] 29)).alloc (.cells #[.slice none 0 0, .slice none 0 0, .int .i64 0, .bool false, .int .i64 0, .int .i64 0, .slice none 0 0] 165)) w2 := abA
        have hEB : Ents w2 (w1.heap.size + 1) E ys := hEn.mono (by simp)
        go_wp2_with fail
        go_meet
        exact ⟨_, E, d, ys, u2, rfl, (by first | (simp [go_sem]; done) | (simp [go_sem, *]; done)), (by first | (simp [go_sem]; done) | (simp [go_sem, *]; done)), (by first | (simp [go_sem]; done) | (simp [go_sem, *]; done)), (by first | (simp [go_sem]; done) | (simp [go_sem, *]; done)), (by first | (simp [go_sem]; done) | (simp [go_sem, *]; done)), (by first | (simp [go_sem]; done) | (simp [go_sem, *]; done)), (by first | (simp [go_sem]; done) | (simp [go_sem, *]; done)), hS2, hE2, Ents.mono (lo := w1.heap.size + 1) (by repeat (first | with_reducible exact hEB | with_reducible refine Ents.set ?_ wnA _)) wnA, hd, by omega, abA⟩
    obtain ⟨P, E, d, ys, u2, rfl, x0, x1, x2, x3, x4, x5, x6, hS2, hE2, hEn, hd, hPw, hbc⟩ := hcut
    have hyl : ys.length ≤ 20000 := Wal.scan_count hS2.out (erecs_length ys) hbl
    obtain ⟨h1, h2⟩ := Frame.scan_unique hS2.out HSC.out
    have h2 := h2.symm
    subst h2
    have HR := Lib.hid h1
    have HF := Lib.hid hS2.out.1
    have hEl := Lib.hid (show u = (Frame.all (erecs ys)).length from hS2.out.2.1)
    have zq0 := hbc.at (p := ⟨w.heap.size + 1, 0, none⟩) (v := .slice none 0 0) (by simp [go_sem]); have zq1 := hbc.at (p := ⟨w.heap.size + 1, 1, none⟩) (v := .slice none 0 0) (by simp [go_sem]); have zq2 := hbc.at (p := ⟨w.heap.size + 1, 2, none⟩) (v := .int .i64 0) (by simp [go_sem]); have zq3 := hbc.at (p := ⟨w.heap.size + 1, 3, none⟩) (v := .bool false) (by simp [go_sem]); have zq4 := hbc.at (p := ⟨w.heap.size + 1, 4, none⟩) (v := .int .i64 0) (by simp [go_sem]); have zq5 := hbc.at (p := ⟨w.heap.size + 1, 5, none⟩) (v := .int .i64 0) (by simp [go_sem]); have zq6 := hbc.at (p := ⟨w.heap.size + 1, 6, none⟩) (v := .slice none 0 0) (by simp [go_sem])
    have zr0 : wc.frozen? ⟨w.heap.size + 1, 0, none⟩ = false := (hbc.frozen (p := ⟨w.heap.size + 1, 0, none⟩) (by simp)).trans (by simp [go_sem]); have zr1 : wc.frozen? ⟨w.heap.size + 1, 1, none⟩ = false := (hbc.frozen (p := ⟨w.heap.size + 1, 1, none⟩) (by simp)).trans (by simp [go_sem]); have zr2 : wc.frozen? ⟨w.heap.size + 1, 2, none⟩ = false := (hbc.frozen (p := ⟨w.heap.size + 1, 2, none⟩) (by simp)).trans (by simp [go_sem]); have zr3 : wc.frozen? ⟨w.heap.size + 1, 3, none⟩ = false := (hbc.frozen (p := ⟨w.heap.size + 1, 3, none⟩) (by simp)).trans (by simp [go_sem]); have zr4 : wc.frozen? ⟨w.heap.size + 1, 4, none⟩ = false := (hbc.frozen (p := ⟨w.heap.size + 1, 4, none⟩) (by simp)).trans (by simp [go_sem]); have zr5 : wc.frozen? ⟨w.heap.size + 1, 5, none⟩ = false := (hbc.frozen (p := ⟨w.heap.size + 1, 5, none⟩) (by simp)).trans (by simp [go_sem]); have zr6 : wc.frozen? ⟨w.heap.size + 1, 6, none⟩ = false := (hbc.frozen (p := ⟨w.heap.size + 1, 6, none⟩) (by simp)).trans (by simp [go_sem])
    clear h1 hS2
    go_wp2_with fail
    refine (endOf_any E d u ys _ (hEn.ab abA |>.mono (Nat.zero_le _)) hE2.out (by omega) hEl.out).mono ?_
    rintro e w5 ⟨rfl, rfl⟩
    go_wp2
    refine bodyPost_ret (v := .tuple #[.agg #[.slice none 0 0, .slice none 0 0, .int .i64 0, .bool false, .int .i64 0, .int .i64 0, .slice none 0 0], .int .i64 8]) (by simp [results, Tryz.results110, go_sem, zq0, zq1, zq2, zq3, zq4, zq5, zq6]) rfl ?_
    exact ⟨rfl, abA⟩
  · obtain rfl : u = N := by omega
    have hv : fitsB rs f n = false := fitsB_false.2 (HNO.out.resolve_left (fun h => h rfl))
    have HV := Lib.hid hv
    have hlt : decide ((u : Int) < (u : Int)) = false := by simp
    clear hv huN
    go_enter Tryz.func110, Tryz.ntmps110
    go_wp2_with fail
    refine (size_any A B ca cb s t cap false _ (by omega) (by omega)).mono ?_
    rintro e w1 ⟨r, er, hr, rfl, hb1⟩
    obtain ⟨rfl, rfl⟩ := Prod.mk.inj (hr.out.trans HS.out)
    clear hr
    have z1 := hb1.size
    (try simp at z1)
    obtain ⟨bq0, bq1, bq2, bq3, bq4, bq5⟩ := cells6 hb1 (b := w.heap.size) (v0 := .slice A s.length ca) (v1 := .slice B t.length cb) (v2 := .int .i64 cap) (v3 := .bool false) (v4 := .int .i64 f) (v5 := .int .i64 n) (by first | (simp [go_sem]; done) | (refine ⟨?_, ?_, ?_, ?_, ?_, ?_⟩ <;> assumption))
    go_upto_region 4 with fail
    go_cut [6] (fun s6 wx => RdCut w A B ca cb s t cap f n s6 wx)
    case first =>
      refine wp_region_held_drew (by kernel_rfl) (S := fun w' => w'.cell? ⟨w.heap.size, 0, none⟩ = some (.slice A s.length ca) ∧ w'.cell? ⟨w.heap.size, 1, none⟩ = some (.slice B t.length cb) ∧ w'.cell? ⟨w.heap.size, 2, none⟩ = some (.int .i64 cap) ∧ w'.cell? ⟨w.heap.size, 3, none⟩ = some (.bool false) ∧ w'.cell? ⟨w.heap.size, 4, none⟩ = some (.int .i64 f) ∧ w'.cell? ⟨w.heap.size, 5, none⟩ = some (.int .i64 n)) ?_ (fun hHeld => ?_)
      · (refine ⟨?_, ?_, ?_, ?_, ?_, ?_⟩ <;> (exact ckA))
      (refine rtA 0 ?_ ?_
       (try simp only [Act.put, stA, st0, st1]))
      (refine rtA 1 ?_ ?_
       (try simp only [Act.put, stA, st0, st1]))
      (refine rtA 2 ?_ ?_
       (try simp only [Act.put, stA, st0, st1]))
      (refine wpAnyH_ready (rs := [3, 5]) (by kernel_rfl) (by simp) ?_)
      refine AllReadyH.cons rfl (fun K hK => ?_) (AllReadyH.cons rfl (fun K hK => ?_) AllReadyH.nil)
      · (go_simp
         ((go_at_call 105)
          refine (wscan_any A B ca cb s t cap _ (hs.ab abA) (ht.ab abA) hca hcb HU.out).mono ?_
          rintro e w2 ⟨E, d, ys, u2, hS2, hE2, rfl, hEn, hd, hb2⟩
          have z2 := hb2.size
          (try simp at z2))
         (try go_wp2_with fail)
         (refine hK.out _ _ ?_ (fun hHeld => ?_)
          · (try dsimp only); (refine ⟨?_, ?_, ?_, ?_, ?_, ?_⟩ <;> (exact ckA))
          clear hK K
          (try simp only [Act.put, stA, st0, st1])))
        (refine rtA 4 ?_ ?_
         (try simp only [Act.put, stA, st0, st1]))
        refine r1A 5 (fun K hK => ?_)
        (go_simp
         (refine hK.out _ _ ?_ (fun hHeld => ?_)
          · (try dsimp only); (refine ⟨?_, ?_, ?_, ?_, ?_, ?_⟩ <;> (exact ckA))
          clear hK K
          (try simp only [Act.put, stA, st0, st1])))
        refine r1A 6 (fun K hK => ?_)
        (go_simp
         (refine hK.out _ _ ?_ (fun hHeld => ?_)
          · (try dsimp only); (refine ⟨?_, ?_, ?_, ?_, ?_, ?_⟩ <;> (exact ckA))
          clear hK K
          (try simp only [Act.put, stA, st0, st1])))
        refine wpAnyH_done (by kernel_rfl) ?_ _
        have hz : Ab ((w.alloc (.cells #[.slice A s.length ca, .slice B t.length cb, .int .i64 cap, .bool false, .int .i64 f, .int .i64 n] 29)).alloc (.cells #[.slice none 0 0, .slice none 0 0, .int .i64 0, .bool false, .int .i64 0, .int .i64 0, .slice none 0 0] 165)) w2 := abA
        have hEZ : Ents w2 (w.heap.size + 1 + 1) E ys := hEn.mono wnA
        go_wp2_with fail
        go_meet
        exact ⟨_, E, d, ys, u2, rfl, (by first | (simp [go_sem]; done) | (simp [go_sem, *]; done)), (by first | (simp [go_sem]; done) | (simp [go_sem, *]; done)), (by first | (simp [go_sem]; done) | (simp [go_sem, *]; done)), (by first | (simp [go_sem]; done) | (simp [go_sem, *]; done)), (by first | (simp [go_sem]; done) | (simp [go_sem, *]; done)), (by first | (simp [go_sem]; done) | (simp [go_sem, *]; done)), (by first | (simp [go_sem]; done) | (simp [go_sem, *]; done)), hS2, hE2, hEZ.ab abA, hd, by omega, abA⟩
      · (go_simp
         (refine hK.out _ _ ?_ (fun hHeld => ?_)
          · (try dsimp only); (refine ⟨?_, ?_, ?_, ?_, ?_, ?_⟩ <;> (exact ckA))
          clear hK K
          (try simp only [Act.put, stA, st0, st1])))
        refine r1A 3 (fun K hK => ?_)
        (go_simp
         ((go_at_call 105)
          refine (wscan_any A B ca cb s t cap _ (hs.ab abA) (ht.ab abA) hca hcb HU.out).mono ?_
          rintro e w2 ⟨E, d, ys, u2, hS2, hE2, rfl, hEn, hd, hb2⟩
          have z2 := hb2.size
          (try simp at z2)
          have yq0 := hb2.at (p := ⟨w1.heap.size, 0, none⟩) (v := .slice none 0 0) (by simp [go_sem]); have yq1 := hb2.at (p := ⟨w1.heap.size, 1, none⟩) (v := .slice none 0 0) (by simp [go_sem]); have yq2 := hb2.at (p := ⟨w1.heap.size, 2, none⟩) (v := .int .i64 0) (by simp [go_sem]); have yq3 := hb2.at (p := ⟨w1.heap.size, 3, none⟩) (v := .bool false) (by simp [go_sem]); have yq4 := hb2.at (p := ⟨w1.heap.size, 4, none⟩) (v := .int .i64 0) (by simp [go_sem]); have yq5 := hb2.at (p := ⟨w1.heap.size, 5, none⟩) (v := .int .i64 0) (by simp [go_sem]); have yq6 := hb2.at (p := ⟨w1.heap.size, 6, none⟩) (v := .slice none 0 0) (by simp [go_sem])
          have yr0 : w2.frozen? ⟨w1.heap.size, 0, none⟩ = false := (hb2.frozen (p := ⟨w1.heap.size, 0, none⟩) (by simp)).trans (by simp [go_sem]); have yr1 : w2.frozen? ⟨w1.heap.size, 1, none⟩ = false := (hb2.frozen (p := ⟨w1.heap.size, 1, none⟩) (by simp)).trans (by simp [go_sem]); have yr2 : w2.frozen? ⟨w1.heap.size, 2, none⟩ = false := (hb2.frozen (p := ⟨w1.heap.size, 2, none⟩) (by simp)).trans (by simp [go_sem]); have yr3 : w2.frozen? ⟨w1.heap.size, 3, none⟩ = false := (hb2.frozen (p := ⟨w1.heap.size, 3, none⟩) (by simp)).trans (by simp [go_sem]); have yr4 : w2.frozen? ⟨w1.heap.size, 4, none⟩ = false := (hb2.frozen (p := ⟨w1.heap.size, 4, none⟩) (by simp)).trans (by simp [go_sem]); have yr5 : w2.frozen? ⟨w1.heap.size, 5, none⟩ = false := (hb2.frozen (p := ⟨w1.heap.size, 5, none⟩) (by simp)).trans (by simp [go_sem]); have yr6 : w2.frozen? ⟨w1.heap.size, 6, none⟩ = false := (hb2.frozen (p := ⟨w1.heap.size, 6, none⟩) (by simp)).trans (by simp [go_sem]))
         (try go_wp2_with fail)
         (refine hK.out _ _ ?_ (fun hHeld => ?_)
          · (try dsimp only); (refine ⟨?_, ?_, ?_, ?_, ?_, ?_⟩ <;> (exact ckA))
          clear hK K
          (try simp only [Act.put, stA, st0, st1])))
        (refine rtA 4 ?_ ?_
         (try simp only [Act.put, stA, st0, st1]))
        refine r1A 6 (fun K hK => ?_)
        (go_simp
         (refine hK.out _ _ ?_ (fun hHeld => ?_)
          · (try dsimp only); (refine ⟨?_, ?_, ?_, ?_, ?_, ?_⟩ <;> (exact ckA))
          clear hK K
          (try simp only [Act.put, stA, st0, st1])))
        refine wpAnyH_done (by kernel_rfl) ?_ _
        have hz : Ab ((w.alloc (.cells #[.slice A s.length ca, .slice B t.length cb, .int .i64 cap, .bool false, .int .i64 f, .int .i64 n] 29)).alloc (.cells #[.slice none 0 0, .slice none 0 0, .int .i64 0, .bool false, .int .i64 0, .int .i64 0, .slice none 0 0] 165)) w2 := abA
        have hEB : Ents w2 (w1.heap.size + 1) E ys := hEn.mono (by simp)
        go_wp2_with fail
        go_meet
        exact ⟨_, E, d, ys, u2, rfl, (by first | (simp [go_sem]; done) | (simp [go_sem, *]; done)), (by first | (simp [go_sem]; done) | (simp [go_sem, *]; done)), (by first | (simp [go_sem]; done) | (simp [go_sem, *]; done)), (by first | (simp [go_sem]; done) | (simp [go_sem, *]; done)), (by first | (simp [go_sem]; done) | (simp [go_sem, *]; done)), (by first | (simp [go_sem]; done) | (simp [go_sem, *]; done)), (by first | (simp [go_sem]; done) | (simp [go_sem, *]; done)), hS2, hE2, Ents.mono (lo := w1.heap.size + 1) (by repeat (first | with_reducible exact hEB | with_reducible refine Ents.set ?_ wnA _)) wnA, hd, by omega, abA⟩
    obtain ⟨P, E, d, ys, u2, rfl, x0, x1, x2, x3, x4, x5, x6, hS2, hE2, hEn, hd, hPw, hbc⟩ := hcut
    have hyl : ys.length ≤ 20000 := Wal.scan_count hS2.out (erecs_length ys) hbl
    obtain ⟨h1, h2⟩ := Frame.scan_unique hS2.out HSC.out
    have h2 := h2.symm
    subst h2
    have HR := Lib.hid h1
    have HF := Lib.hid hS2.out.1
    have hEl := Lib.hid (show u = (Frame.all (erecs ys)).length from hS2.out.2.1)
    have zq0 := hbc.at (p := ⟨w.heap.size + 1, 0, none⟩) (v := .slice none 0 0) (by simp [go_sem]); have zq1 := hbc.at (p := ⟨w.heap.size + 1, 1, none⟩) (v := .slice none 0 0) (by simp [go_sem]); have zq2 := hbc.at (p := ⟨w.heap.size + 1, 2, none⟩) (v := .int .i64 0) (by simp [go_sem]); have zq3 := hbc.at (p := ⟨w.heap.size + 1, 3, none⟩) (v := .bool false) (by simp [go_sem]); have zq4 := hbc.at (p := ⟨w.heap.size + 1, 4, none⟩) (v := .int .i64 0) (by simp [go_sem]); have zq5 := hbc.at (p := ⟨w.heap.size + 1, 5, none⟩) (v := .int .i64 0) (by simp [go_sem]); have zq6 := hbc.at (p := ⟨w.heap.size + 1, 6, none⟩) (v := .slice none 0 0) (by simp [go_sem])
    have zr0 : wc.frozen? ⟨w.heap.size + 1, 0, none⟩ = false := (hbc.frozen (p := ⟨w.heap.size + 1, 0, none⟩) (by simp)).trans (by simp [go_sem]); have zr1 : wc.frozen? ⟨w.heap.size + 1, 1, none⟩ = false := (hbc.frozen (p := ⟨w.heap.size + 1, 1, none⟩) (by simp)).trans (by simp [go_sem]); have zr2 : wc.frozen? ⟨w.heap.size + 1, 2, none⟩ = false := (hbc.frozen (p := ⟨w.heap.size + 1, 2, none⟩) (by simp)).trans (by simp [go_sem]); have zr3 : wc.frozen? ⟨w.heap.size + 1, 3, none⟩ = false := (hbc.frozen (p := ⟨w.heap.size + 1, 3, none⟩) (by simp)).trans (by simp [go_sem]); have zr4 : wc.frozen? ⟨w.heap.size + 1, 4, none⟩ = false := (hbc.frozen (p := ⟨w.heap.size + 1, 4, none⟩) (by simp)).trans (by simp [go_sem]); have zr5 : wc.frozen? ⟨w.heap.size + 1, 5, none⟩ = false := (hbc.frozen (p := ⟨w.heap.size + 1, 5, none⟩) (by simp)).trans (by simp [go_sem]); have zr6 : wc.frozen? ⟨w.heap.size + 1, 6, none⟩ = false := (hbc.frozen (p := ⟨w.heap.size + 1, 6, none⟩) (by simp)).trans (by simp [go_sem])
    clear h1 hS2
    go_wp2_with fail
    refine (endOf_any E d u ys _ (hEn.ab abA |>.mono (Nat.zero_le _)) hE2.out (by omega) hEl.out).mono ?_
    rintro e w5 ⟨rfl, rfl⟩
    go_wp2_with fail
    refine (numbered_any A B ca cb s t cap false f n _ E d ys (hEn.ab abA |>.mono (Nat.zero_le _)) HF.out hyl false (by rw [HR.out]; exact HV.out)).mono ?_
    rintro e w6 ⟨rfl, hb6⟩
    have hz6 : Ab ((w.alloc (.cells #[.slice A s.length ca, .slice B t.length cb, .int .i64 cap, .bool false, .int .i64 f, .int .i64 n] 29)).alloc (.cells #[.slice none 0 0, .slice none 0 0, .int .i64 0, .bool false, .int .i64 0, .int .i64 0, .slice none 0 0] 165)) w6 := abA
    have zq0 := hz6.at (p := ⟨w.heap.size + 1, 0, none⟩) (v := .slice none 0 0) (by simp [go_sem]); have zq1 := hz6.at (p := ⟨w.heap.size + 1, 1, none⟩) (v := .slice none 0 0) (by simp [go_sem]); have zq2 := hz6.at (p := ⟨w.heap.size + 1, 2, none⟩) (v := .int .i64 0) (by simp [go_sem]); have zq3 := hz6.at (p := ⟨w.heap.size + 1, 3, none⟩) (v := .bool false) (by simp [go_sem]); have zq4 := hz6.at (p := ⟨w.heap.size + 1, 4, none⟩) (v := .int .i64 0) (by simp [go_sem]); have zq5 := hz6.at (p := ⟨w.heap.size + 1, 5, none⟩) (v := .int .i64 0) (by simp [go_sem]); have zq6 := hz6.at (p := ⟨w.heap.size + 1, 6, none⟩) (v := .slice none 0 0) (by simp [go_sem])
    have zr0 : w6.frozen? ⟨w.heap.size + 1, 0, none⟩ = false := (hz6.frozen (p := ⟨w.heap.size + 1, 0, none⟩) (by simp)).trans (by simp [go_sem]); have zr1 : w6.frozen? ⟨w.heap.size + 1, 1, none⟩ = false := (hz6.frozen (p := ⟨w.heap.size + 1, 1, none⟩) (by simp)).trans (by simp [go_sem]); have zr2 : w6.frozen? ⟨w.heap.size + 1, 2, none⟩ = false := (hz6.frozen (p := ⟨w.heap.size + 1, 2, none⟩) (by simp)).trans (by simp [go_sem]); have zr3 : w6.frozen? ⟨w.heap.size + 1, 3, none⟩ = false := (hz6.frozen (p := ⟨w.heap.size + 1, 3, none⟩) (by simp)).trans (by simp [go_sem]); have zr4 : w6.frozen? ⟨w.heap.size + 1, 4, none⟩ = false := (hz6.frozen (p := ⟨w.heap.size + 1, 4, none⟩) (by simp)).trans (by simp [go_sem]); have zr5 : w6.frozen? ⟨w.heap.size + 1, 5, none⟩ = false := (hz6.frozen (p := ⟨w.heap.size + 1, 5, none⟩) (by simp)).trans (by simp [go_sem]); have zr6 : w6.frozen? ⟨w.heap.size + 1, 6, none⟩ = false := (hz6.frozen (p := ⟨w.heap.size + 1, 6, none⟩) (by simp)).trans (by simp [go_sem])
    go_wp2
    refine bodyPost_ret (v := .tuple #[.agg #[.slice none 0 0, .slice none 0 0, .int .i64 0, .bool false, .int .i64 0, .int .i64 0, .slice none 0 0], .int .i64 8]) (by simp [results, Tryz.results110, go_sem, zq0, zq1, zq2, zq3, zq4, zq5, zq6]) rfl ?_
    exact ⟨rfl, abA⟩

set_option maxHeartbeats 3200000 in
theorem read_good (A B : Option Addr) (ca cb : Nat) (s t : List UInt8) (cap f n : Int) (w : World) (hs : RB w 0 A s) (ht : RB w 0 B t) (hca : s.length ≤ ca) (hcb : t.length ≤ cb) (rs : List Frame.Rec) (hg : Wal.Good ⟨⟨s, t, cap, false⟩, f, n⟩ rs) :
    Calls Tryz.prog 110 #[.agg #[.slice A s.length ca, .slice B t.length cb, .int .i64 cap, .bool false, .int .i64 f, .int .i64 n]] w (GotLog w A B ca cb s t cap f n rs) := by
  have hu := hg.1
  have hnb := (Disk.up_zero hu).1
  have hsz := Disk.size_le hnb
  have hsc := hg.scan
  simp only at hsc hu hnb
  simp only [Disk.Dev.size] at hsz
  obtain ⟨u, hN⟩ : ∃ N : Nat, s.length + t.length = N := ⟨_, rfl⟩
  have hbl : (s ++ t).length ≤ 20000 := by rw [List.length_append]; omega
  rw [List.length_append, hN] at hsc
  have ls : s.length ≤ 20000 := by omega
  have lt : t.length ≤ 20000 := by omega
  have HS := Lib.hid (show Disk.size ⟨s, t, cap, false⟩ = ((u : Int), 0) by rw [← hN]; exact if_neg hnb)
  have HU := Lib.hid hu
  have HSC := Lib.hid hsc
  have HV := Lib.hid (show fitsB rs f n = true from fitsB_true.2 hg.2.2.2)
  have hlt : decide ((u : Int) < (u : Int)) = false := by simp
  clear hnb hsz hN hu hsc hg
  go_enter Tryz.func110, Tryz.ntmps110
  go_wp2_with fail
  refine (size_any A B ca cb s t cap false _ (by omega) (by omega)).mono ?_
  rintro e w1 ⟨r, er, hr, rfl, hb1⟩
  obtain ⟨rfl, rfl⟩ := Prod.mk.inj (hr.out.trans HS.out)
  clear hr
  have z1 := hb1.size
  (try simp at z1)
  obtain ⟨bq0, bq1, bq2, bq3, bq4, bq5⟩ := cells6 hb1 (b := w.heap.size) (v0 := .slice A s.length ca) (v1 := .slice B t.length cb) (v2 := .int .i64 cap) (v3 := .bool false) (v4 := .int .i64 f) (v5 := .int .i64 n) (by first | (simp [go_sem]; done) | (refine ⟨?_, ?_, ?_, ?_, ?_, ?_⟩ <;> assumption))
  go_upto_region 4 with fail
  go_cut [6] (fun s6 wx => RdCut w A B ca cb s t cap f n s6 wx)
  case first =>
    refine wp_region_held_drew (by kernel_rfl) (S := fun w' => w'.cell? ⟨w.heap.size, 0, none⟩ = some (.slice A s.length ca) ∧ w'.cell? ⟨w.heap.size, 1, none⟩ = some (.slice B t.length cb) ∧ w'.cell? ⟨w.heap.size, 2, none⟩ = some (.int .i64 cap) ∧ w'.cell? ⟨w.heap.size, 3, none⟩ = some (.bool false) ∧ w'.cell? ⟨w.heap.size, 4, none⟩ = some (.int .i64 f) ∧ w'.cell? ⟨w.heap.size, 5, none⟩ = some (.int .i64 n)) ?_ (fun hHeld => ?_)
    · (refine ⟨?_, ?_, ?_, ?_, ?_, ?_⟩ <;> (exact ckA))
    (refine rtA 0 ?_ ?_
     (try simp only [Act.put, stA, st0, st1]))
    (refine rtA 1 ?_ ?_
     (try simp only [Act.put, stA, st0, st1]))
    (refine rtA 2 ?_ ?_
     (try simp only [Act.put, stA, st0, st1]))
    (refine wpAnyH_ready (rs := [3, 5]) (by kernel_rfl) (by simp) ?_)
    refine AllReadyH.cons rfl (fun K hK => ?_) (AllReadyH.cons rfl (fun K hK => ?_) AllReadyH.nil)
    · (go_simp
       ((go_at_call 105)
        refine (wscan_any A B ca cb s t cap _ (hs.ab abA) (ht.ab abA) hca hcb HU.out).mono ?_
        rintro e w2 ⟨E, d, ys, u2, hS2, hE2, rfl, hEn, hd, hb2⟩
        have z2 := hb2.size
        (try simp at z2))
       (try go_wp2_with fail)
       (refine hK.out _ _ ?_ (fun hHeld => ?_)
        · (try dsimp only); (refine ⟨?_, ?_, ?_, ?_, ?_, ?_⟩ <;> (exact ckA))
        clear hK K
        (try simp only [Act.put, stA, st0, st1])))
      (refine rtA 4 ?_ ?_
       (try simp only [Act.put, stA, st0, st1]))
      refine r1A 5 (fun K hK => ?_)
      (go_simp
       (refine hK.out _ _ ?_ (fun hHeld => ?_)
        · (try dsimp only); (refine ⟨?_, ?_, ?_, ?_, ?_, ?_⟩ <;> (exact ckA))
        clear hK K
        (try simp only [Act.put, stA, st0, st1])))
      refine r1A 6 (fun K hK => ?_)
      (go_simp
       (refine hK.out _ _ ?_ (fun hHeld => ?_)
        · (try dsimp only); (refine ⟨?_, ?_, ?_, ?_, ?_, ?_⟩ <;> (exact ckA))
        clear hK K
        (try simp only [Act.put, stA, st0, st1])))
      refine wpAnyH_done (by kernel_rfl) ?_ _
      have hz : Ab ((w.alloc (.cells #[.slice A s.length ca, .slice B t.length cb, .int .i64 cap, .bool false, .int .i64 f, .int .i64 n] 29)).alloc (.cells #[.slice none 0 0, .slice none 0 0, .int .i64 0, .bool false, .int .i64 0, .int .i64 0, .slice none 0 0] 165)) w2 := abA
      have hEZ : Ents w2 (w.heap.size + 1 + 1) E ys := hEn.mono wnA
      go_wp2_with fail
      go_meet
      exact ⟨_, E, d, ys, u2, rfl, (by first | (simp [go_sem]; done) | (simp [go_sem, *]; done)), (by first | (simp [go_sem]; done) | (simp [go_sem, *]; done)), (by first | (simp [go_sem]; done) | (simp [go_sem, *]; done)), (by first | (simp [go_sem]; done) | (simp [go_sem, *]; done)), (by first | (simp [go_sem]; done) | (simp [go_sem, *]; done)), (by first | (simp [go_sem]; done) | (simp [go_sem, *]; done)), (by first | (simp [go_sem]; done) | (simp [go_sem, *]; done)), hS2, hE2, hEZ.ab abA, hd, by omega, abA⟩
    · (go_simp
       (refine hK.out _ _ ?_ (fun hHeld => ?_)
        · (try dsimp only); (refine ⟨?_, ?_, ?_, ?_, ?_, ?_⟩ <;> (exact ckA))
        clear hK K
        (try simp only [Act.put, stA, st0, st1])))
      refine r1A 3 (fun K hK => ?_)
      (go_simp
       ((go_at_call 105)
        refine (wscan_any A B ca cb s t cap _ (hs.ab abA) (ht.ab abA) hca hcb HU.out).mono ?_
        rintro e w2 ⟨E, d, ys, u2, hS2, hE2, rfl, hEn, hd, hb2⟩
        have z2 := hb2.size
        (try simp at z2)
        have yq0 := hb2.at (p := ⟨w1.heap.size, 0, none⟩) (v := .slice none 0 0) (by simp [go_sem]); have yq1 := hb2.at (p := ⟨w1.heap.size, 1, none⟩) (v := .slice none 0 0) (by simp [go_sem]); have yq2 := hb2.at (p := ⟨w1.heap.size, 2, none⟩) (v := .int .i64 0) (by simp [go_sem]); have yq3 := hb2.at (p := ⟨w1.heap.size, 3, none⟩) (v := .bool false) (by simp [go_sem]); have yq4 := hb2.at (p := ⟨w1.heap.size, 4, none⟩) (v := .int .i64 0) (by simp [go_sem]); have yq5 := hb2.at (p := ⟨w1.heap.size, 5, none⟩) (v := .int .i64 0) (by simp [go_sem]); have yq6 := hb2.at (p := ⟨w1.heap.size, 6, none⟩) (v := .slice none 0 0) (by simp [go_sem])
        have yr0 : w2.frozen? ⟨w1.heap.size, 0, none⟩ = false := (hb2.frozen (p := ⟨w1.heap.size, 0, none⟩) (by simp)).trans (by simp [go_sem]); have yr1 : w2.frozen? ⟨w1.heap.size, 1, none⟩ = false := (hb2.frozen (p := ⟨w1.heap.size, 1, none⟩) (by simp)).trans (by simp [go_sem]); have yr2 : w2.frozen? ⟨w1.heap.size, 2, none⟩ = false := (hb2.frozen (p := ⟨w1.heap.size, 2, none⟩) (by simp)).trans (by simp [go_sem]); have yr3 : w2.frozen? ⟨w1.heap.size, 3, none⟩ = false := (hb2.frozen (p := ⟨w1.heap.size, 3, none⟩) (by simp)).trans (by simp [go_sem]); have yr4 : w2.frozen? ⟨w1.heap.size, 4, none⟩ = false := (hb2.frozen (p := ⟨w1.heap.size, 4, none⟩) (by simp)).trans (by simp [go_sem]); have yr5 : w2.frozen? ⟨w1.heap.size, 5, none⟩ = false := (hb2.frozen (p := ⟨w1.heap.size, 5, none⟩) (by simp)).trans (by simp [go_sem]); have yr6 : w2.frozen? ⟨w1.heap.size, 6, none⟩ = false := (hb2.frozen (p := ⟨w1.heap.size, 6, none⟩) (by simp)).trans (by simp [go_sem]))
       (try go_wp2_with fail)
       (refine hK.out _ _ ?_ (fun hHeld => ?_)
        · (try dsimp only); (refine ⟨?_, ?_, ?_, ?_, ?_, ?_⟩ <;> (exact ckA))
        clear hK K
        (try simp only [Act.put, stA, st0, st1])))
      (refine rtA 4 ?_ ?_
       (try simp only [Act.put, stA, st0, st1]))
      refine r1A 6 (fun K hK => ?_)
      (go_simp
       (refine hK.out _ _ ?_ (fun hHeld => ?_)
        · (try dsimp only); (refine ⟨?_, ?_, ?_, ?_, ?_, ?_⟩ <;> (exact ckA))
        clear hK K
        (try simp only [Act.put, stA, st0, st1])))
      refine wpAnyH_done (by kernel_rfl) ?_ _
      have hz : Ab ((w.alloc (.cells #[.slice A s.length ca, .slice B t.length cb, .int .i64 cap, .bool false, .int .i64 f, .int .i64 n] 29)).alloc (.cells #[.slice none 0 0, .slice none 0 0, .int .i64 0, .bool false, .int .i64 0, .int .i64 0, .slice none 0 0] 165)) w2 := abA
      have hEB : Ents w2 (w1.heap.size + 1) E ys := hEn.mono (by simp)
      go_wp2_with fail
      go_meet
      exact ⟨_, E, d, ys, u2, rfl, (by first | (simp [go_sem]; done) | (simp [go_sem, *]; done)), (by first | (simp [go_sem]; done) | (simp [go_sem, *]; done)), (by first | (simp [go_sem]; done) | (simp [go_sem, *]; done)), (by first | (simp [go_sem]; done) | (simp [go_sem, *]; done)), (by first | (simp [go_sem]; done) | (simp [go_sem, *]; done)), (by first | (simp [go_sem]; done) | (simp [go_sem, *]; done)), (by first | (simp [go_sem]; done) | (simp [go_sem, *]; done)), hS2, hE2, Ents.mono (lo := w1.heap.size + 1) (by repeat (first | with_reducible exact hEB | with_reducible refine Ents.set ?_ wnA _)) wnA, hd, by omega, abA⟩
  obtain ⟨P, E, d, ys, u2, rfl, x0, x1, x2, x3, x4, x5, x6, hS2, hE2, hEn, hd, hPw, hbc⟩ := hcut
  have hyl : ys.length ≤ 20000 := Wal.scan_count hS2.out (erecs_length ys) hbl
  obtain ⟨h1, h2⟩ := Frame.scan_unique hS2.out HSC.out
  have h2 := h2.symm
  subst h2
  have HR := Lib.hid h1
  have HF := Lib.hid hS2.out.1
  have hEl := Lib.hid (show u = (Frame.all (erecs ys)).length from hS2.out.2.1)
  have zq0 := hbc.at (p := ⟨w.heap.size + 1, 0, none⟩) (v := .slice none 0 0) (by simp [go_sem]); have zq1 := hbc.at (p := ⟨w.heap.size + 1, 1, none⟩) (v := .slice none 0 0) (by simp [go_sem]); have zq2 := hbc.at (p := ⟨w.heap.size + 1, 2, none⟩) (v := .int .i64 0) (by simp [go_sem]); have zq3 := hbc.at (p := ⟨w.heap.size + 1, 3, none⟩) (v := .bool false) (by simp [go_sem]); have zq4 := hbc.at (p := ⟨w.heap.size + 1, 4, none⟩) (v := .int .i64 0) (by simp [go_sem]); have zq5 := hbc.at (p := ⟨w.heap.size + 1, 5, none⟩) (v := .int .i64 0) (by simp [go_sem]); have zq6 := hbc.at (p := ⟨w.heap.size + 1, 6, none⟩) (v := .slice none 0 0) (by simp [go_sem])
  have zr0 : wc.frozen? ⟨w.heap.size + 1, 0, none⟩ = false := (hbc.frozen (p := ⟨w.heap.size + 1, 0, none⟩) (by simp)).trans (by simp [go_sem]); have zr1 : wc.frozen? ⟨w.heap.size + 1, 1, none⟩ = false := (hbc.frozen (p := ⟨w.heap.size + 1, 1, none⟩) (by simp)).trans (by simp [go_sem]); have zr2 : wc.frozen? ⟨w.heap.size + 1, 2, none⟩ = false := (hbc.frozen (p := ⟨w.heap.size + 1, 2, none⟩) (by simp)).trans (by simp [go_sem]); have zr3 : wc.frozen? ⟨w.heap.size + 1, 3, none⟩ = false := (hbc.frozen (p := ⟨w.heap.size + 1, 3, none⟩) (by simp)).trans (by simp [go_sem]); have zr4 : wc.frozen? ⟨w.heap.size + 1, 4, none⟩ = false := (hbc.frozen (p := ⟨w.heap.size + 1, 4, none⟩) (by simp)).trans (by simp [go_sem]); have zr5 : wc.frozen? ⟨w.heap.size + 1, 5, none⟩ = false := (hbc.frozen (p := ⟨w.heap.size + 1, 5, none⟩) (by simp)).trans (by simp [go_sem]); have zr6 : wc.frozen? ⟨w.heap.size + 1, 6, none⟩ = false := (hbc.frozen (p := ⟨w.heap.size + 1, 6, none⟩) (by simp)).trans (by simp [go_sem])
  clear h1 hS2
  go_wp2_with fail
  refine (endOf_any E d u ys _ (hEn.ab abA |>.mono (Nat.zero_le _)) hE2.out (by omega) hEl.out).mono ?_
  rintro e w5 ⟨rfl, rfl⟩
  go_wp2_with fail
  refine (numbered_any A B ca cb s t cap false f n _ E d ys (hEn.ab abA |>.mono (Nat.zero_le _)) HF.out hyl true (by rw [HR.out]; exact HV.out)).mono ?_
  rintro e w6 ⟨rfl, hb6⟩
  have hz6 : Ab ((w.alloc (.cells #[.slice A s.length ca, .slice B t.length cb, .int .i64 cap, .bool false, .int .i64 f, .int .i64 n] 29)).alloc (.cells #[.slice none 0 0, .slice none 0 0, .int .i64 0, .bool false, .int .i64 0, .int .i64 0, .slice none 0 0] 165)) w6 := abA
  have zq0 := hz6.at (p := ⟨w.heap.size + 1, 0, none⟩) (v := .slice none 0 0) (by simp [go_sem]); have zq1 := hz6.at (p := ⟨w.heap.size + 1, 1, none⟩) (v := .slice none 0 0) (by simp [go_sem]); have zq2 := hz6.at (p := ⟨w.heap.size + 1, 2, none⟩) (v := .int .i64 0) (by simp [go_sem]); have zq3 := hz6.at (p := ⟨w.heap.size + 1, 3, none⟩) (v := .bool false) (by simp [go_sem]); have zq4 := hz6.at (p := ⟨w.heap.size + 1, 4, none⟩) (v := .int .i64 0) (by simp [go_sem]); have zq5 := hz6.at (p := ⟨w.heap.size + 1, 5, none⟩) (v := .int .i64 0) (by simp [go_sem]); have zq6 := hz6.at (p := ⟨w.heap.size + 1, 6, none⟩) (v := .slice none 0 0) (by simp [go_sem])
  have zr0 : w6.frozen? ⟨w.heap.size + 1, 0, none⟩ = false := (hz6.frozen (p := ⟨w.heap.size + 1, 0, none⟩) (by simp)).trans (by simp [go_sem]); have zr1 : w6.frozen? ⟨w.heap.size + 1, 1, none⟩ = false := (hz6.frozen (p := ⟨w.heap.size + 1, 1, none⟩) (by simp)).trans (by simp [go_sem]); have zr2 : w6.frozen? ⟨w.heap.size + 1, 2, none⟩ = false := (hz6.frozen (p := ⟨w.heap.size + 1, 2, none⟩) (by simp)).trans (by simp [go_sem]); have zr3 : w6.frozen? ⟨w.heap.size + 1, 3, none⟩ = false := (hz6.frozen (p := ⟨w.heap.size + 1, 3, none⟩) (by simp)).trans (by simp [go_sem]); have zr4 : w6.frozen? ⟨w.heap.size + 1, 4, none⟩ = false := (hz6.frozen (p := ⟨w.heap.size + 1, 4, none⟩) (by simp)).trans (by simp [go_sem]); have zr5 : w6.frozen? ⟨w.heap.size + 1, 5, none⟩ = false := (hz6.frozen (p := ⟨w.heap.size + 1, 5, none⟩) (by simp)).trans (by simp [go_sem]); have zr6 : w6.frozen? ⟨w.heap.size + 1, 6, none⟩ = false := (hz6.frozen (p := ⟨w.heap.size + 1, 6, none⟩) (by simp)).trans (by simp [go_sem])
  obtain ⟨xq0, xq1, xq2, xq3, xq4, xq5⟩ := cells6 hb6 (b := P) (v0 := .slice A s.length ca) (v1 := .slice B t.length cb) (v2 := .int .i64 cap) (v3 := .bool false) (v4 := .int .i64 f) (v5 := .int .i64 n) (by first | (simp [go_sem]; done) | (refine ⟨?_, ?_, ?_, ?_, ?_, ?_⟩ <;> assumption))
  have xq6 := hb6.at (p := ⟨P, 6, none⟩) (v := .slice E ys.length d) ckA
  have hE6 := hEn.ab hb6
  go_wp2
  refine bodyPost_ret (v := .tuple #[.agg #[.slice A s.length ca, .slice B t.length cb, .int .i64 cap, .bool false, .int .i64 f, .int .i64 n, .slice E ys.length d], .int .i64 0]) (by simp [results, Tryz.results110, go_sem, *]) rfl ?_
  exact ⟨E, d, ys, HR, hE2, rfl, Ents.mono (lo := w.heap.size + 1 + 1) (by repeat (first | with_reducible exact hE6 | with_reducible refine Ents.set ?_ wnA _)) wnA, hd, hyl, abA⟩

/-- No valid log: it returns the error. -/
theorem read_bad (A B : Option Addr) (ca cb : Nat) (s t : List UInt8) (cap : Int) (dn : Bool) (f n : Int) (w : World) (hs : RB w 0 A s) (ht : RB w 0 B t) (hca : s.length ≤ ca) (hcb : t.length ≤ cb) (ls : s.length ≤ 1000000) (lt : t.length ≤ 1000000) (hi : ∀ rs, ¬ Wal.Good ⟨⟨s, t, cap, dn⟩, f, n⟩ rs) :
    Calls Tryz.prog 110 #[.agg #[.slice A s.length ca, .slice B t.length cb, .int .i64 cap, .bool dn, .int .i64 f, .int .i64 n]] w fun e w' => e = .returned (.tuple #[.agg #[.slice none 0 0, .slice none 0 0, .int .i64 0, .bool false, .int .i64 0, .int .i64 0, .slice none 0 0], .int .i64 8]) ∧ Ab w w' := by
  by_cases hu : Disk.up ⟨s, t, cap, dn⟩ = 0
  · obtain rfl : dn = false := (Disk.up_zero hu).2
    obtain ⟨rs, u, hsc⟩ := Wal.scan_exists (s ++ t)
    refine read_up_no A B ca cb s t cap f n w hs ht hca hcb hu rs u hsc ?_
    by_cases h1 : u = s.length + t.length
    · right
      intro h2
      exact hi rs (Wal.good_of hsc hu (by rw [List.length_append]; exact h1) h2)
    · exact .inl h1
  · exact read_up_bad A B ca cb s t cap dn f n w hs ht hca hcb ls lt hu
end Go.Proofs.YthgcfjhnnhigoaaGreat

/- The ends that the contracts of layer 4 state. Own work. -/
namespace Go.Proofs.YthgcfjhnnhigoaaGreat
open Go.RowKit

/-- It returns the log and the error m. -/
def RetLogE (w : World) (m : Wal.Log × Int) (e : Ending) (w' : World) : Prop :=
  ∃ (r : Wal.Log) (er : Int) (D E : Option Addr) (cd ce : Nat), Hid ((r, er) = m) ∧ e = .returned (.tuple #[.agg #[.slice D r.dev.s.length cd, .slice E r.dev.t.length ce, .int .i64 r.dev.cap, .bool r.dev.down, .int .i64 r.first, .int .i64 r.next], .int .i64 er]) ∧ OR 5 w.heap.size w' D cd r.dev.s ∧ OR 5 w.heap.size w' E ce r.dev.t ∧ Ab w w'
theorem RetLogE.zero {w w' : World} {m : Wal.Log × Int} {er : Int} (h : (Wal.zero, er) = m) (hb : Ab w w') : RetLogE w m (.returned (.tuple #[.agg #[.slice none 0 0, .slice none 0 0, .int .i64 0, .bool false, .int .i64 0, .int .i64 0], .int .i64 er])) w' :=
  ⟨Wal.zero, er, none, none, 0, 0, h, rfl, OR.none_, OR.none_, hb⟩
def RetLog3 (w : World) (m : Wal.Log × Int × Int) (e : Ending) (w' : World) : Prop :=
  ∃ (r : Wal.Log) (k er : Int) (D E : Option Addr) (cd ce : Nat), Hid ((r, k, er) = m) ∧ e = .returned (.tuple #[.agg #[.slice D r.dev.s.length cd, .slice E r.dev.t.length ce, .int .i64 r.dev.cap, .bool r.dev.down, .int .i64 r.first, .int .i64 r.next], .int .i64 k, .int .i64 er]) ∧ OR 5 w.heap.size w' D cd r.dev.s ∧ OR 5 w.heap.size w' E ce r.dev.t ∧ Ab w w'
theorem RetLog3.zero {w w' : World} {m : Wal.Log × Int × Int} {er : Int} (h : (Wal.zero, 0, er) = m) (hb : Ab w w') : RetLog3 w m (.returned (.tuple #[.agg #[.slice none 0 0, .slice none 0 0, .int .i64 0, .bool false, .int .i64 0, .int .i64 0], .int .i64 0, .int .i64 er])) w' :=
  ⟨Wal.zero, 0, er, none, none, 0, 0, h, rfl, OR.none_, OR.none_, hb⟩
/-- It returns records, in memory of its own, and the error m. -/
def RetRecsE (w : World) (m : List Frame.Rec × Int) (e : Ending) (w' : World) : Prop :=
  ∃ (B : Option Addr) (d : Nat) (xs : List RecM) (er : Int), Hid ((recs xs, er) = m) ∧ e = .returned (.tuple #[.slice B xs.length d, .int .i64 er]) ∧ Recs w' w.heap.size B xs ∧ xs.length ≤ d ∧ xs.length ≤ 20000 ∧
    Hid (∀ i (hi : i < xs.length), xs[i].b.length ≤ 1000) ∧ Ab w w'
theorem RetRecsE.zero {w w' : World} {m : List Frame.Rec × Int} {er : Int} (h : ([], er) = m) (hb : Ab w w') : RetRecsE w m (.returned (.tuple #[.slice none 0 0, .int .i64 er])) w' :=
  ⟨none, 0, [], er, h, rfl, Recs.nil, Nat.le_refl _, Nat.zero_le _, Lib.hid (fun i hi => absurd hi (by simp)), hb⟩
theorem OR.take {e : TypeId} {lo c : Nat} {w : World} {A : Option Addr} {l : List UInt8} (h : OR e lo w A c l) (k : Nat) : OR e lo w A c (l.take k) := by
  refine ⟨by simp, ?_⟩
  rcases h.out.2 with ⟨h1, h0⟩ | ⟨g, cap, cur, hv, hb, hh, hn, hm, hs, ht⟩
  · have : l = [] := List.eq_nil_of_length_eq_zero h0
    subst this
    exact .inl ⟨by simpa using h1, by simp⟩
  · injection hv with h1 h2 h3
    subst h1 h3
    refine .inr ⟨g, c, cur, rfl, hb, hh, by simp; omega, hm, hs, ?_⟩
    rw [List.map_take, ← ht, List.take_take]
    congr 1
    simp
theorem small_of {l : List Frame.Rec} (h : Frame.Foll l) {xs : List RecM} (e : recs xs = l) : ∀ i (hi : i < xs.length), xs[i].b.length ≤ 1000 := by
  intro i hi
  subst e
  have := (h i (by rw [recs_length]; exact hi)).1
  rw [recs_get xs i hi] at this
  exact this.2.2
/-- A device and an error, in two variables; zb is the world at the function's head. -/
def DevCut (w zb : World) (m : Disk.Dev × Int) (v7 v8 : Value) (wx : World) : Prop :=
  ∃ (P : Nat) (r : Disk.Dev) (er : Int) (D E : Option Addr) (cd ce : Nat), v7 = .pointer (some ⟨P, 0, none⟩) ∧ v8 = .int .i64 er ∧ Hid ((r, er) = m) ∧ wx.cell? ⟨P, 0, none⟩ = some (.slice D r.s.length cd) ∧ wx.cell? ⟨P, 1, none⟩ = some (.slice E r.t.length ce) ∧
    wx.cell? ⟨P, 2, none⟩ = some (.int .i64 r.cap) ∧ wx.cell? ⟨P, 3, none⟩ = some (.bool r.down) ∧ OR 5 (w.heap.size + 1 + 1) wx D cd r.s ∧ OR 5 (w.heap.size + 1 + 1) wx E ce r.t ∧ w.heap.size + 1 < P ∧ Ab zb wx

/-- It returns the log m, in memory of its own. -/
def RetLog (w : World) (m : Wal.Log) (e : Ending) (w' : World) : Prop :=
  ∃ (r : Wal.Log) (D E : Option Addr) (cd ce : Nat), Hid (r = m) ∧ e = .returned (.agg #[.slice D r.dev.s.length cd, .slice E r.dev.t.length ce, .int .i64 r.dev.cap, .bool r.dev.down, .int .i64 r.first, .int .i64 r.next]) ∧ OR 5 w.heap.size w' D cd r.dev.s ∧ OR 5 w.heap.size w' E ce r.dev.t ∧ Ab w w'
end Go.Proofs.YthgcfjhnnhigoaaGreat

/- Check, Crash and Sync of package wal, walked. Own work. -/
namespace Go.Proofs.YthgcfjhnnhigoaaGreat
open Go.RowKit

theorem wcheck_any (A B : Option Addr) (ca cb : Nat) (s t : List UInt8) (cap : Int) (dn : Bool) (f n : Int) (w : World) (hs : RB w 0 A s) (ht : RB w 0 B t) (hca : s.length ≤ ca) (hcb : t.length ≤ cb) (ls : s.length ≤ 1000000) (lt : t.length ≤ 1000000) (g : Option (List Frame.Rec)) (hi : Wal.Is ⟨⟨s, t, cap, dn⟩, f, n⟩ g) :
    Calls Tryz.prog 76 #[.agg #[.slice A s.length ca, .slice B t.length cb, .int .i64 cap, .bool dn, .int .i64 f, .int .i64 n]] w (RetInt w (Wal.check g)) := by
  cases g with
  | none =>
    go_enter Tryz.func76, Tryz.ntmps76
    go_wp2_with fail
    refine (read_bad A B ca cb s t cap dn f n _ (hs.ab abA) (ht.ab abA) hca hcb ls lt hi).mono ?_
    rintro e w1 ⟨rfl, hb1⟩
    go_wp2
    go_ret
    exact RetInt.mk rfl abA
  | some rs =>
    obtain rfl : dn = false := hi.isUp
    go_enter Tryz.func76, Tryz.ntmps76
    go_wp2_with fail
    refine (read_good A B ca cb s t cap f n _ (hs.ab abA) (ht.ab abA) hca hcb rs hi).mono ?_
    rintro e w1 ⟨E, d, ys, hR, hE, rfl, hEn, hd, hyl, hb1⟩
    go_wp2
    go_ret
    exact RetInt.mk rfl abA

set_option maxHeartbeats 1600000 in
theorem wcrash_any (A B : Option Addr) (ca cb : Nat) (s t : List UInt8) (cap : Int) (dn : Bool) (f n : Int) (w : World) (hs : RB w 0 A s) (ht : RB w 0 B t) (hca : s.length ≤ ca) (hcb : t.length ≤ cb) (ls : s.length ≤ 1000000) (lt : t.length ≤ 1000000) (g : Option (List Frame.Rec)) (hi : Wal.Is ⟨⟨s, t, cap, dn⟩, f, n⟩ g) (k : Int) :
    Calls Tryz.prog 67 #[.agg #[.slice A s.length ca, .slice B t.length cb, .int .i64 cap, .bool dn, .int .i64 f, .int .i64 n], .int .i64 k] w (RetDevE w (Wal.crash ⟨⟨s, t, cap, dn⟩, f, n⟩ k g)) := by
  cases g with
  | none =>
    go_enter Tryz.func67, Tryz.ntmps67
    go_wp2_with fail
    refine (wcheck_any A B ca cb s t cap dn f n _ (hs.ab abA) (ht.ab abA) hca hcb ls lt none hi).mono ?_
    rintro e w1 ⟨r, hr, rfl, hb1⟩
    obtain rfl : r = 8 := hr.out
    have zq0 := hb1.at (p := ⟨w.heap.size + 1, 0, none⟩) (v := .slice none 0 0) (by simp [go_sem]); have zq1 := hb1.at (p := ⟨w.heap.size + 1, 1, none⟩) (v := .slice none 0 0) (by simp [go_sem]); have zq2 := hb1.at (p := ⟨w.heap.size + 1, 2, none⟩) (v := .int .i64 0) (by simp [go_sem]); have zq3 := hb1.at (p := ⟨w.heap.size + 1, 3, none⟩) (v := .bool false) (by simp [go_sem])
    have zr0 : w1.frozen? ⟨w.heap.size + 1, 0, none⟩ = false := (hb1.frozen (p := ⟨w.heap.size + 1, 0, none⟩) (by simp)).trans (by simp [go_sem]); have zr1 : w1.frozen? ⟨w.heap.size + 1, 1, none⟩ = false := (hb1.frozen (p := ⟨w.heap.size + 1, 1, none⟩) (by simp)).trans (by simp [go_sem]); have zr2 : w1.frozen? ⟨w.heap.size + 1, 2, none⟩ = false := (hb1.frozen (p := ⟨w.heap.size + 1, 2, none⟩) (by simp)).trans (by simp [go_sem]); have zr3 : w1.frozen? ⟨w.heap.size + 1, 3, none⟩ = false := (hb1.frozen (p := ⟨w.heap.size + 1, 3, none⟩) (by simp)).trans (by simp [go_sem])
    go_wp2
    refine bodyPost_ret (v := .tuple #[.agg #[.slice none 0 0, .slice none 0 0, .int .i64 0, .bool false], .int .i64 8]) (by simp [results, Tryz.results67, go_sem, zq0, zq1, zq2, zq3]) rfl ?_
    exact RetDevE.zero rfl abA
  | some rs =>
    obtain rfl : dn = false := hi.isUp
    go_enter Tryz.func67, Tryz.ntmps67
    go_wp2_with fail
    refine (wcheck_any A B ca cb s t cap false f n _ (hs.ab abA) (ht.ab abA) hca hcb ls lt (some rs) hi).mono ?_
    rintro e w1 ⟨r, hr, rfl, hb1⟩
    obtain rfl : r = 0 := hr.out
    have z1 := hb1.size
    simp at z1
    obtain ⟨bq0, bq1, bq2, bq3, bq4, bq5⟩ := cells6 hb1 (b := w.heap.size) (v0 := .slice A s.length ca) (v1 := .slice B t.length cb) (v2 := .int .i64 cap) (v3 := .bool false) (v4 := .int .i64 f) (v5 := .int .i64 n) (by first | (simp [go_sem]; done) | (refine ⟨?_, ?_, ?_, ?_, ?_, ?_⟩ <;> assumption))
    go_wp2_with fail
    refine (crash_any A B ca cb s t cap false _ (hs.ab abA) (ht.ab abA) hca hcb ls lt k).mono ?_
    rintro e w2 ⟨r, er, D, E, cd, ce, hr, rfl, o1, o2, hb2⟩
    have dn := false
    have hz : Ab ((w.alloc (.cells #[.slice A s.length ca, .slice B t.length cb, .int .i64 cap, .bool false, .int .i64 f, .int .i64 n] 29)).alloc (.cells #[.slice none 0 0, .slice none 0 0, .int .i64 0, .bool false] 24)) w2 := abA
    have zq0 := hz.at (p := ⟨w.heap.size + 1, 0, none⟩) (v := .slice none 0 0) (by simp [go_sem]); have zq1 := hz.at (p := ⟨w.heap.size + 1, 1, none⟩) (v := .slice none 0 0) (by simp [go_sem]); have zq2 := hz.at (p := ⟨w.heap.size + 1, 2, none⟩) (v := .int .i64 0) (by simp [go_sem]); have zq3 := hz.at (p := ⟨w.heap.size + 1, 3, none⟩) (v := .bool false) (by simp [go_sem])
    have zr0 : w2.frozen? ⟨w.heap.size + 1, 0, none⟩ = false := (hz.frozen (p := ⟨w.heap.size + 1, 0, none⟩) (by simp)).trans (by simp [go_sem]); have zr1 : w2.frozen? ⟨w.heap.size + 1, 1, none⟩ = false := (hz.frozen (p := ⟨w.heap.size + 1, 1, none⟩) (by simp)).trans (by simp [go_sem]); have zr2 : w2.frozen? ⟨w.heap.size + 1, 2, none⟩ = false := (hz.frozen (p := ⟨w.heap.size + 1, 2, none⟩) (by simp)).trans (by simp [go_sem]); have zr3 : w2.frozen? ⟨w.heap.size + 1, 3, none⟩ = false := (hz.frozen (p := ⟨w.heap.size + 1, 3, none⟩) (by simp)).trans (by simp [go_sem])
    clear hz
    go_wp2
    refine bodyPost_ret (v := .tuple #[.agg #[.slice D r.s.length cd, .slice E r.t.length ce, .int .i64 r.cap, .bool r.down], .int .i64 er]) (by simp [results, Tryz.results67, go_sem, zq0, zq1, zq2, zq3]) rfl ?_
    exact ⟨r, er, D, E, cd, ce, Lib.hid hr.out, rfl, OR.mono (lo := w1.heap.size) orA wnA, OR.mono (lo := w1.heap.size) orA wnA, abA⟩

set_option maxHeartbeats 1600000 in
theorem wsync_any (A B : Option Addr) (ca cb : Nat) (s t : List UInt8) (cap : Int) (dn : Bool) (f n : Int) (w : World) (hs : RB w 0 A s) (ht : RB w 0 B t) (hca : s.length ≤ ca) (hcb : t.length ≤ cb) (ls : s.length ≤ 1000000) (lt : t.length ≤ 1000000) (g : Option (List Frame.Rec)) (hi : Wal.Is ⟨⟨s, t, cap, dn⟩, f, n⟩ g) :
    Calls Tryz.prog 50 #[.agg #[.slice A s.length ca, .slice B t.length cb, .int .i64 cap, .bool dn, .int .i64 f, .int .i64 n]] w (RetLogE w (Wal.sync ⟨⟨s, t, cap, dn⟩, f, n⟩ g)) := by
  cases g with
  | none =>
    go_enter Tryz.func50, Tryz.ntmps50
    go_wp2_with fail
    refine (wcheck_any A B ca cb s t cap dn f n _ (hs.ab abA) (ht.ab abA) hca hcb ls lt none hi).mono ?_
    rintro e w1 ⟨r, hr, rfl, hb1⟩
    obtain rfl : r = 8 := hr.out
    have zq0 := hb1.at (p := ⟨w.heap.size + 1, 0, none⟩) (v := .slice none 0 0) (by simp [go_sem]); have zq1 := hb1.at (p := ⟨w.heap.size + 1, 1, none⟩) (v := .slice none 0 0) (by simp [go_sem]); have zq2 := hb1.at (p := ⟨w.heap.size + 1, 2, none⟩) (v := .int .i64 0) (by simp [go_sem]); have zq3 := hb1.at (p := ⟨w.heap.size + 1, 3, none⟩) (v := .bool false) (by simp [go_sem]); have zq4 := hb1.at (p := ⟨w.heap.size + 1, 4, none⟩) (v := .int .i64 0) (by simp [go_sem]); have zq5 := hb1.at (p := ⟨w.heap.size + 1, 5, none⟩) (v := .int .i64 0) (by simp [go_sem])
    have zr0 : w1.frozen? ⟨w.heap.size + 1, 0, none⟩ = false := (hb1.frozen (p := ⟨w.heap.size + 1, 0, none⟩) (by simp)).trans (by simp [go_sem]); have zr1 : w1.frozen? ⟨w.heap.size + 1, 1, none⟩ = false := (hb1.frozen (p := ⟨w.heap.size + 1, 1, none⟩) (by simp)).trans (by simp [go_sem]); have zr2 : w1.frozen? ⟨w.heap.size + 1, 2, none⟩ = false := (hb1.frozen (p := ⟨w.heap.size + 1, 2, none⟩) (by simp)).trans (by simp [go_sem]); have zr3 : w1.frozen? ⟨w.heap.size + 1, 3, none⟩ = false := (hb1.frozen (p := ⟨w.heap.size + 1, 3, none⟩) (by simp)).trans (by simp [go_sem]); have zr4 : w1.frozen? ⟨w.heap.size + 1, 4, none⟩ = false := (hb1.frozen (p := ⟨w.heap.size + 1, 4, none⟩) (by simp)).trans (by simp [go_sem]); have zr5 : w1.frozen? ⟨w.heap.size + 1, 5, none⟩ = false := (hb1.frozen (p := ⟨w.heap.size + 1, 5, none⟩) (by simp)).trans (by simp [go_sem])
    go_wp2
    refine bodyPost_ret (v := .tuple #[.agg #[.slice none 0 0, .slice none 0 0, .int .i64 0, .bool false, .int .i64 0, .int .i64 0], .int .i64 8]) (by simp [results, Tryz.results50, go_sem, zq0, zq1, zq2, zq3, zq4, zq5]) rfl ?_
    exact RetLogE.zero rfl abA
  | some rs =>
    obtain rfl : dn = false := hi.isUp
    have HS := Lib.hid (show Disk.sync ⟨s, t, cap, false⟩ = (⟨s ++ t, [], cap, false⟩, 0) by unfold Disk.sync; rw [if_neg (by simpa using hi.1)])
    go_enter Tryz.func50, Tryz.ntmps50
    go_wp2_with fail
    refine (wcheck_any A B ca cb s t cap false f n _ (hs.ab abA) (ht.ab abA) hca hcb ls lt (some rs) hi).mono ?_
    rintro e w1 ⟨r, hr, rfl, hb1⟩
    obtain rfl : r = 0 := hr.out
    clear hr
    have z1 := hb1.size
    simp at z1
    obtain ⟨bq0, bq1, bq2, bq3, bq4, bq5⟩ := cells6 hb1 (b := w.heap.size) (v0 := .slice A s.length ca) (v1 := .slice B t.length cb) (v2 := .int .i64 cap) (v3 := .bool false) (v4 := .int .i64 f) (v5 := .int .i64 n) (by first | (simp [go_sem]; done) | (refine ⟨?_, ?_, ?_, ?_, ?_, ?_⟩ <;> assumption))
    go_wp2_with fail
    refine (sync_any A B ca cb s t cap false _ (hs.ab abA) (ht.ab abA) hca hcb ls lt).mono ?_
    rintro e w2 ⟨r, er, D, E, cd, ce, hr, rfl, o1, o2, hb2⟩
    have hr1 := Lib.hid (Prod.mk.inj (hr.out.trans HS.out)).1
    obtain rfl : er = 0 := (Prod.mk.inj (hr.out.trans HS.out)).2
    clear hr
    have hz : Ab ((w.alloc (.cells #[.slice A s.length ca, .slice B t.length cb, .int .i64 cap, .bool false, .int .i64 f, .int .i64 n] 29)).alloc (.cells #[.slice none 0 0, .slice none 0 0, .int .i64 0, .bool false, .int .i64 0, .int .i64 0] 29)) w2 := abA
    have zq0 := hz.at (p := ⟨w.heap.size + 1, 0, none⟩) (v := .slice none 0 0) (by simp [go_sem]); have zq1 := hz.at (p := ⟨w.heap.size + 1, 1, none⟩) (v := .slice none 0 0) (by simp [go_sem]); have zq2 := hz.at (p := ⟨w.heap.size + 1, 2, none⟩) (v := .int .i64 0) (by simp [go_sem]); have zq3 := hz.at (p := ⟨w.heap.size + 1, 3, none⟩) (v := .bool false) (by simp [go_sem]); have zq4 := hz.at (p := ⟨w.heap.size + 1, 4, none⟩) (v := .int .i64 0) (by simp [go_sem]); have zq5 := hz.at (p := ⟨w.heap.size + 1, 5, none⟩) (v := .int .i64 0) (by simp [go_sem])
    have zr0 : w2.frozen? ⟨w.heap.size + 1, 0, none⟩ = false := (hz.frozen (p := ⟨w.heap.size + 1, 0, none⟩) (by simp)).trans (by simp [go_sem]); have zr1 : w2.frozen? ⟨w.heap.size + 1, 1, none⟩ = false := (hz.frozen (p := ⟨w.heap.size + 1, 1, none⟩) (by simp)).trans (by simp [go_sem]); have zr2 : w2.frozen? ⟨w.heap.size + 1, 2, none⟩ = false := (hz.frozen (p := ⟨w.heap.size + 1, 2, none⟩) (by simp)).trans (by simp [go_sem]); have zr3 : w2.frozen? ⟨w.heap.size + 1, 3, none⟩ = false := (hz.frozen (p := ⟨w.heap.size + 1, 3, none⟩) (by simp)).trans (by simp [go_sem]); have zr4 : w2.frozen? ⟨w.heap.size + 1, 4, none⟩ = false := (hz.frozen (p := ⟨w.heap.size + 1, 4, none⟩) (by simp)).trans (by simp [go_sem]); have zr5 : w2.frozen? ⟨w.heap.size + 1, 5, none⟩ = false := (hz.frozen (p := ⟨w.heap.size + 1, 5, none⟩) (by simp)).trans (by simp [go_sem])
    obtain ⟨bq0, bq1, bq2, bq3, bq4, bq5⟩ := cells6 hz (b := w.heap.size) (v0 := .slice A s.length ca) (v1 := .slice B t.length cb) (v2 := .int .i64 cap) (v3 := .bool false) (v4 := .int .i64 f) (v5 := .int .i64 n) (by first | (simp [go_sem]; done) | (refine ⟨?_, ?_, ?_, ?_, ?_, ?_⟩ <;> assumption))
    have z2 := hz.size
    simp at z2
    clear hz
    have nw2a := fun (o : Obj) (j : Nat) => World.cell?_alloc_lt w2 o ⟨w.heap.size, j, none⟩ (by simp; omega)
    have nw2c := fun (o : Obj) (j : Nat) => World.cell?_alloc_lt w2 o ⟨w.heap.size + 1, j, none⟩ (by simp; omega)
    have nw2b := fun (o : Obj) (j : Nat) => ((Ab.refl w2).alloc o).frozen (p := ⟨w.heap.size, j, none⟩) (by simp; omega)
    have nw2d := fun (o : Obj) (j : Nat) => ((Ab.refl w2).alloc o).frozen (p := ⟨w.heap.size + 1, j, none⟩) (by simp; omega)
    go_wp2
    refine bodyPost_ret (v := .tuple #[.agg #[.slice D (⟨r, f, n⟩ : Wal.Log).dev.s.length cd, .slice E (⟨r, f, n⟩ : Wal.Log).dev.t.length ce, .int .i64 (⟨r, f, n⟩ : Wal.Log).dev.cap, .bool (⟨r, f, n⟩ : Wal.Log).dev.down, .int .i64 (⟨r, f, n⟩ : Wal.Log).first, .int .i64 (⟨r, f, n⟩ : Wal.Log).next], .int .i64 0]) (by simp [results, Tryz.results50, go_sem, *]) rfl ?_
    exact ⟨⟨r, f, n⟩, 0, D, E, cd, ce, Lib.hid (by rw [hr1.out]; rfl), rfl, OR.mono (lo := w1.heap.size) orA wnA, OR.mono (lo := w1.heap.size) orA wnA, abA⟩
end Go.Proofs.YthgcfjhnnhigoaaGreat

/- Records of package wal and of the reference, walked. Own work. -/
namespace Go.Proofs.YthgcfjhnnhigoaaGreat
open Go.RowKit

/-- The call's own list of records (where their bytes lie is told beside). -/
def OwnR (lo : Nat) (w : World) (A : Option Addr) (c : Nat) (xs : List RecM) : Prop := OV 108 2 lo w A xs.length c (cellsOf xs)
theorem OwnR.nil {lo : Nat} {w : World} : OwnR lo w none 0 [] := OV.nil
theorem OwnR.ab {lo c : Nat} {w w' : World} {A : Option Addr} {xs : List RecM} (h : OwnR lo w A c xs) (hb : Ab w w') : OwnR lo w' A c xs := OV.block h fun g _ hg => hb.out.block g hg
theorem OwnR.le {lo c : Nat} {w : World} {A : Option Addr} {xs : List RecM} (h : OwnR lo w A c xs) : xs.length ≤ c := by
  unfold OwnR OV at h
  rcases h.2 with ⟨hv, h0⟩ | ⟨g, cap, cur, hv, _, _, hn, _⟩
  · injection hv; omega
  · injection hv; omega
theorem OwnR.recs {lo lo' c : Nat} {w : World} {A : Option Addr} {xs : List RecM} (h : OwnR lo w A c xs) (hl : ∀ x ∈ xs, Laid w lo' x) (hlo : lo' ≤ lo) : Recs w lo' A xs := by
  intro hn
  unfold OwnR at h
  rcases h.2 with ⟨_, h0⟩ | ⟨g, cap, cur, hv, hb, _⟩
  · omega
  · have hA : A = some ⟨g, 0, none⟩ := by injection hv
    have hc := h
    unfold OV at hc
    refine ⟨_, hA, Nat.le_trans hlo hb, fun i hi => ?_⟩
    obtain ⟨c0, c1⟩ := cellsOf_at xs i hi
    exact ⟨hc.cells (g := g) (by rw [hA]; rfl) _ _ c0, hc.cells (g := g) (by rw [hA]; rfl) _ _ c1, hl _ (List.getElem_mem hi)⟩
theorem listAppOwn {lo : Nat} {w : World} {A : Option Addr} {c : Nat} {xs : List RecM} {x : RecM} {o : Oper} {a : Act} {g d : Nat} {fr : Nat × Nat} {ops : Array Oper} {rest : List Oper} {Q : Exit → Act → World → Prop} (hgd : o.guard = none) (s y : Operand) (ho : o.op = .call { callee := .builtin .append, args := #[s, y], argTypes := #[143, 143] })
    (hs : a.eval s = .slice A xs.length c) (hy : a.eval y = .slice (some ⟨g, 0, none⟩) 1 d) (h : OwnR lo w A c xs) (hlo : lo ≤ w.heap.size)
    (hg : w.heap[g]? = some (.cells #[.int .i64 x.num, .slice x.A x.b.length x.c] 108 fr)) (hlen : xs.length ≤ 1000000)
    (hK : ∀ A' c' w' ys, Hid (ys = xs ++ [x]) → OwnR lo w' A' c' ys → w.grownBy w' (A.map (·.block)) → (∀ W : World, Ab W w → W.heap.size ≤ lo → Ab W w') → wpList Tryz.prog ops Q rest (a.put o.dst (.slice A' ys.length c')) w') :
    wpList Tryz.prog ops Q (o :: rest) a w := by
  obtain ⟨i0, hi0, hz0, hz1, hz2⟩ := info_parts infoRec
  refine wpList_appV (ws := x.cells) hgd s y _ ho i0 _ Tryz.underlying143 hi0 hz0 hz1 hz2 rfl (by omega) hs hy h hlo rfl ?_ ?_ (by omega) (by unfold maxLen; omega) (by omega) ?_
  · intro j u hu
    have e : (⟨g, 0, none⟩ : Addr).add j = ⟨g, j, none⟩ := by unfold Addr.add; split <;> simp_all
    rw [e]
    unfold World.cell?
    rw [hg]
    simpa [RecM.cells] using hu
  · intro u hu
    have hu' : u = .int .i64 x.num ∨ u = .slice x.A x.b.length x.c := by simpa [RecM.cells] using hu
    rcases hu' with rfl | rfl <;> rfl
  · intro g' c' w' h4 h5 h6
    have h7 : OwnR lo w' (some ⟨g', 0, none⟩) c' (xs ++ [x]) := by
      unfold OwnR
      rw [cellsOf_append, cellsOf_one, List.length_append]; exact h4
    have := hK _ c' w' (xs ++ [x]) rfl h7 h5 (fun W hW hl => grown_ab hW h5 (fun k hk => by
      obtain ⟨a, ha, rfl⟩ := map_blk hk
      exact Nat.le_trans hl (OV.rng h a ha).1))
    rwa [List.length_append] at this

theorem Recs.laid {w : World} {lo : Nat} {A : Option Addr} {xs : List RecM} (h : Recs w lo A xs) : ∀ x ∈ xs, Laid w lo x := by
  intro x hx
  obtain ⟨i, hi, he⟩ := List.mem_iff_getElem.1 hx
  obtain ⟨_, _, _, _, _, l⟩ := h.at_ hi
  rw [he] at l
  exact l
theorem Ents.laid {w : World} {lo : Nat} {A : Option Addr} {ys : List EntM} (h : Ents w lo A ys) : ∀ y ∈ ys, Laid w lo y.x := by
  intro y hy
  obtain ⟨i, hi, he⟩ := List.mem_iff_getElem.1 hy
  obtain ⟨_, _, _, _, _, _, l⟩ := h.at_ hi
  rw [he] at l
  exact l

/-- How far the loop of Records has come. -/
def RecsRel (zs : List EntM) (w3 : World) (f i : Value) (wr : World) : Prop :=
  ∃ (k : Nat) (B : Option Addr) (c : Nat) (xs : List RecM), k ≤ zs.length ∧ i = .int .i64 (k : Int) ∧ f = .slice B xs.length c ∧ Hid (xs = (xsOf zs).take k) ∧ xs.length ≤ 20000 ∧ OwnR w3.heap.size wr B c xs ∧ Ab w3 wr

set_option maxHeartbeats 3200000 in
theorem wrecords_any (A B : Option Addr) (ca cb : Nat) (s t : List UInt8) (cap : Int) (dn : Bool) (f n : Int) (w : World) (hs : RB w 0 A s) (ht : RB w 0 B t) (hca : s.length ≤ ca) (hcb : t.length ≤ cb) (ls : s.length ≤ 1000000) (lt : t.length ≤ 1000000) (g : Option (List Frame.Rec)) (hi : Wal.Is ⟨⟨s, t, cap, dn⟩, f, n⟩ g) (m : Int) :
    Calls Tryz.prog 96 #[.agg #[.slice A s.length ca, .slice B t.length cb, .int .i64 cap, .bool dn, .int .i64 f, .int .i64 n], .int .i64 m] w (RetRecsE w (Wal.records ⟨⟨s, t, cap, dn⟩, f, n⟩ m g)) := by
  cases g with
  | none =>
    go_enter Tryz.func96, Tryz.ntmps96
    go_wp2_with fail
    refine (read_bad A B ca cb s t cap dn f n _ (hs.ab abA) (ht.ab abA) hca hcb ls lt hi).mono ?_
    rintro e w1 ⟨rfl, hb1⟩
    go_wp2
    go_ret2
    exact RetRecsE.zero rfl abA
  | some rs =>
    obtain rfl : dn = false := hi.isUp
    by_cases hm : m < f ∨ n < m
    · have HM := Lib.hid (show Wal.records ⟨⟨s, t, cap, false⟩, f, n⟩ m (some rs) = ([], 2) from if_pos hm)
      rcases hm with hm | hm
      all_goals
        go_enter Tryz.func96, Tryz.ntmps96
        go_wp2_with fail
        refine (read_good A B ca cb s t cap f n _ (hs.ab abA) (ht.ab abA) hca hcb rs hi).mono ?_
        rintro e w1 ⟨E, d, ys, hR, hE, rfl, hEn, hd, hyl, hb1⟩
        go_wp2
        all_goals first | (exfalso; omega) | skip
        all_goals go_ret2
        all_goals exact RetRecsE.zero HM.out.symm abA
    · have HM := Lib.hid (show Wal.records ⟨⟨s, t, cap, false⟩, f, n⟩ m (some rs) = (rs.drop (m - f).toNat, 0) from if_neg hm)
      have hrg := hi.rng
      simp only at hrg
      obtain ⟨j, hj⟩ : ∃ j : Nat, m - f = (j : Int) := ⟨(m - f).toNat, by omega⟩
      have hnl := hi.2.2.2.1
      simp only at hnl
      have HM := Lib.hid (show Wal.records ⟨⟨s, t, cap, false⟩, f, n⟩ m (some rs) = (rs.drop j, 0) by rw [HM.out, hj]; rfl)
      have HF := Lib.hid hi.2.1
      have hsub : IntKind.i64.wrap (m - f) = (j : Int) := by rw [IntWalk.i64_in _ (by omega)]; exact hj
      have hjl : j ≤ rs.length := by omega
      have h1 : ¬ m < f := by omega
      have h2 : ¬ n < m := by omega
      clear hm hnl
      have hj0 : (0 : Int) ≤ (j : Int) := by omega
      go_enter Tryz.func96, Tryz.ntmps96
      go_wp2_with fail
      refine (read_good A B ca cb s t cap f n _ (hs.ab abA) (ht.ab abA) hca hcb rs hi).mono ?_
      rintro e w1 ⟨E, d, ys, hR, hE, rfl, hEn, hd, hyl, hb1⟩
      have hjy : j ≤ ys.length := by rw [← erecs_length, hR.out]; exact hjl
      obtain ⟨zs, hzs⟩ : ∃ zs, ys.drop j = zs := ⟨_, rfl⟩
      have hzl : zs.length = ys.length - j := by rw [← hzs, List.length_drop]
      have hcut : ∀ w, (Instr.slice 159 (.slice E ys.length d) (some (.int .i64 (j : Int))) none none).run Tryz.prog w = .ok (.slice (cutE E d j) zs.length (d - j)) w := fun w => by
        rw [run_cutE j .i64 E ys.length d w hjy, hzl]
      have hZ0 := hEn.cut j d hd
      rw [hzs] at hZ0
      have HZ := Lib.hid (show recs (xsOf zs) = rs.drop j by rw [← hzs, ← hR.out]; exact erecs_drop ys j)
      have hz2 : zs.length ≤ 20000 := by omega
      have z1 := hb1.size
      simp at z1
      have hj1 : (j : Int) ≤ (ys.length : Int) := by omega
      clear hzs hzl
      go_wp2_with fail
      have hb2 : Ab w1 (w1.alloc (.cells #[.slice A s.length ca, .slice B t.length cb, .int .i64 cap, .bool false, .int .i64 f, .int .i64 n, .slice E ys.length d] 165)) := abA
      have hZ := hZ0.ab hb2
      have bz : Ab w (w1.alloc (.cells #[.slice A s.length ca, .slice B t.length cb, .int .i64 cap, .bool false, .int .i64 f, .int .i64 n, .slice E ys.length d] 165)) := abA
      generalize (w1.alloc (.cells #[.slice A s.length ca, .slice B t.length cb, .int .i64 cap, .bool false, .int .i64 f, .int .i64 n, .slice E ys.length d] 165)) = w3 at *
      generalize cutE E d j = Z at *
      clear hcut hsub hj
      have zw := bz.size
      go_loopw [8, 40] (fun f8 i wr => RecsRel zs w3 f8 i wr) (fun _ i _ => zs.length - (intOf i).toNat)
      case atStart => exact ⟨0, none, 0, [], Nat.zero_le _, rfl, rfl, Lib.hid rfl, Nat.zero_le _, OwnR.nil, Ab.refl _⟩
      case round =>
        obtain ⟨k, B8, c8, xs, hk, rfl, rfl, hX, hxl, hO, hbr⟩ := hrel
        by_cases hlt : k < zs.length
        · obtain ⟨a, hZa, -, c0, c1, c2, -⟩ := (hZ.ab hbr).at_ hlt
          have HX2 := Lib.hid (show (xsOf zs).take (k + 1) = (xsOf zs).take k ++ [zs[k].x] by
            rw [List.take_succ_eq_append_getElem (by simpa [xsOf] using hlt)]; simp [xsOf])
          have hxk : xs.length ≤ k := by rw [hX.out]; simp; omega
          subst hZa
          generalize zs[k] = y at *
          have hki : (k : Int) < (zs.length : Int) := by omega
          have hk0 : (0 : Int) ≤ (k : Int) := by omega
          have zr := hbr.size
          go_wp2_with ((at_builtin
                        refine listAppOwn (x := y.x) (fr := (0, 0)) rfl _ _ rfl rfl rfl (hO.ab abA) wnA (by (repeat (first | exact new_plain wnA | with_reducible refine old_alloc ?_ | with_reducible refine old_drew ?_ | with_reducible refine old_set ?_ wnA | with_reducible refine old_ab (by assumption) ?_))) (by omega) ?_
                        intro B9 c9 w9 vs hvs hO9 g9 f9
                        have b9 := f9 w3 abA (Nat.le_refl _)
                        clear f9))
          go_roundw
          case rel => exact ⟨k + 1, B9, c9, vs, by omega, by go_num, rfl, Lib.hid (by rw [hvs.out, HX2.out, hX.out]), by have := congrArg List.length hvs.out; simp at this; omega, hO9, b9⟩
          case measure => simp [intOf]; omega
        · obtain rfl : k = zs.length := by omega
          go_wp2
          go_ret2
          have e1 : xs = xsOf zs := by rw [hX.out]; exact List.take_of_length_le (by simp [xsOf])
          refine ⟨B8, c8, xs, 0, Lib.hid (by rw [HM.out, e1, HZ.out]), rfl, ?_, hO.le, hxl, Lib.hid (small_of (l := rs.drop j) (Wal.foll_drop HF.out j) (by rw [e1]; exact HZ.out)), abA⟩
          refine hO.recs (fun x hx => ?_) zw
          rw [e1] at hx
          obtain ⟨y, hy, rfl⟩ := List.mem_map.1 hx
          exact (((hZ.laid y hy).mono wnA).ab hbr)
end Go.Proofs.YthgcfjhnnhigoaaGreat
