/- Deltas joined: lists of parts appended whole. Own work. -/
import Derived.Test.YtbhhjbmpcpjcnaaDlLawB
import Derived.Test.YtbhhjbmpcpjcnaaPostB
set_option linter.unusedVariables false
set_option linter.unusedSimpArgs false
namespace Go.Proofs.Ytbhhjbmpcpjcnaa
open Go.RowKit

theorem OV.litQ {lo g : Nat} {e : TypeId} {k : Nat} {w : World} (hb : lo ≤ g) (hg : w.heap[g]? = some (.cells #[] e (0, 0))) : OV e k lo w (some ⟨g, 0, none⟩) 0 0 [] :=
  ⟨by simp, .inr ⟨g, 0, #[], rfl, hb, hg, Nat.le_refl _, by unfold maxLen; omega, by simp, by simp⟩⟩
theorem OV.ltQ {e : TypeId} {k lo n c : Nat} {w : World} {A : Option Addr} {vs : List Value} (h : OV e k lo w A n c vs) {g : Nat} (ha : A.map (·.block) = some g) : lo ≤ g ∧ g < w.heap.size := by
  rcases h.2 with ⟨h1, h0⟩ | ⟨k, cap, cur, hv, hb, hh, _⟩
  · injection h1 with h1; rw [h1] at ha; cases ha
  · have hA : A = some ⟨k, 0, none⟩ := by injection hv
    rw [hA] at ha
    simp at ha
    subst ha
    refine ⟨hb, ?_⟩
    rcases Nat.lt_or_ge k w.heap.size with h | h
    · exact h
    · rw [Array.getElem?_eq_none h] at hh; cases hh
theorem pcells_len : ∀ xs : List PM, (pcells xs).length = xs.length * 3
  | [] => rfl
  | x :: xs => by rw [show pcells (x :: xs) = x.cells ++ pcells xs by simp [pcells], List.length_append, pcells_len xs, PM.len, List.length_cons]; omega
theorem pcells_inv : ∀ (xs : List PM) (j : Nat) (u : Value), (pcells xs)[j]? = some u → ∃ (i : Nat) (h : i < xs.length) (r : Nat), j = i * 3 + r ∧ xs[i].cells[r]? = some u
  | [], j, u, h => by simp [pcells] at h
  | x :: xs, j, u, h => by
    rw [show pcells (x :: xs) = x.cells ++ pcells xs by simp [pcells]] at h
    by_cases hj : j < 3
    · rw [List.getElem?_append_left (by rw [PM.len]; omega)] at h
      exact ⟨0, by simp, j, by omega, h⟩
    · rw [List.getElem?_append_right (by rw [PM.len]; omega), PM.len] at h
      obtain ⟨i, hi, r, e, h2⟩ := pcells_inv xs (j - 3) u h
      exact ⟨i + 1, by simp; omega, r, by omega, h2⟩
theorem pcells_ones (xs : List PM) : ∀ u ∈ pcells xs, u.oneCell' = true := fun u hu => by
  obtain ⟨l, hl, hul⟩ := List.mem_flatten.1 hu
  obtain ⟨x, _, rfl⟩ := List.mem_map.1 hl
  exact List.all_eq_true.1 x.one u hul
/-- A row appended to a row of the call's own. -/
theorem run_appQ {P : Program} {e : TypeId} (t ty : TypeId) (i : TypeInfo) (z : Value) {k by_ : Nat} (ht : P.underlying t = some (.slice e)) (hi : P.info? e = some i) (hz : i.zero = some z)
    (hsize : i.size = k) (hby : i.bytes = by_) (hzs : z.cells.size = k) (hk : 0 < k) {lo n c : Nat} {w : World} {A : Option Addr} {vs : List Value} (h : OV e k lo w A n c vs) (hlo : lo ≤ w.heap.size)
    (B : Option Addr) (m d : Nat) (ws : List Value) (hl : ws.length = m * k) (hn : 0 < m → ∃ bd, B = some bd ∧ ∀ j u, ws[j]? = some u → w.cell? (bd.add j) = some u) (h1 : ∀ u ∈ ws, u.oneCell' = true)
    (h63 : n + m ≤ maxLen) (hb : (n + m) * by_ ≤ 140737488355328) :
    ∃ A' c' w', (Builtin.append_ #[t, t] ty #[.slice A n c, .slice B m d]).run P w = .ok (.slice A' (n + m) c') w' ∧ OV e k lo w' A' (n + m) c' (vs ++ ws) ∧ ∀ W : World, Ab W w → W.heap.size ≤ lo → Ab W w' := by
  rcases Nat.eq_zero_or_pos m with h0 | hpos
  · subst h0
    have hw : ws = [] := List.eq_nil_of_length_eq_zero (by omega)
    subst hw
    refine ⟨A, c, w, ?_, by simpa using h, fun _ hW _ => hW⟩
    rcases B with _ | bd
    · rcases h.2 with ⟨hv, h0⟩ | ⟨g, cap, cur, hv, _, _, hnc, _⟩
      · injection hv with h1 h2 h3; subst h1 h3
        subst h0
        simp [Builtin.append_, run_underlying ht, sizeOf, typeInfo, hi, Builtin.lenOf, Builtin.firstCells]
      · injection hv with h1 h2 h3; subst h1 h3
        simp [Builtin.append_, run_underlying ht, sizeOf, typeInfo, hi, Builtin.lenOf, Builtin.firstCells, hnc, storeCells]
    · rcases h.2 with ⟨hv, h0⟩ | ⟨g, cap, cur, hv, _, hh, hnc, _⟩
      · injection hv with h1 h2 h3; subst h1 h3
        subst h0
        simp [Builtin.append_, run_underlying ht, sizeOf, typeInfo, hi, Builtin.lenOf, Builtin.firstCells, loadCells, loadCellsFrom]
      · injection hv with h1 h2 h3; subst h1 h3
        simp [Builtin.append_, run_underlying ht, sizeOf, typeInfo, hi, Builtin.lenOf, Builtin.firstCells, hnc, storeCells, loadCells, loadCellsFrom]
  · obtain ⟨bd, rfl, hcell⟩ := hn hpos
    obtain ⟨v', w', hrun, h2, h3, _, h5⟩ := run_append_own_at (P := P) w lo t ty e i z k by_ ht hi hz hsize hby hzs hk _ _ _ h bd m d ws hl hcell h1 h63 hb hlo
    have hrow : Value.ownBlock (.slice A n c) = A.map (·.block) := by cases A <;> rfl
    rw [hrow] at h3
    rcases h2.2 with ⟨_, h0⟩ | ⟨g, cap, cur, rfl, r⟩
    · omega
    · exact ⟨some ⟨g, 0, none⟩, cap, w', hrun, h2, fun W hW hl => Below.grown hW.out h3 hW.size fun g hg => Nat.le_trans hl (h.ltQ hg).1⟩
theorem pts_cells {w : World} {B : Option Addr} {d : Nat} {ys : List PM} (h : Pts w B d ys) (h0 : 0 < ys.length) : ∃ bd, B = some bd ∧ ∀ j u, (pcells ys)[j]? = some u → w.cell? (bd.add j) = some u := by
  obtain ⟨g, o, rfl, hR⟩ := h.r h0
  refine ⟨_, rfl, fun j u hu => ?_⟩
  obtain ⟨i, hi, r, rfl, h2⟩ := pcells_inv ys j u hu
  have e : (⟨g, o, none⟩ : Addr).add (i * 3 + r) = ⟨g, o + i * 3 + r, none⟩ := by
    unfold Addr.add
    split
    · rename_i hz; rw [show o + i * 3 + r = o by omega]
    · simp; omega
  rw [e]
  exact hR i hi r u h2
theorem listAppQ {lo n d : Nat} {w : World} {A B : Option Addr} {c : Nat} {xs ys : List PM} {o : Oper} {a : Act} {ops : Array Oper} {rest : List Oper} {Q : Exit → Act → World → Prop} (hgd : o.guard = none) (s y : Operand)
    (ho : o.op = .call { callee := .builtin .append, args := #[s, y], argTypes := #[25, 25] })
    (hs : a.eval s = .slice A xs.length c) (hy : a.eval y = .slice B n d) (hn : ys.length = n) (h : OV 24 3 lo w A xs.length c (pcells xs)) (hlo : lo ≤ w.heap.size) (hP : Pts w B d ys) (hlen : xs.length + ys.length ≤ 1000000)
    (hK : ∀ A' c' w' zs, Hid (zs = xs ++ ys) → OV 24 3 lo w' A' zs.length c' (pcells zs) → (∀ W : World, Ab W w → W.heap.size ≤ lo → Ab W w') → wpList Try.prog ops Q rest (a.put o.dst (.slice A' zs.length c')) w') :
    wpList Try.prog ops Q (o :: rest) a w := by
  subst hn
  obtain ⟨i0, hi0, hz0, hz1, hz2⟩ := info_parts infoPt
  obtain ⟨A', c', w', hrun, h4, h5⟩ := run_appQ (P := Try.prog) 25 o.type i0 _ Try.underlying25 hi0 hz0 hz1 hz2 rfl (by omega) h hlo B ys.length d (pcells ys) (pcells_len ys) (fun h0 => pts_cells hP h0) (pcells_ones ys) (by unfold maxLen; omega) (by omega)
  refine wpList_plain hgd fun _ hK' => ?_
  unfold Oper.wp execOp
  simp only [ho, resolve, invoke, builtin, Sem.run_bind, Sem.run_pure, Result.andThen_ok, List.map_toArray, List.map_cons, List.map_nil, hs, hy, hrun]
  refine hK' _ _ ?_
  have := hK A' c' w' (xs ++ ys) rfl (by rw [List.length_append, pcells_append]; exact h4) h5
  rwa [List.length_append] at this
theorem OV.ptsQ {lo : Nat} {w : World} {A : Option Addr} {c : Nat} {ps : List PM} (h : OV 24 3 lo w A ps.length c (pcells ps)) (hl : ps.length ≤ 9223372036854775807) (hp : ∀ x ∈ ps, PL w x) : Pts w A c ps := by
  refine ⟨fun hn => ?_, hp, h.leP, hl⟩
  rcases h.2 with ⟨_, h0⟩ | ⟨g, cap, cur, hv, hb, _⟩
  · omega
  · have hA : A = some ⟨g, 0, none⟩ := by injection hv
    have hc := h
    unfold OV at hc
    refine ⟨g, 0, hA, fun i hi j v hj => ?_⟩
    have := hc.cells (g := g) (by rw [hA]; rfl) _ _ (pcells_at ps i hi j v hj)
    have e : (⟨g, 0, none⟩ : Addr).add (i * 3 + j) = ⟨g, 0 + i * 3 + j, none⟩ := by
      unfold Addr.add
      split
      · rename_i h0; rw [show 0 + i * 3 + j = 0 by omega]
      · simp
    rw [e] at this
    exact this
/-- Two good deltas, one behind the other. -/
theorem Dl.joined {s T1 T2 : List UInt8} {l1 l2 : List Dl.Part} {c1 c2 : Int} (g1 : Dl.Good s T1 l1 c1) (g2 : Dl.Good s T2 l2 c2) (hl : l1.length + l2.length ≤ 200) (hs : s.length ≤ 2000) (ht : T1.length + T2.length ≤ 2000) :
    Dl.apply s (l1 ++ l2) = (T1 ++ T2, 0) ∧ Dl.cost (l1 ++ l2) = (Dl.sum (l1 ++ l2), 0) ∧ Dl.check (l1 ++ l2) s.length = 0 ∧ Dl.out s (l1 ++ l2) = T1 ++ T2 := by
  have k1 := Dl.check_zero.1 g1.ck
  have k2 := Dl.check_zero.1 g2.ck
  have hv : Dl.valid (l1 ++ l2) = 0 := Dl.valid_zero.2 ⟨by rw [List.length_append]; omega, fun x hx => by
    rcases List.mem_append.1 hx with hx | hx
    · exact (Dl.valid_zero.1 k1.1).2 x hx
    · exact (Dl.valid_zero.1 k2.1).2 x hx⟩
  have hc : Dl.check (l1 ++ l2) s.length = 0 := Dl.check_zero.2 ⟨hv, fun x hx => by
    rcases List.mem_append.1 hx with hx | hx
    · exact k1.2 x hx
    · exact k2.2 x hx⟩
  have ho : Dl.out s (l1 ++ l2) = T1 ++ T2 := by
    have e1 := (apply_ok g1.ap).2.1
    have e2 := (apply_ok g2.ap).2.1
    unfold Dl.out at e1 e2 ⊢
    rw [List.map_append, List.flatten_append, e1, e2]
  refine ⟨?_, ?_, hc, ho⟩
  · unfold Dl.apply
    rw [if_neg (by omega), if_pos hc, if_neg (by rw [ho, List.length_append]; omega), ho]
  · unfold Dl.cost
    rw [if_pos hv]
/-- What Make returns for small ones, with its length and that no two inserts are neighbours. -/
def RetLj (s T : List UInt8) (w : World) (e : Ending) (w' : World) : Prop := ∃ (P : Option Addr) (cp : Nat) (ps : List PM) (c : Int), e = .returned (.tuple #[.slice P ps.length cp, .int .i64 0]) ∧ Pts w' P cp ps ∧
  Hid (Dl.Good s T (ps.map PM.d) c) ∧ Hid (∀ (k : Nat) (h1 : k < ps.length) (h2 : k + 1 < ps.length), ¬ (ps[k].n = 0 ∧ ps[k + 1].n = 0)) ∧ ps.length ≤ T.length ∧ Ab w w'
theorem make_lj (A D : Option Addr) (c d : Nat) (s T : List UInt8) (w : World) (hM : MaxL w) (hs : RB w 0 A s) (ht : RB w 0 D T) (hc : s.length ≤ c) (hd : T.length ≤ d) (hA : A = none → c = 0) (hsl : s.length ≤ 80) (htl : T.length ≤ 80) :
    Calls Try.prog 13 #[.slice A s.length c, .slice D T.length d] w (RetLj s T w) := by
  refine (make_any A D c d s T w hM hs ht hc hd hA (by omega) (by omega)).mono ?_
  rintro e w' ⟨P, cp, ps, er, rfl, ho, hb, hr⟩
  have hr := hr.out
  rw [if_neg (by omega)] at hr
  obtain ⟨rfl, f, gf, h1, h2⟩ := hr
  have hl : ps.length ≤ T.length := by
    have := (h2.good (by omega) (by omega) h1).2.2.2
    simp at this; omega
  refine ⟨P, cp, ps, f 0, rfl, ho.pts (by omega), Lib.hid (Dl.good_of (by omega) (by omega) h1 h2), Lib.hid fun k k1 k2 => ?_, hl, hb⟩
  exact h2.apart (by omega) (by omega) h1 k ps[k].d ps[k + 1].d (by rw [List.getElem?_map, List.getElem?_eq_getElem k1]; rfl) (by rw [List.getElem?_map, List.getElem?_eq_getElem k2]; rfl)
end Go.Proofs.Ytbhhjbmpcpjcnaa
