/- What stands for a part read, walked; bytes compared. Own work. -/
import Derived.Test.YtjgijpfknhfnjaaDlEnc
import Derived.Test.YtjgijpfknhfnjaaDlOwn
import Derived.Test.YtjgijpfknhfnjaaDlSame
set_option linter.unusedVariables false
set_option linter.unusedSimpArgs false
namespace Go.Proofs.Ytjgijpfknhfnjaa
open Go.RowKit
open Codec (V)

theorem list_ldW {ops : Array Oper} {rest : List Oper} {o : Oper} {a : Act} {w : World} {b : Nat} {Q : Exit → Act → World → Prop} (T : TypeId) {n : Nat} {d : TypeDesc} (k : Nat) (cs : List Value) (hR : w.rangeAt b k cs) (hT : (Try.prog.info? T).map (·.size) = some n) (hu : Try.prog.underlying T = some d) (hd : d.isRow = true) (hw : Region.wanted o (yielded ops a.tmps) = true) (x : Operand) (ho : o.op = .load T x) (hx : a.eval x = .pointer (some ⟨b, k, none⟩)) (hl : cs.length = n)
    (h : wpList Try.prog ops Q rest (a.put o.dst (.agg cs.toArray)) w) : wpList Try.prog ops Q (o :: rest) a w :=
  wpList_step fun K hK => by
    rw [if_pos hw]
    exact wp_load_mid _ x ho b k hx cs _ hR hu hd (by rw [hT, hl]) (hK _ _ h)
set_option maxRecDepth 100000 in
theorem bequal_any (A B : Option Addr) (c d : Nat) (x y : List UInt8) (w : World) (hx : RB w 0 A x) (hy : RB w 0 B y) :
    Calls Try.prog 35 #[.slice A x.length c, .slice B y.length d] w fun e w' => e = .returned (.bool (x == y)) ∧ Ab w w' := by
  have cx := conv_str c hx
  have cy := conv_str d hy
  have hq : (x == y) = ((⟨x.toArray⟩ : ByteArray).toList == (⟨y.toArray⟩ : ByteArray).toList) := by
    rw [ByteArray.toList_eq, ByteArray.toList_eq]
  rw [hq]
  generalize (⟨x.toArray⟩ : ByteArray) = sx at *
  generalize (⟨y.toArray⟩ : ByteArray) = sy at *
  clear hq hx hy
  go_enter Try.func35, Try.ntmps35
  go_wp2
  go_ret
  exact ⟨rfl, abA⟩
/-- The call's own list of parts, whose bytes lie in blocks of P or in the call's own, none in the list's. -/
def OwnPp (lo : Nat) (P : Nat → Prop) (w : World) (A : Option Addr) (c : Nat) (ps : List PM) : Prop :=
  OV 24 3 lo w A ps.length c (pcells ps) ∧ ∀ y ∈ ps, PO w (fun g => (P g ∨ lo ≤ g) ∧ A.map (·.block) ≠ some g) y
section
variable {w w' : World} {lo c : Nat} {P : Nat → Prop} {A : Option Addr} {ps : List PM} {x : PM}
theorem OwnPp.nil : OwnPp lo P w none 0 [] := ⟨World.ownsRow_nil _ _ _ _, fun y h => absurd h (by simp)⟩
theorem OwnPp.keep (h : OwnPp lo P w A c ps) (hk : ∀ g, (P g ∨ lo ≤ g) → g < w.heap.size → w'.heap[g]? = w.heap[g]?) : OwnPp lo P w' A c ps :=
  ⟨h.1.keepP fun g h1 h2 => hk g (.inr h1) h2, fun y hy => (h.2 y hy).keep fun g hg hl => hk g hg.1 hl⟩
theorem OwnPp.ab (h : OwnPp lo P w A c ps) (k : Ab w w') : OwnPp lo P w' A c ps := h.keep fun g _ hg => k.out.block g hg
theorem OwnPp.le (h : OwnPp lo P w A c ps) : ps.length ≤ c := h.1.leP
theorem OwnPp.own {lo' : Nat} (h : OwnPp lo P w A c ps) (hl : lo' ≤ lo) (hP : ∀ g, P g → lo' ≤ g) : OwnPts lo' w A c ps := by
  refine ⟨⟨h.1.1, ?_⟩, fun y hy => (h.2 y hy).mono fun g hg => ⟨hg.1.elim (hP g) (Nat.le_trans hl), hg.2⟩⟩
  rcases h.1.2 with h0 | ⟨g, cap, cur, hv, hb, r⟩
  · exact .inl h0
  · exact .inr ⟨g, cap, cur, hv, Nat.le_trans hl hb, r⟩
theorem OwnPp.snoc {g c' : Nat} (h : OwnPp lo P w A c ps) (hx : PO w (fun g => (P g ∨ lo ≤ g) ∧ A.map (·.block) ≠ some g) x)
    (hv : OV 24 3 lo w' (some ⟨g, 0, none⟩) (ps.length + 1) c' (pcells ps ++ x.cells)) (hg : w.grownBy w' (A.map (·.block))) (hk : A.map (·.block) = some g ∨ g = w.heap.size) :
    OwnPp lo P w' (some ⟨g, 0, none⟩) c' (ps ++ [x]) := by
  have key : ∀ y : PM, PO w (fun g => (P g ∨ lo ≤ g) ∧ A.map (·.block) ≠ some g) y → PO w' (fun k => (P k ∨ lo ≤ k) ∧ (some (⟨g, 0, none⟩ : Addr)).map (·.block) ≠ some k) y := by
    intro y hy
    refine PO.mono (hy.lt.keep fun k hk' hl => hg.block k hl fun e => hk'.1.2 e.symm) ?_
    rintro k ⟨⟨h1, h2⟩, h3⟩
    refine ⟨h1, ?_⟩
    rcases hk with hk | hk
    · rw [hk] at h2; exact h2
    · simp; omega
  refine ⟨?_, fun y hy => ?_⟩
  · rw [pcells_append, pcells_one, List.length_append]; exact hv
  · rcases List.mem_append.1 hy with hy | hy
    · exact key y (h.2 y hy)
    · obtain rfl : y = x := by simpa using hy
      exact key y hx
theorem OwnPp.at_ (h : OwnPp lo P w A c ps) {g : Nat} (e : A.map (·.block) = some g) : lo ≤ g ∧ g < w.heap.size := by
  rcases h.1.2 with ⟨h1, h0⟩ | ⟨k, cap, cur, hv, hb, hh, _⟩
  · injection h1 with h1; rw [h1] at e; cases e
  · have hA : A = some ⟨k, 0, none⟩ := by injection hv
    rw [hA] at e
    simp at e
    subst e
    refine ⟨hb, ?_⟩
    rcases Nat.lt_or_ge k w.heap.size with h | h
    · exact h
    · rw [Array.getElem?_eq_none h] at hh; cases hh
end
theorem listAppPp {lo : Nat} {P : Nat → Prop} {w : World} {A : Option Addr} {c : Nat} {ps : List PM} {x : PM} {o : Oper} {a : Act} {g e : Nat} {fr : Nat × Nat} {ops : Array Oper} {rest : List Oper} {Q : Exit → Act → World → Prop} (hgd : o.guard = none) (s y : Operand) (ho : o.op = .call { callee := .builtin .append, args := #[s, y], argTypes := #[25, 25] })
    (hs : a.eval s = .slice A ps.length c) (hy : a.eval y = .slice (some ⟨g, 0, none⟩) 1 e) (h : OwnPp lo P w A c ps) (hlo : lo ≤ w.heap.size)
    (hg : w.heap[g]? = some (.cells x.cells.toArray 24 fr)) (hx : PO w (fun g => (P g ∨ lo ≤ g) ∧ A.map (·.block) ≠ some g) x) (hlen : ps.length ≤ 1000000)
    (hK : ∀ g' c' w' zs, Hid (zs = ps ++ [x]) → OwnPp lo P w' (some ⟨g', 0, none⟩) c' zs → w.grownBy w' (A.map (·.block)) → (∀ W : World, Ab W w → W.heap.size ≤ lo → Ab W w') → wpList Try.prog ops Q rest (a.put o.dst (.slice (some ⟨g', 0, none⟩) zs.length c')) w') :
    wpList Try.prog ops Q (o :: rest) a w := by
  obtain ⟨i0, hi0, hz0, hz1, hz2⟩ := info_parts infoPt
  refine wpList_plain hgd fun _ hK' => ?_
  refine wp_appV (ws := x.cells) s y _ ho i0 _ Try.underlying25 hi0 hz0 hz1 hz2 rfl (by omega) hs hy h.1 hlo rfl ?_ ?_ (by omega) (by unfold maxLen; omega) (by omega) ?_
  · intro j u hu
    have e : (⟨g, 0, none⟩ : Addr).add j = ⟨g, j, none⟩ := by unfold Addr.add; split <;> simp_all
    rw [e]
    unfold World.cell?
    rw [hg]
    simpa using hu
  · intro u hu
    exact List.all_eq_true.1 x.one u hu
  · intro g' c' w' h4 h5 h6
    have := hK' _ _ (hK g' c' w' (ps ++ [x]) rfl (h.snoc hx h4 h5 h6) h5 (fun W hW hl => grown_ab hW h5 (fun r hr => by have := (h.at_ hr).1; omega)))
    rwa [List.length_append] at this
/-- The elements of a value that lies in memory. -/
theorem vl_elem {d : Nat} {w : World} {S : Nat → Prop} {x : VM} (h : VL (d + 1) w S x) {k : Nat} (hk : k < x.l.length) : ∃ g o, x.L = some ⟨g, o, none⟩ ∧ S g ∧ ∃ y : VM, y.v = x.l[k] ∧ w.rangeAt g (o + k * 4) y.cells ∧ VL d w S y := by
  obtain ⟨g, o, h1, h2, h3⟩ := h.2.2 (by omega)
  exact ⟨g, o, h1, h2, h3 k hk⟩
set_option maxRecDepth 100000 in
set_option maxHeartbeats 4000000 in
theorem partin_any (d : Nat) (y : VM) (S : Nat → Prop) (w : World) (h : VL (d + 2) w S y) :
    Calls Try.prog 34 #[y.val] w fun e w' => ∃ x : PM, e = .returned (.agg x.cells.toArray) ∧ Hid (x.d = Dl.pin y.v) ∧ PO w' S x ∧ Ab w w' := by
  have hB := Lib.hid h.bytes
  have h1 := h.1
  by_cases h2 : y.l.length = 2
  · obtain ⟨g, o, hL, hSg, u, hu, hRu, hlu⟩ := vl_elem h (k := 0) (by omega)
    obtain ⟨g', o', hL', _, v, hv, hRv, hlv⟩ := vl_elem h (k := 1) (by omega)
    rw [hL] at hL'
    obtain ⟨rfl, rfl⟩ : g = g' ∧ o = o' := by injection hL' with h; injection h with h1 h2; exact ⟨h1, h2⟩
    have c0 : w.cell? ⟨g, o + 1, none⟩ = some (.int .i64 u.num) := by have := hRu 1 (.int .i64 u.num) rfl; simpa using this
    have c1 : w.cell? ⟨g, o + 4 + 1, none⟩ = some (.int .i64 v.num) := by have := hRv 1 (.int .i64 v.num) rfl; simpa using this
    have HD : Hid ((⟨u.num, v.num, []⟩ : Dl.Part) = Dl.pin y.v) := by
      unfold Hid Dl.pin
      rw [if_pos (show y.v.l.length = 2 from h2)]
      have e0 : y.v.l.getD 0 V.zero = u.v := by show y.l.getD 0 V.zero = _; rw [List.getD_eq_getElem?_getD, List.getElem?_eq_getElem (by omega), Option.getD_some, hu]
      have e1 : y.v.l.getD 1 V.zero = v.v := by show y.l.getD 1 V.zero = _; rw [List.getD_eq_getElem?_getD, List.getElem?_eq_getElem (by omega), Option.getD_some, hv]
      rw [e0, e1]; rfl
    have u1 := Lib.hid hlu.1
    have v1 := Lib.hid hlv.1
    clear hu hv hRu hRv hlu hlv hL' h
    generalize Dl.pin y.v = pp at *
    obtain ⟨yk, yn, yA, yb, yc, yL, yl, yd⟩ := y
    simp only at h2 hL h1 hB
    subst hL
    generalize u.num = un at *
    generalize v.num = vn at *
    unfold VM.val VM.cells
    simp only
    rw [h2]
    clear h2
    go_enter Try.func34, Try.ntmps34
    have V0 : VB ((w.alloc (.cells #[.int .u8 (yk : Int), .int .i64 yn, .slice yA yb.length yc, .slice (some ⟨g, o, none⟩) 2 yd] 58)).alloc (.cells #[.int .i64 0, .int .i64 0, .slice none 0 0] 24)) w.heap.size [.int .u8 (yk : Int), .int .i64 yn, .slice yA yb.length yc, .slice (some ⟨g, o, none⟩) 2 yd] := VB.box (xs := #[.int .u8 (yk : Int), .int .i64 yn, .slice yA yb.length yc, .slice (some ⟨g, o, none⟩) 2 yd]) (T := 58) (by (repeat (first | exact new_plain wnA | with_reducible refine old_alloc ?_ | with_reducible refine old_drew ?_ | with_reducible refine old_set ?_ wnA | with_reducible refine old_ab (by assumption) ?_)))
    have Z0 : VB ((w.alloc (.cells #[.int .u8 (yk : Int), .int .i64 yn, .slice yA yb.length yc, .slice (some ⟨g, o, none⟩) 2 yd] 58)).alloc (.cells #[.int .i64 0, .int .i64 0, .slice none 0 0] 24)) (w.heap.size + 1) PM.zero.cells := VB.box (xs := #[.int .i64 0, .int .i64 0, .slice none 0 0]) (T := 24) (by (repeat (first | exact new_plain wnA | with_reducible refine old_alloc ?_ | with_reducible refine old_drew ?_ | with_reducible refine old_set ?_ wnA | with_reducible refine old_ab (by assumption) ?_)))
    have b0 : Ab w ((w.alloc (.cells #[.int .u8 (yk : Int), .int .i64 yn, .slice yA yb.length yc, .slice (some ⟨g, o, none⟩) 2 yd] 58)).alloc (.cells #[.int .i64 0, .int .i64 0, .slice none 0 0] 24)) := abA
    go_upto_region 1 with fail
    generalize ((w.alloc (.cells #[.int .u8 (yk : Int), .int .i64 yn, .slice yA yb.length yc, .slice (some ⟨g, o, none⟩) 2 yd] 58)).alloc (.cells #[.int .i64 0, .int .i64 0, .slice none 0 0] 24)) = w0 at *
    have q3 := V0.at 3 (show ([.int .u8 (yk : Int), .int .i64 yn, .slice yA yb.length yc, .slice (some ⟨g, o, none⟩) 2 yd] : List Value)[3]? = some (.slice (some ⟨g, o, none⟩) 2 yd) from rfl)
    have k0 := b0.at c0
    have k1 := b0.at c1
    go_upto_region 2 with fail
    refine wp_region_held_drew (by kernel_rfl) (S := fun w' => VB w' w.heap.size [.int .u8 (yk : Int), .int .i64 yn, .slice yA yb.length yc, .slice (some ⟨g, o, none⟩) 2 yd] ∧ w'.cell? ⟨g, o + 1, none⟩ = some (.int .i64 un) ∧ w'.cell? ⟨g, o + 4 + 1, none⟩ = some (.int .i64 vn)) ?_ (fun hHeld => ?_)
    · exact ⟨VB.ab V0 abA, (show Ab w0 _ from abA).at k0, (show Ab w0 _ from abA).at k1⟩
    (refine rtA 0 ?_ ?_
     (try simp only [Act.put, stA, st0, st1]))
    (refine rtA 1 (.slice (some ⟨g, o, none⟩) 2 yd) ?_ (hy := by intro w hSw; have z0 := hSw.1.at 3 rfl; go_simp; (try with_reducible rfl)); (try simp only [Act.put, stA, st0, st1]))
    (refine rtA 2 ?_ ?_
     (try simp only [Act.put, stA, st0, st1]))
    (refine rtA 3 ?_ ?_
     (try simp only [Act.put, stA, st0, st1]))
    (refine rtA 4 (.int .i64 un) ?_ (hy := by intro w hSw; have z0 := hSw.2.1; go_simp; (try with_reducible rfl)); (try simp only [Act.put, stA, st0, st1]))
    (refine rtA 5 ?_ ?_
     (try simp only [Act.put, stA, st0, st1]))
    (refine rtA 6 (.slice (some ⟨g, o, none⟩) 2 yd) ?_ (hy := by intro w hSw; have z0 := hSw.1.at 3 rfl; go_simp; (try with_reducible rfl)); (try simp only [Act.put, stA, st0, st1]))
    (refine rtA 7 ?_ ?_
     (try simp only [Act.put, stA, st0, st1]))
    (refine rtA 8 ?_ ?_
     (try simp only [Act.put, stA, st0, st1]))
    (refine rtA 9 (.int .i64 vn) ?_ (hy := by intro w hSw; have z0 := hSw.2.2; go_simp; (try with_reducible rfl)); (try simp only [Act.put, stA, st0, st1]))
    (refine rtA 10 ?_ ?_
     (try simp only [Act.put, stA, st0, st1]))
    refine r1A 11 (fun K hK => ?_)
    (try simp only [Act.put, List.getElem_toArray, List.getElem_cons_succ, List.getElem_cons_zero, stA, st0, st1])
    refine if_go (by rfl) ?_
    refine wp_stV (us := [.int .i64 un, .int .i64 vn, .slice none 0 0]) _ infoP _ _ rfl rfl rfl (Z0.ab (w' := _) abA) rfl rfl rfl ?_
    intro w9 h9
    have b9 : Ab w w9 := h9.ab w (b0.trans abA) (by omega)
    have V9 : VB w9 w.heap.size [.int .u8 (yk : Int), .int .i64 yn, .slice yA yb.length yc, .slice (some ⟨g, o, none⟩) 2 yd] := h9.vb (V0.ab abA) (by omega)
    (refine hK.out _ _ ?_ (fun hHeld => ?_)
     · (try dsimp only); exact ⟨V9, b9.at c0, b9.at c1⟩
     clear hK K
     (try simp only [Act.put, stA, st0, st1]))
    refine wpAnyH_done (by kernel_rfl) ?_ _
    go_wp2
    refine bodyPost_ret (res_V1 _ infoP Try.underlying24 rfl Try.results34 _ rfl h9.v rfl) rfl ?_
    exact ⟨⟨un, vn, none, [], 0⟩, rfl, HD, ⟨RS.nil, by simp, by simp, u1.out.2.1, u1.out.2.2.1, v1.out.2.1, v1.out.2.2.1⟩, b9⟩
  · have HD : Hid ((⟨0, 0, y.b⟩ : Dl.Part) = Dl.pin y.v) := by
      unfold Hid Dl.pin
      rw [if_neg (show ¬ y.v.l.length = 2 from h2)]; rfl
    clear h
    generalize Dl.pin y.v = pp at *
    obtain ⟨yk, yn, yA, yb, yc, yL, yl, yd⟩ := y
    simp only at h2 h1 hB HD
    have h2' : ¬ (yl.length : Int) = 2 := by omega
    have h2q : ((yl.length : Int) == 2) = false := by simpa using h2'
    unfold VM.val VM.cells
    simp only
    clear h2
    go_enter Try.func34, Try.ntmps34
    have V0 : VB ((w.alloc (.cells #[.int .u8 (yk : Int), .int .i64 yn, .slice yA yb.length yc, .slice yL yl.length yd] 58)).alloc (.cells #[.int .i64 0, .int .i64 0, .slice none 0 0] 24)) w.heap.size [.int .u8 (yk : Int), .int .i64 yn, .slice yA yb.length yc, .slice yL yl.length yd] := VB.box (xs := #[.int .u8 (yk : Int), .int .i64 yn, .slice yA yb.length yc, .slice yL yl.length yd]) (T := 58) (by (repeat (first | exact new_plain wnA | with_reducible refine old_alloc ?_ | with_reducible refine old_drew ?_ | with_reducible refine old_set ?_ wnA | with_reducible refine old_ab (by assumption) ?_)))
    have Z0 : VB ((w.alloc (.cells #[.int .u8 (yk : Int), .int .i64 yn, .slice yA yb.length yc, .slice yL yl.length yd] 58)).alloc (.cells #[.int .i64 0, .int .i64 0, .slice none 0 0] 24)) (w.heap.size + 1) PM.zero.cells := VB.box (xs := #[.int .i64 0, .int .i64 0, .slice none 0 0]) (T := 24) (by (repeat (first | exact new_plain wnA | with_reducible refine old_alloc ?_ | with_reducible refine old_drew ?_ | with_reducible refine old_set ?_ wnA | with_reducible refine old_ab (by assumption) ?_)))
    have b0 : Ab w ((w.alloc (.cells #[.int .u8 (yk : Int), .int .i64 yn, .slice yA yb.length yc, .slice yL yl.length yd] 58)).alloc (.cells #[.int .i64 0, .int .i64 0, .slice none 0 0] 24)) := abA
    go_upto_region 1 with fail
    generalize ((w.alloc (.cells #[.int .u8 (yk : Int), .int .i64 yn, .slice yA yb.length yc, .slice yL yl.length yd] 58)).alloc (.cells #[.int .i64 0, .int .i64 0, .slice none 0 0] 24)) = w0 at *
    have q3 := V0.at 3 (show ([.int .u8 (yk : Int), .int .i64 yn, .slice yA yb.length yc, .slice yL yl.length yd] : List Value)[3]? = some (.slice yL yl.length yd) from rfl)
    have q2 := V0.at 2 (show ([.int .u8 (yk : Int), .int .i64 yn, .slice yA yb.length yc, .slice yL yl.length yd] : List Value)[2]? = some (.slice yA yb.length yc) from rfl)
    go_wp2_with (refine list_stV (o := ⟨none, _, _, _, _, _⟩) (us := [.int .i64 0, .int .i64 0, .slice yA yb.length yc]) _ infoP rfl _ _ rfl rfl rfl Z0 rfl rfl rfl ?_; intro w9 h9)
    refine bodyPost_ret (res_V1 _ infoP Try.underlying24 rfl Try.results34 _ rfl h9.v rfl) rfl ?_
    have b9 : Ab w w9 := h9.ab w b0 (by omega)
    exact ⟨⟨0, 0, yA, yb, yc⟩, rfl, HD, ⟨hB.out.ab b9, h1.2.2.2.1, h1.2.2.2.2.1, by simp, by simp, by simp, by simp⟩, b9⟩
end Go.Proofs.Ytjgijpfknhfnjaa
