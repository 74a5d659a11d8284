/- The reference of the codec: Next, Decode; values compared, walked. Own work. -/
import Derived.Test.YtbhhjbmpcpjcnaaCvRefB
import Derived.Test.YtbhhjbmpcpjcnaaCodecS
import Derived.Test.YtbhhjbmpcpjcnaaCvTry
set_option linter.unusedVariables false
set_option linter.unusedSimpArgs false
namespace Go.Proofs.Ytbhhjbmpcpjcnaa
open Go.RowKit
open Codec (V)

theorem VL.dep : ∀ {d : Nat} {w : World} {S : Nat → Prop} {x : VM}, VL d w S x → Codec.dep d x.v := by
  intro d
  induction d with
  | zero => intro w S x h; exact h.elim
  | succ d ih =>
    intro w S x h e he
    obtain ⟨i, hi, rfl⟩ := List.mem_iff_getElem.1 he
    obtain ⟨g, o, _, _, h3⟩ := h.2.2 (by show 0 < x.l.length; have : i < x.l.length := hi; omega)
    obtain ⟨y, y1, _, y3⟩ := h3 i hi
    have := ih y3
    rw [y1] at this
    exact this
/-- An element's four cells, as the walk reads them. -/
theorem VLs.at_ {d : Nat} {w : World} {S : Nat → Prop} {L : Option Addr} {l : List V} (h : VLs d w S L l) {k : Nat} (hk : k < l.length) : ∃ (a : Addr) (y : VM), L = some a ∧ y.v = l[k] ∧ VL d w S y ∧
    w.cell? (a.add (k * 4)) = some (.int .u8 (y.kind : Int)) ∧ w.cell? ⟨(a.add (k * 4)).block, (a.add (k * 4)).off + 1, none⟩ = some (.int .i64 y.num) ∧
    w.cell? ⟨(a.add (k * 4)).block, (a.add (k * 4)).off + 2, none⟩ = some (.slice y.A y.b.length y.c) ∧ w.cell? ⟨(a.add (k * 4)).block, (a.add (k * 4)).off + 3, none⟩ = some (.slice y.L y.l.length y.d) := by
  obtain ⟨g, o, h1, h2, h3⟩ := h (by omega)
  obtain ⟨y, y1, y2, y3⟩ := h3 k hk
  have e : (⟨g, o, none⟩ : Addr).add (k * 4) = ⟨g, o + k * 4, none⟩ := by
    unfold Addr.add
    split
    · rename_i h0; rw [h0]; rfl
    · rfl
  refine ⟨⟨g, o, none⟩, y, h1, y1, y3, ?_, ?_, ?_, ?_⟩
  · rw [e]; exact y2 0 _ rfl
  · rw [e]; exact y2 1 _ rfl
  · rw [e]; exact y2 2 _ rfl
  · rw [e]; exact y2 3 _ rfl
set_option maxRecDepth 100000 in
set_option maxHeartbeats 1000000 in
theorem rnext_any (A : Option Addr) (l : List UInt8) (c : Nat) (w : World) (hb : RB w 0 A l) (hc : l.length ≤ c) (ll : l.length ≤ 1000000) :
    Calls Try.prog 59 #[.slice A l.length c] w (RetN w l) := by
  have HX := fun w' (hk : Ab w w') => (rread_any 6 (by omega)).out A l c w' (hb.ab hk) hc ll
  go_enter Try.func59, Try.ntmps59
  have Y0 : VB (w.alloc (.cells VM.zero.cells.toArray 58)) w.heap.size VM.zero.cells := VB.box (xs := VM.zero.cells.toArray) (T := 58) (by (repeat (first | exact new_plain wnA | with_reducible refine old_alloc ?_ | with_reducible refine old_drew ?_ | with_reducible refine old_set ?_ wnA | with_reducible refine old_ab (by assumption) ?_)))
  go_wp2_with fail
  refine (HX _ abA).mono ?_
  rintro e w1 ⟨hb1, hm⟩
  have ab1 : Ab w w1 := Ab.trans abA hb1
  have Y1 := Y0.ab hb1
  have Z1 : VB (w1.alloc (.cells VM.zero.cells.toArray 58)) w1.heap.size VM.zero.cells := VB.box (xs := VM.zero.cells.toArray) (T := 58) (by (repeat (first | exact new_plain wnA | with_reducible refine old_alloc ?_ | with_reducible refine old_drew ?_ | with_reducible refine old_set ?_ wnA | with_reducible refine old_ab (by assumption) ?_)))
  have hz := Y1.lt
  have hs1 := hb1.size
  clear Y0 HX
  rcases hrd : Codec.read 6 l with _ | ⟨v, u⟩
  · rw [hrd] at hm
    subst hm
    have HD : Hid (Codec.next l = (V.zero, 0, 12)) := by unfold Hid Codec.next; rw [hrd]
    clear hrd
    go_upto_region 2 with (refine list_stV (o := ⟨none, _, _, _, _, _⟩) (us := VM.zero.cells) _ infoV rfl _ _ rfl rfl rfl Z1 rfl rfl rfl ?_; intro w2 h2)
    have Y2 := h2.vb (Y1.ab abA) (by omega)
    have ab2 := h2.ab w (Ab.trans ab1 abA) ab1.size
    clear h2 Y1 Z1
    go_wp2_with (refine list_stV (o := ⟨none, _, _, _, _, _⟩) (us := VM.zero.cells) _ infoV rfl _ _ rfl rfl rfl Y2 rfl rfl rfl ?_; intro w9 h9)
    refine bodyPost_ret (res_V3 _ infoV Try.underlying58 rfl Try.results59 _ rfl h9.v rfl) rfl ?_
    exact ⟨VM.zero, 0, 12, rfl, HD, vl_zero, h9.ab w ab2 (Nat.le_refl _)⟩
  · rw [hrd] at hm
    obtain ⟨x, rfl, hxv, hx⟩ := hm
    have hu := read_used hrd ll
    have hu0 : ((u : Int) == 0) = false := by rw [beq_eq_false_iff_ne]; omega
    have HD : Hid (Codec.next l = if 3000 < u then (V.zero, 0, 12) else (x.v, (u : Int), 0)) := by unfold Hid Codec.next; rw [hrd, ← hxv]
    clear hrd hxv
    go_upto_region 2 with (refine list_stV (o := ⟨none, _, _, _, _, _⟩) (us := x.cells) _ infoV rfl _ _ rfl rfl rfl Z1 rfl rfl x.one ?_; intro w2 h2)
    have V2 : VB w2 w1.heap.size x.cells := h2.v
    have Y2 := h2.vb (Y1.ab abA) (by omega)
    have ab2 := h2.ab w (Ab.trans ab1 abA) ab1.size
    have hx2 : VL 6 w2 (fun g => w.heap.size + 1 ≤ g) x := VL.mono (fun g hg => by simp at hg; omega) ((hx.lt.ab (w' := w1.alloc (.cells VM.zero.cells.toArray 58)) abA).keep (w' := w2) fun g hg hl => h2.blk g (by have := hg.2; omega))
    clear h2 Y1 Z1 hx hb1 ab1
    generalize w1.heap.size = b1 at *
    by_cases h3 : 3000 < u
    · have h3' : (3000 : Int) < (u : Int) := by omega
      have HD2 : Hid (Codec.next l = (V.zero, 0, 12)) := by unfold Hid; rw [HD.out, if_pos h3]
      clear h3
      go_wp2_with (refine list_stV (o := ⟨none, _, _, _, _, _⟩) (us := VM.zero.cells) _ infoV rfl _ _ rfl rfl rfl Y2 rfl rfl rfl ?_; intro w9 h9)
      refine bodyPost_ret (res_V3 _ infoV Try.underlying58 rfl Try.results59 _ rfl h9.v rfl) rfl ?_
      exact ⟨VM.zero, 0, 12, rfl, HD2, vl_zero, h9.ab w ab2 (Nat.le_refl _)⟩
    · have h3' : ¬ (3000 : Int) < (u : Int) := by omega
      have HD2 : Hid (Codec.next l = (x.v, (u : Int), 0)) := by unfold Hid; rw [HD.out, if_neg h3]
      clear h3
      go_wp2_with (first
        | (refine list_ldV (o := ⟨some 19, _, _, _, _, _⟩) _ infoV Try.underlying58 rfl rfl _ rfl rfl V2 rfl ?_)
        | (refine list_stV (o := ⟨none, _, _, _, _, _⟩) (us := x.cells) _ infoV rfl _ _ rfl rfl rfl Y2 rfl rfl x.one ?_; intro w9 h9))
      refine bodyPost_ret (res_V3 _ infoV Try.underlying58 rfl Try.results59 _ rfl h9.v rfl) rfl ?_
      exact ⟨x, (u : Int), 0, rfl, HD2, VL.mono (fun g hg => by omega) (hx2.keep (w' := w9) fun g hg hl => h9.blk g (by omega)), h9.ab w ab2 (Nat.le_refl _)⟩
set_option maxRecDepth 100000 in
set_option maxHeartbeats 1000000 in
theorem rdecode_any (A : Option Addr) (l : List UInt8) (c : Nat) (w : World) (hb : RB w 0 A l) (hc : l.length ≤ c) (ll : l.length ≤ 1000000) :
    Calls Try.prog 45 #[.slice A l.length c] w (RetD w l) := by
  have HX := fun w' (hk : Ab w w') => rnext_any A l c w' (hb.ab hk) hc ll
  go_enter Try.func45, Try.ntmps45
  have Y0 : VB (w.alloc (.cells VM.zero.cells.toArray 58)) w.heap.size VM.zero.cells := VB.box (xs := VM.zero.cells.toArray) (T := 58) (by (repeat (first | exact new_plain wnA | with_reducible refine old_alloc ?_ | with_reducible refine old_drew ?_ | with_reducible refine old_set ?_ wnA | with_reducible refine old_ab (by assumption) ?_)))
  go_wp2_with fail
  refine (HX _ abA).mono ?_
  rintro e w1 ⟨x, u, er, rfl, hn, hx, hb1⟩
  have ab1 : Ab w w1 := Ab.trans abA hb1
  have Y1 := Y0.ab hb1
  have Z1 : VB (w1.alloc (.cells VM.zero.cells.toArray 58)) w1.heap.size VM.zero.cells := VB.box (xs := VM.zero.cells.toArray) (T := 58) (by (repeat (first | exact new_plain wnA | with_reducible refine old_alloc ?_ | with_reducible refine old_drew ?_ | with_reducible refine old_set ?_ wnA | with_reducible refine old_ab (by assumption) ?_)))
  have hz := Y1.lt
  clear Y0 hb1 HX
  go_upto_region 2 with (refine list_stV (o := ⟨none, _, _, _, _, _⟩) (us := x.cells) _ infoV rfl _ _ rfl rfl rfl Z1 rfl rfl x.one ?_
                         intro w2 h2)
  have V2 : VB w2 w1.heap.size x.cells := h2.v
  have Y2 := h2.vb (Y1.ab abA) (by omega)
  have ab2 := h2.ab w (Ab.trans ab1 abA) ab1.size
  have hx2 : VL 6 w2 (fun g => w.heap.size + 1 ≤ g) x := VL.mono (fun g hg => by simp at hg; omega) ((hx.lt.ab (w' := w1.alloc (.cells VM.zero.cells.toArray 58)) abA).keep (w' := w2) fun g hg hl => h2.blk g (by have := hg.2; omega))
  clear h2 Y1 Z1 hx
  generalize w1.heap.size = b1 at *
  by_cases h0 : er = 0 ∧ u = (l.length : Int)
  · obtain ⟨rfl, rfl⟩ := h0
    have HD : Hid (Codec.decode l = (x.v, 0)) := by unfold Hid Codec.decode; rw [hn.out]; simp
    go_wp2_with (first
      | (refine list_ldV (o := ⟨some 22, _, _, _, _, _⟩) _ infoV Try.underlying58 rfl rfl _ rfl rfl V2 rfl ?_)
      | (refine list_stV (o := ⟨none, _, _, _, _, _⟩) (us := x.cells) _ infoV rfl _ _ rfl rfl rfl Y2 rfl rfl x.one ?_
         intro w9 h9))
    refine bodyPost_ret (res_V2 _ infoV Try.underlying58 rfl Try.results45 _ rfl h9.v rfl) rfl ?_
    exact ⟨x, 0, rfl, HD, VL.mono (fun g hg => by omega) (hx2.keep (w' := w9) fun g hg hl => h9.blk g (by omega)), h9.ab w ab2 (Nat.le_refl _)⟩
  · have HD : Hid (Codec.decode l = (V.zero, 12)) := by
      unfold Hid Codec.decode
      rw [hn.out, if_pos]
      by_cases h1 : er = 0
      · exact .inr fun h2 => h0 ⟨h1, h2⟩
      · exact .inl h1
    by_cases he : er = 0
    · have hne : (u != (l.length : Int)) = true := by simp; intro h; exact h0 ⟨he, h⟩
      subst he
      clear h0 hn
      go_wp2_with (first
        | (refine list_stV (o := ⟨none, _, _, _, _, _⟩) (us := VM.zero.cells) _ infoV rfl _ _ rfl rfl rfl Y2 rfl rfl rfl ?_
           intro w9 h9))
      refine bodyPost_ret (res_V2 _ infoV Try.underlying58 rfl Try.results45 _ rfl h9.v rfl) rfl ?_
      exact ⟨VM.zero, 12, rfl, HD, vl_zero, h9.ab w ab2 (Nat.le_refl _)⟩
    · have he2 : (er == 0) = false := by simpa using he
      have he3 : (er != 0) = true := by simpa using he
      clear h0 hn
      go_wp2_with (first
        | (refine list_stV (o := ⟨none, _, _, _, _, _⟩) (us := VM.zero.cells) _ infoV rfl _ _ rfl rfl rfl Y2 rfl rfl rfl ?_
           intro w9 h9))
      refine bodyPost_ret (res_V2 _ infoV Try.underlying58 rfl Try.results45 _ rfl h9.v rfl) rfl ?_
      exact ⟨VM.zero, 12, rfl, HD, vl_zero, h9.ab w ab2 (Nat.le_refl _)⟩
end Go.Proofs.Ytbhhjbmpcpjcnaa
