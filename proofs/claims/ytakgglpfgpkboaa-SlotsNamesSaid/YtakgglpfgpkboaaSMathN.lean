/- The examples, limits and errors of SlotsNames. No program is named. Own work. -/
import Derived.Test.YtakgglpfgpkboaaSMathA
set_option linter.unusedVariables false
namespace Go.Proofs.Ytakgglpfgpkboaa
namespace Slots
open Frame (Rec Pre IsScan enc)
open Disk (Dev)

theorem nm_new : new 20001 = (zero, 2) := if_pos (by decide)
theorem nm_many (b : List UInt8) (h : b.length = 1001) : save G2 b = (zero, 0, 4) := by
  have e : asked G2 b = 4 := asked_many op_G2.1.nb (by omega)
  unfold save
  rw [if_pos (by rw [e]; decide), e]
theorem nm_full (b : List UInt8) (h : b.length = 89) : save G2 b = (zero, 0, 18) := by
  have e : asked G2 b = 18 := asked_full op_G2.1.nb (by omega) (by decide) (by show (100 : Int) < 12 + (b.length : Int); omega)
  unfold save
  rw [if_pos (by rw [e]; decide), e]
theorem nm_88 (b : List UInt8) (h : b.length = 88) : (save G2 b).2 = (3, 0) := by
  rw [save_ok (ask2 (by omega))]; rfl
def Last : Sl := ⟨G2.a, G2.b, 1000000000⟩
def End : Sl := ⟨⟨enc ⟨1000000000, []⟩, [], 100, false⟩, ⟨enc ⟨1, [97]⟩, [], 100, false⟩, 1000000001⟩
theorem good_Last : Good Last := op_G2.1.num (by decide) (by decide)
theorem nm_last : save Last [] = (End, 1000000000, 0) := (save_ok (ask good_Last (by decide) (by decide) (by decide))).trans rfl
theorem good_End : Good End := saved_good (o := Last) (b := []) (ask good_Last (by decide) (by decide) (by decide))
theorem first_1 : first (enc ⟨1, [97]⟩ ++ []) = some ⟨1, [97]⟩ := first_enc (valid_of ask0) []
theorem first_2 : first (enc ⟨2, [98, 99]⟩ ++ []) = some ⟨2, [98, 99]⟩ := first_enc (valid_of ask1) []
theorem first_e : first (enc ⟨1000000000, []⟩ ++ []) = some ⟨1000000000, []⟩ := first_enc (r := ⟨1000000000, []⟩) ⟨by decide, by decide, by decide⟩ []
theorem lds_End : Lds End 1000000000 [] := by
  refine lds_newest (q := ⟨1000000000, []⟩) good_End.a good_End.b ?_
  have h1 : ck End.a 0 = some ⟨1000000000, []⟩ := ck_of first_e (by decide)
  have h2 : ck End.b 1 = some ⟨1, [97]⟩ := ck_of first_1 (by decide)
  unfold newest
  rw [h1, h2]
  simp [newer]
theorem nm_end : save End [] = (zero, 0, 2) := by
  have e : asked End [] = 2 := asked_arg good_End.nb (by decide) (by decide)
  unfold save
  rw [if_pos (by rw [e]; decide), e]
theorem nm_endh : half End [] 9 9 = (zero, 2) := by
  have e : asked End [] = 2 := asked_arg good_End.nb (by decide) (by decide)
  unfold half
  rw [if_pos (by rw [e]; decide), e]
theorem half_bad {k keep : Int} (h : k < 0 ∨ 3 < k) : half G2 [] k keep = (zero, 2) := by
  unfold half
  rw [if_neg (by rw [ask2 (by decide)]; decide), if_pos h]
theorem nm_h4 : half G2 [] 4 0 = (zero, 2) := half_bad (by decide)
theorem nm_hm : half G2 [] (-1) 0 = (zero, 2) := half_bad (by decide)
theorem nm_h2 : half G2 [] 2 13 = (zero, 2) := by
  have ha := ask2 (b := []) (by decide)
  have hc := op_G2.1.cur
  have hl : ((enc ⟨G2.n, []⟩).length : Int) ≤ G2.cur.cap := by rw [Frame.enc_length]; decide
  unfold half
  rw [if_neg (by rw [ha]; decide), if_neg (by decide), wr_2 (by decide) (by decide), trunc_ok hc, app_ok hc.cap1 hl, crash_tail hc.cap1 hl]
  rw [if_pos (show (13 : Int) < 0 ∨ ((enc ⟨G2.n, []⟩).length : Int) < 13 by right; rw [Frame.enc_length]; decide)]
  rfl
theorem nm_h3 : half G2 [] 3 1 = (zero, 2) := by
  have ha := ask2 (b := []) (by decide)
  have hc := op_G2.1.cur
  have ho : Ok ⟨enc ⟨G2.n, []⟩, [], G2.cur.cap, false⟩ := ok_mk hc.cap1 (by rw [Frame.enc_length]; decide)
  unfold half
  rw [if_neg (by rw [ha]; decide), if_neg (by decide), wr_good ha, crash_ok' ho (by decide)]
  rfl
theorem left1 : left G2 [] 1 0 [] := .inr (.inl ⟨rfl, rfl⟩)
theorem left3 : left G2 [120] 3 0 (enc ⟨3, [120]⟩) := .inr (.inr (.inr ⟨rfl, rfl⟩))
theorem left0 : left G2 [120] 0 0 (enc ⟨1, [97]⟩) := .inl ⟨rfl, rfl⟩
theorem nm_l1 : half G2 [] 1 0 = (GH [], 0) := half_G2 (by decide) _ left1 (by decide)
theorem nm_l3 : half G2 [120] 3 0 = (GH (enc ⟨3, [120]⟩), 0) := half_G2 (by decide) _ left3 (by decide)
theorem nm_l0 : half G2 [120] 0 0 = (GH (enc ⟨1, [97]⟩), 0) := half_G2 (by decide) _ left0 (by decide)
theorem lds_l1 : Lds (GH []) 2 [98, 99] := lds_before (by decide) left1 (by decide) (.inr (.inl rfl))
theorem lds_l3 : Lds (GH (enc ⟨3, [120]⟩)) 3 [120] := lds_after (by decide)
theorem lds_l0 : Lds (GH (enc ⟨1, [97]⟩)) 2 [98, 99] := lds_before (by decide) left0 (by rw [Frame.enc_length]; decide) (.inl rfl)

/-! Wrong slots. -/
def Wrong : Sl := ⟨G2.b, G2.a, 3⟩
def Wrong1 : Sl := ⟨G2.b, G2.a, 1⟩
theorem newest_Wrong (n : Int) : newest ⟨G2.b, G2.a, n⟩ = none := by
  unfold newest
  have h1 : ck G2.b 0 = none := by
    unfold ck
    rw [show first G2.b.all = some ⟨1, [97]⟩ from first_1]
    exact if_neg (by decide)
  have h2 : ck G2.a 1 = none := by
    unfold ck
    rw [show first G2.a.all = some ⟨2, [98, 99]⟩ from first_2]
    exact if_neg (by decide)
  rw [h1, h2]; rfl
theorem nm_wrong : open_ Wrong = (Wrong1, 0) := (open_good (s := Wrong) op_G2.1.b op_G2.1.a).trans (by rw [show newest Wrong = none from newest_Wrong 3]; rfl)
theorem nm_none : load Wrong1 = (0, [], 6) := by
  rw [load_good (s := Wrong1) ⟨op_G2.1.b, op_G2.1.a, by decide, by decide⟩, show newest Wrong1 = none from newest_Wrong 1]; rfl
def STail : Sl := ⟨G2.a, ⟨G2.b.s, [1], 100, false⟩, 3⟩
def SDown : Sl := ⟨⟨G2.a.s, [], 100, true⟩, G2.b, 3⟩
def SZero : Sl := ⟨G2.a, G2.b, 0⟩
def SWild : Sl := ⟨Disk.zero, ⟨[], [], -1, false⟩, 0⟩
theorem nm_tail : check STail = 8 := check_bad (.inr (.inl (.inr (by decide))))
theorem nb_down : ¬ Disk.bad SDown.a := by
  have h := op_G2.1.a.nb
  show ¬ Disk.bad ⟨G2.a.s, [], 100, true⟩
  have hl := op_G2.1.a.fits
  rw [Disk.bad_iff]
  have : G2.a.cap = 100 := rfl
  simp; omega
theorem nm_down : check SDown = 8 := check_bad (.inl (.inl (by rw [Disk.up_down nb_down rfl]; decide)))
theorem nm_zero : check SZero = 8 := check_bad (.inr (.inr (.inl (by decide))))
theorem nm_given : check G2 = 0 := check_ok op_G2.1.nb
theorem nm_wild : open_ SWild = (zero, 8) := if_pos (.inr (.inl (by decide)))
theorem lds_open {r : Sl} (ha : ¬ Disk.bad r.a) (hb : ¬ Disk.bad r.b) {q : Rec} (h : newest ⟨op r.a, op r.b, 1⟩ = some q) : Lds r q.num q.data := by
  have hv := newest_valid h
  have hg := op_of (s := ⟨op r.a, op r.b, 1⟩) (op_ok ha) (op_ok hb)
  refine ⟨opened r, if_neg (by rintro (k | k); exact ha k; exact hb k), ?_, ?_, hv.1, hv.2.1⟩
  · refine (load_good hg.1).trans ?_
    rw [newest_num]
    show found (newest ⟨op r.a, op r.b, 1⟩) = _
    rw [h]; rfl
  · show nextOf (newest ⟨op r.a, op r.b, 1⟩) = _
    rw [h]; rfl
theorem newest_two {x y : Dev} (hx : first x.all = some ⟨2, [98, 99]⟩) (hy : first y.all = some ⟨1, [97]⟩) (n : Int) : newest ⟨x, y, n⟩ = some ⟨2, [98, 99]⟩ := by
  unfold newest
  rw [ck_of (r := ⟨2, [98, 99]⟩) hx (by decide), ck_of (r := ⟨1, [97]⟩) hy (by decide)]
  simp [newer]
theorem lds_down : Lds SDown 2 [98, 99] := by
  refine lds_open (r := SDown) (q := ⟨2, [98, 99]⟩) nb_down op_G2.1.b.nb (newest_two ?_ ?_ 1)
  · show first ((G2.a.s ++ []) ++ []) = _
    rw [List.append_nil]; exact first_2
  · show first ((G2.b.s ++ []) ++ []) = _
    rw [List.append_nil]; exact first_1
theorem lds_tail : Lds STail 2 [98, 99] := by
  refine lds_open (r := STail) (q := ⟨2, [98, 99]⟩) op_G2.1.a.nb ?_ (newest_two ?_ ?_ 1)
  · show ¬ Disk.bad ⟨enc ⟨1, [97]⟩, [1], 100, false⟩
    rw [Disk.bad_iff, Frame.enc_length]; simp
  · show first ((G2.a.s ++ []) ++ []) = _
    rw [List.append_nil]; exact first_2
  · show first ((enc ⟨1, [97]⟩ ++ [1]) ++ []) = _
    rw [List.append_nil]; exact first_enc (valid_of ask0) [1]
end Slots
end Go.Proofs.Ytakgglpfgpkboaa
