/- The chapter's examples. No program is named. Own work. -/
import Derived.Test.YtakgglpfgpkboaaSMath
set_option linter.unusedVariables false
namespace Go.Proofs.Ytakgglpfgpkboaa
namespace Slots
open Frame (Rec Pre IsScan enc)
open Disk (Dev)

/-- Opening r and loading gives a number and bytes. -/
def Lds (r : Sl) (num : Int) (want : List UInt8) : Prop := ∃ o, open_ r = (o, 0) ∧ load o = (num, want, 0) ∧ o.n = num + 1 ∧ 0 ≤ num ∧ num ≤ 1000000000
theorem lds_newest {r : Sl} (ha : Ok r.a) (hb : Ok r.b) {q : Rec} (h : newest r = some q) : Lds r q.num q.data := by
  have hv := newest_valid h
  refine ⟨_, open_good ha hb, ?_, ?_, hv.1, hv.2.1⟩
  · rw [load_good (op_of ha hb).1, newest_num, h]; rfl
  · rw [h]; rfl
theorem lds_saved {o : Sl} (h : Op o) {b : List UInt8} (ha : asked o b = 0) : Lds (o.put ⟨enc ⟨o.n, b⟩, [], o.cur.cap, false⟩ o.oth (o.n + 1)) o.n b := by
  have hg := saved_good ha
  exact lds_newest hg.a hg.b (saved_newest h ha _)
theorem lds_left {o : Sl} (hg : Good o) {xs : List UInt8} (hl : (xs.length : Int) ≤ o.cur.cap) {q : Rec} (h : newest (o.put ⟨xs, [], o.cur.cap, false⟩ o.oth 1) = some q) :
    Lds (o.put ⟨xs, [], o.cur.cap, true⟩ ⟨o.oth.s, [], o.oth.cap, true⟩ o.n) q.num q.data := by
  have hv := newest_valid h
  have hG := left_good hg hl (q.num + 1) (by have := hv.1; omega) (by have := hv.2.1; omega)
  refine ⟨_, (open_left hg hl).trans (by rw [h]), ?_, rfl, hv.1, hv.2.1⟩
  refine (load_good hG).trans ?_
  show found (newest (o.put ⟨xs, [], o.cur.cap, false⟩ o.oth 1)) = _
  rw [h]; rfl
theorem half_of {o : Sl} {b : List UInt8} (ha : asked o b = 0) {k keep : Int} (xs : List UInt8) (h : left o b k keep xs) (hz : k ≠ 2 → keep = 0) :
    half o b k keep = (o.put ⟨xs, [], o.cur.cap, true⟩ ⟨o.oth.s, [], o.oth.cap, true⟩ o.n, 0) := by
  obtain ⟨hg, hb, hn, hr⟩ := asked_good ha
  have hc := hg.cur
  have hl : ((enc ⟨o.n, b⟩).length : Int) ≤ o.cur.cap := by rw [Frame.enc_length]; simp only; omega
  have hle : ((enc ⟨o.n, b⟩).length : Int) = 12 + (b.length : Int) := by rw [Frame.enc_length]; simp
  unfold half
  rw [if_neg (by rw [ha]; simp), if_neg (by rcases h with ⟨rfl, _⟩ | ⟨rfl, _⟩ | ⟨rfl, _⟩ | ⟨rfl, _⟩ <;> decide), crash_ok hg.oth]
  rcases h with ⟨rfl, rfl⟩ | ⟨rfl, rfl⟩ | ⟨rfl, h0, h1, rfl⟩ | ⟨rfl, rfl⟩
  · obtain rfl := hz (by decide)
    rw [wr_0 (by decide), crash_ok hc]
    simp
  · obtain rfl := hz (by decide)
    have ho : Ok ⟨[], [], o.cur.cap, false⟩ := ok_mk hc.cap1 (by simpa using hc.cap0)
    rw [wr_1 (by decide) (by decide), trunc_ok hc, crash_ok ho]
    simp
  · rw [wr_2 (by decide) (by decide), trunc_ok hc, app_ok hc.cap1 hl, crash_tail hc.cap1 hl]
    rw [if_neg (show ¬ (keep < 0 ∨ ((enc ⟨o.n, b⟩).length : Int) < keep) by omega)]
    simp
  · obtain rfl := hz (by decide)
    have ho : Ok ⟨enc ⟨o.n, b⟩, [], o.cur.cap, false⟩ := ok_mk hc.cap1 hl
    rw [wr_good ha, crash_ok ho]
    simp

def G0 : Sl := ⟨⟨[], [], 100, false⟩, ⟨[], [], 100, false⟩, 1⟩
def G1 : Sl := ⟨⟨[], [], 100, false⟩, ⟨enc ⟨1, [97]⟩, [], 100, false⟩, 2⟩
def G2 : Sl := ⟨⟨enc ⟨2, [98, 99]⟩, [], 100, false⟩, ⟨enc ⟨1, [97]⟩, [], 100, false⟩, 3⟩
theorem new_100 : new 100 = (G0, 0) := if_neg (by decide)
theorem op_new {c : Int} (h0 : 0 ≤ c) (h1 : c ≤ 20000) : Op ⟨⟨[], [], c, false⟩, ⟨[], [], c, false⟩, 1⟩ := by
  have hn : newest ⟨⟨[], [], c, false⟩, ⟨[], [], c, false⟩, 1⟩ = none := by
    unfold newest
    rw [ck_none (by exact first_nil), ck_none (by exact first_nil)]
    rfl
  refine ⟨⟨ok_mk h1 (by simpa using h0), ok_mk h1 (by simpa using h0), Int.le_refl _, by show (1 : Int) ≤ 1000000001; decide⟩, ?_⟩
  rw [hn]; rfl
theorem op_G0 : Op G0 := op_new (by decide) (by decide)
theorem newest_G0 : newest G0 = none := by
  unfold newest G0
  rw [ck_none (by exact first_nil), ck_none (by exact first_nil)]
  rfl
theorem ask {o : Sl} (h : Good o) {b : List UInt8} (hn : o.n ≤ 1000000000) (hb : b.length ≤ 1000) (hc : 12 + (b.length : Int) ≤ o.cur.cap) : asked o b = 0 :=
  asked_ok h.nb (by omega) (by omega) (by omega)
theorem ask0 : asked G0 [97] = 0 := ask op_G0.1 (by decide) (by decide) (by decide)
theorem save_G0 : save G0 [97] = (G1, 1, 0) := (save_ok ask0).trans rfl
theorem op_G1 : Op G1 := saved_op op_G0 ask0
theorem ask1 : asked G1 [98, 99] = 0 := ask op_G1.1 (by decide) (by decide) (by decide)
theorem save_G1 : save G1 [98, 99] = (G2, 2, 0) := (save_ok ask1).trans rfl
theorem op_G2 : Op G2 := saved_op op_G1 ask1
theorem newest_G2 : newest G2 = some ⟨2, [98, 99]⟩ := saved_newest op_G1 ask1 3
theorem lds_G1 : Lds G1 1 [97] := lds_saved op_G0 ask0
theorem lds_G2 : Lds G2 2 [98, 99] := lds_saved op_G1 ask1
theorem load_G0 : load G0 = (0, [], 6) := by rw [load_good op_G0.1, newest_G0]; rfl
/-- After a half with the examples' slots. -/
def GH (xs : List UInt8) : Sl := ⟨⟨enc ⟨2, [98, 99]⟩, [], 100, true⟩, ⟨xs, [], 100, true⟩, 3⟩
theorem ask2 {b : List UInt8} (h : b.length ≤ 88) : asked G2 b = 0 := ask op_G2.1 (by decide) (by omega) (by show 12 + (b.length : Int) ≤ 100; omega)
theorem half_G2 {b : List UInt8} (hb : b.length ≤ 88) {k keep : Int} (xs : List UInt8) (h : left G2 b k keep xs) (hz : k ≠ 2 → keep = 0) : half G2 b k keep = (GH xs, 0) := (half_of (ask2 hb) xs h hz).trans rfl
theorem lds_before {b : List UInt8} (hb : b.length ≤ 88) {k keep : Int} {xs : List UInt8} (h : left G2 b k keep xs) (hl : xs.length ≤ 100) (hn : k = 0 ∨ k = 1 ∨ k = 2 ∧ keep < 12 + (b.length : Int)) : Lds (GH xs) 2 [98, 99] := by
  have hx : newest (G2.put ⟨xs, [], G2.cur.cap, false⟩ G2.oth 1) = some ⟨2, [98, 99]⟩ := by
    rw [← newest_G2]
    rcases h with ⟨h, rfl⟩ | ⟨h, rfl⟩ | ⟨h, h0, h1, rfl⟩ | ⟨h, rfl⟩
    · exact newest_same 1
    · exact newest_before op_G2 (x := ⟨[], [], G2.cur.cap, false⟩) first_nil 1
    · refine newest_before op_G2 ?_ 1
      show first ((enc ⟨3, b⟩).take keep.toNat ++ []) = none
      rw [List.append_nil]
      exact first_torn (valid_of (ask2 hb)) _ (by rw [Frame.enc_length]; simp only; omega)
    · omega
  exact lds_left op_G2.1 (by show (xs.length : Int) ≤ 100; omega) hx
theorem lds_after {b : List UInt8} (hb : b.length ≤ 88) : Lds (GH (enc ⟨3, b⟩)) 3 b :=
  lds_left op_G2.1 (by show ((enc ⟨3, b⟩).length : Int) ≤ 100; rw [Frame.enc_length]; simp only; omega) (saved_newest op_G2 (ask2 hb) 1)
end Slots
end Go.Proofs.Ytakgglpfgpkboaa
