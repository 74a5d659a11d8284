/- The chapter's examples. No program is named. Own work. -/
import Derived.Test.YthgcfjhnnhigoaaGreatGM
set_option linter.unusedVariables false
namespace Go.Proofs.YthgcfjhnnhigoaaGreat
namespace Slots
open Frame (Rec Pre IsScan enc)
open Disk (Dev)

/-- Opening r and loading gives a number and bytes. -/
def Lds (r : Sl) (num : Int) (want : List UInt8) : Prop := ∃ o, open_ r = (o, 0) ∧ load o = (num, want, 0) ∧ o.n = num + 1 ∧ 0 ≤ num ∧ num ≤ 1000000000
theorem half_of {o : Sl} {b : List UInt8} (ha : asked o b = 0) {k keep : Int} (xs : List UInt8) (h : left o b k keep xs) (hz : k ≠ 2 → keep = 0) :
    half o b k keep = (o.put ⟨xs, [], o.cur.cap, true⟩ ⟨o.oth.s, [], o.oth.cap, true⟩ o.n, 0) := by
  obtain ⟨hg, hb, hn, hr⟩ := asked_good ha
  have hc := hg.cur
  have hl : ((enc ⟨o.n, b⟩).length : Int) ≤ o.cur.cap := by rw [Frame.enc_length]; simp only; omega
  have hle : ((enc ⟨o.n, b⟩).length : Int) = 12 + (b.length : Int) := by rw [Frame.enc_length]; simp
  unfold half
  rw [if_neg (by rw [ha]; simp), if_neg (by rcases h with ⟨rfl, _⟩ | ⟨rfl, _⟩ | ⟨rfl, _⟩ | ⟨rfl, _⟩ <;> decide), crash_ok hg.oth]
  rcases h with ⟨rfl, rfl⟩ | ⟨rfl, rfl⟩ | ⟨rfl, h0, h1, rfl⟩ | ⟨rfl, rfl⟩
  · obtain rfl := hz (by decide)
    rw [wr_0 (by decide), crash_ok hc]
    simp
  · obtain rfl := hz (by decide)
    have ho : Ok ⟨[], [], o.cur.cap, false⟩ := ok_mk hc.cap1 (by simpa using hc.cap0)
    rw [wr_1 (by decide) (by decide), trunc_ok hc, crash_ok ho]
    simp
  · rw [wr_2 (by decide) (by decide), trunc_ok hc, app_ok hc.cap1 hl, crash_tail hc.cap1 hl]
    rw [if_neg (show ¬ (keep < 0 ∨ ((enc ⟨o.n, b⟩).length : Int) < keep) by omega)]
    simp
  · obtain rfl := hz (by decide)
    have ho : Ok ⟨enc ⟨o.n, b⟩, [], o.cur.cap, false⟩ := ok_mk hc.cap1 hl
    rw [wr_good ha, crash_ok ho]
    simp

def G0 : Sl := ⟨⟨[], [], 100, false⟩, ⟨[], [], 100, false⟩, 1⟩
def G1 : Sl := ⟨⟨[], [], 100, false⟩, ⟨enc ⟨1, [97]⟩, [], 100, false⟩, 2⟩
def G2 : Sl := ⟨⟨enc ⟨2, [98, 99]⟩, [], 100, false⟩, ⟨enc ⟨1, [97]⟩, [], 100, false⟩, 3⟩
theorem op_new {c : Int} (h0 : 0 ≤ c) (h1 : c ≤ 20000) : Op ⟨⟨[], [], c, false⟩, ⟨[], [], c, false⟩, 1⟩ := by
  have hn : newest ⟨⟨[], [], c, false⟩, ⟨[], [], c, false⟩, 1⟩ = none := by
    unfold newest
    rw [ck_none (by exact first_nil), ck_none (by exact first_nil)]
    rfl
  refine ⟨⟨ok_mk h1 (by simpa using h0), ok_mk h1 (by simpa using h0), Int.le_refl _, by show (1 : Int) ≤ 1000000001; decide⟩, ?_⟩
  rw [hn]; rfl
theorem op_G0 : Op G0 := op_new (by decide) (by decide)
theorem ask {o : Sl} (h : Good o) {b : List UInt8} (hn : o.n ≤ 1000000000) (hb : b.length ≤ 1000) (hc : 12 + (b.length : Int) ≤ o.cur.cap) : asked o b = 0 :=
  asked_ok h.nb (by omega) (by omega) (by omega)
theorem ask0 : asked G0 [97] = 0 := ask op_G0.1 (by decide) (by decide) (by decide)
theorem op_G1 : Op G1 := saved_op op_G0 ask0
theorem ask1 : asked G1 [98, 99] = 0 := ask op_G1.1 (by decide) (by decide) (by decide)
theorem op_G2 : Op G2 := saved_op op_G1 ask1
/-- After a half with the examples' slots. -/
def GH (xs : List UInt8) : Sl := ⟨⟨enc ⟨2, [98, 99]⟩, [], 100, true⟩, ⟨xs, [], 100, true⟩, 3⟩
theorem ask2 {b : List UInt8} (h : b.length ≤ 88) : asked G2 b = 0 := ask op_G2.1 (by decide) (by omega) (by show 12 + (b.length : Int) ≤ 100; omega)
end Slots
end Go.Proofs.YthgcfjhnnhigoaaGreat
