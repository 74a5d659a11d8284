/- WalLives: a log's life over a log, and the round's codes. Own work. -/
import Derived.Test.YtehagdpcegpbjaaWLiveA
set_option linter.unusedVariables false
set_option linter.unusedSimpArgs false
namespace Go.Proofs.Ytehagdpcegpbjaa
open Go.RowKit

namespace Wal
open _root_.Go.Proofs.Ytehagdpcegpbjaa.Frame
/-- What is known of the log r after j steps. -/
def LiveR (j : Nat) (r : Log) (rs : List Rec) (a : Nat) : Prop := r.dev.down = false ∧ Live r.first r.dev.cap j r.dev.s r.dev.t r.next rs a
variable {j a : Nat} {r : Log} {rs : List Rec}
theorem LiveR.good (h : LiveR j r rs a) : Good r rs := by
  obtain ⟨⟨⟨s, t, cap, dn⟩, f, n⟩, h⟩ : ∃ r' : Log, LiveR j r' rs a ∧ r' = r := ⟨r, h, rfl⟩
  obtain ⟨⟨h1, h2⟩, rfl⟩ := h
  simp only at h1
  subst h1
  exact h2.1
theorem LiveR.next (h : LiveR j r rs a) : r.next = r.first + rs.length := h.good.2.2.2.1
theorem LiveR.few (h : LiveR j r rs a) : rs.length ≤ j ∧ a ≤ rs.length := ⟨h.2.2.2.2.2.1, Nat.le_trans h.2.2.2.2.2.2 (cut_le _ _)⟩
theorem LiveR.recs (h : LiveR j r rs a) : records r r.first (some rs) = (rs, 0) := by
  have h1 := h.good.rng
  refine (if_neg (show ¬ (r.first < r.first ∨ r.next < r.first) by omega)).trans ?_
  simp only [Int.sub_self, Int.toNat_zero, List.drop_zero]
theorem LiveR.append (h : LiveR j r rs a) (hj : j < 20) (b : List UInt8) (hb : b.length ≤ 50) :
    ∃ r' : Log, append r b (some rs) = (r', r.next, 0) ∧ LiveR (j + 1) r' (rs ++ [⟨r.next, b⟩]) a := by
  obtain ⟨⟨s, t, cap, dn⟩, f, n⟩ := r
  obtain ⟨h1, h2⟩ := h
  simp only at h1 h2
  subst h1
  obtain ⟨e, l⟩ := live_append h2 hj b hb
  exact ⟨_, e, rfl, l⟩
theorem LiveR.sync (h : LiveR j r rs a) : ∃ r' : Log, sync r (some rs) = (r', 0) ∧ LiveR (j + 1) r' rs rs.length := by
  obtain ⟨⟨s, t, cap, dn⟩, f, n⟩ := r
  obtain ⟨h1, h2⟩ := h
  simp only at h1 h2
  subst h1
  exact ⟨_, rfl, rfl, live_sync h2⟩
theorem LiveR.crash (h : LiveR j r rs a) (k : Int) (h0 : 0 ≤ k) (hk : k ≤ r.dev.t.length) :
    ∃ (d : Disk.Dev) (m u : Nat) (o : Log), crash r k (some rs) = (d, 0) ∧ m ≤ rs.length ∧ a ≤ m ∧ IsScan (d.s ++ d.t) (rs.take m) u ∧ d.s.length ≤ 1000000 ∧ d.t.length ≤ 1000000 ∧
      open_ d r.first (rs.take m) u = (o, 0) ∧ o.first = r.first ∧ o.next = r.first + m ∧ LiveR (j + 1) o (rs.take m) m := by
  have hl := h.good.room
  obtain ⟨⟨s, t, cap, dn⟩, f, n⟩ := r
  obtain ⟨h1, h2⟩ := h
  simp only at h1 h2 hk
  subst h1
  obtain ⟨kn, rfl⟩ := Int.eq_ofNat_of_zero_le h0
  obtain ⟨m, o, c1, c2, c3, c4, c5, rfl, c7⟩ := live_crash h2 kn (by omega)
  refine ⟨⟨s ++ t.take kn, [], cap, true⟩, m, _, _, ?_, c1, c2, c3, ?_, by simp, c5, rfl, rfl, rfl, c7⟩
  · show Disk.crash _ _ = _
    unfold Disk.crash
    rw [if_neg (by simpa using h2.1.1), if_neg (by simp only; omega)]
    simp
  · simp only [Disk.Dev.size] at hl
    simp; omega
end Wal

/-- What is known of the frame. -/
def LFrm (w : World) (S : Option Addr) (n0 c0 : Nat) (W : Option Addr) (len cw a i : Nat) (T : Array Value) : Prop :=
  T.size = 196 ∧ T.getD 1 undef = .slice S n0 c0 ∧ T.getD 2 undef = .pointer (some ⟨w.heap.size, 0, none⟩) ∧ T.getD 5 undef = .slice W len cw ∧ T.getD 6 undef = .int .i64 (a : Int) ∧ T.getD 7 undef = .int .i64 (i : Int)
/-- What holds in round i, when j steps are done. -/
def LState (w : World) (S : Option Addr) (n0 c0 j i : Nat) (act : Act) (wr : World) : Prop :=
  ∃ (r : Wal.Log) (D E W : Option Addr) (cd ce cw a : Nat) (rs : List Frame.Rec) (xs : List RecM), act.defers = [] ∧ LFrm w S n0 c0 W xs.length cw a i act.tmps ∧ LMem w wr r D E W cd ce cw xs ∧ Hid (recs xs = rs) ∧ Hid (Wal.LiveR j r rs a)
noncomputable def lvBody : Code := ((Try.f8.body.bind loopIn).getD .skip)
noncomputable def lvSwitch : Code := ((Try.f8.body.bind (findB 2)).getD .skip)
noncomputable def lvA : Code := thnC (sndC lvSwitch)
noncomputable def lvB : Code := thnC (sndC (elsC (sndC lvSwitch)))
noncomputable def lvC : Code := elsC (sndC (elsC (sndC lvSwitch)))
set_option maxRecDepth 1000000 in
theorem lit_196 (g : Nat → Value) : (List.range 196).map g = g 0 :: g 1 :: g 2 :: g 3 :: g 4 :: g 5 :: g 6 :: g 7 :: g 8 :: g 9 :: g 10 :: g 11 :: g 12 :: g 13 :: g 14 :: g 15 :: g 16 :: g 17 :: g 18 :: g 19 :: g 20 :: g 21 :: g 22 :: g 23 :: g 24 :: g 25 :: g 26 :: g 27 :: g 28 :: g 29 :: g 30 :: g 31 :: g 32 :: g 33 :: g 34 :: g 35 :: g 36 :: g 37 :: g 38 :: g 39 :: g 40 :: g 41 :: g 42 :: g 43 :: g 44 :: g 45 :: g 46 :: g 47 :: g 48 :: g 49 :: g 50 :: g 51 :: g 52 :: g 53 :: g 54 :: g 55 :: g 56 :: g 57 :: g 58 :: g 59 :: g 60 :: g 61 :: g 62 :: g 63 :: g 64 :: g 65 :: g 66 :: g 67 :: g 68 :: g 69 :: g 70 :: g 71 :: g 72 :: g 73 :: g 74 :: g 75 :: g 76 :: g 77 :: g 78 :: g 79 :: g 80 :: g 81 :: g 82 :: g 83 :: g 84 :: g 85 :: g 86 :: g 87 :: g 88 :: g 89 :: g 90 :: g 91 :: g 92 :: g 93 :: g 94 :: g 95 :: g 96 :: g 97 :: g 98 :: g 99 :: g 100 :: g 101 :: g 102 :: g 103 :: g 104 :: g 105 :: g 106 :: g 107 :: g 108 :: g 109 :: g 110 :: g 111 :: g 112 :: g 113 :: g 114 :: g 115 :: g 116 :: g 117 :: g 118 :: g 119 :: g 120 :: g 121 :: g 122 :: g 123 :: g 124 :: g 125 :: g 126 :: g 127 :: g 128 :: g 129 :: g 130 :: g 131 :: g 132 :: g 133 :: g 134 :: g 135 :: g 136 :: g 137 :: g 138 :: g 139 :: g 140 :: g 141 :: g 142 :: g 143 :: g 144 :: g 145 :: g 146 :: g 147 :: g 148 :: g 149 :: g 150 :: g 151 :: g 152 :: g 153 :: g 154 :: g 155 :: g 156 :: g 157 :: g 158 :: g 159 :: g 160 :: g 161 :: g 162 :: g 163 :: g 164 :: g 165 :: g 166 :: g 167 :: g 168 :: g 169 :: g 170 :: g 171 :: g 172 :: g 173 :: g 174 :: g 175 :: g 176 :: g 177 :: g 178 :: g 179 :: g 180 :: g 181 :: g 182 :: g 183 :: g 184 :: g 185 :: g 186 :: g 187 :: g 188 :: g 189 :: g 190 :: g 191 :: g 192 :: g 193 :: g 194 :: g 195 :: [] := by rfl
end Go.Proofs.Ytehagdpcegpbjaa
