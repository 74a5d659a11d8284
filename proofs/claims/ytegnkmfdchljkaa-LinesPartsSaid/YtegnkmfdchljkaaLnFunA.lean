/- Lists of lines as they lie in memory; hasFeed, size, valid and Check of package lines, walked. Own work. -/
import Derived.Test.YtegnkmfdchljkaaLnMath
import Derived.Test.YtegnkmfdchljkaaLnShelf
import Derived.Test.YtegnkmfdchljkaaMem
import Derived.Test.YtegnkmfdchljkaaMem2
import Derived.Test.YtegnkmfdchljkaaPostB
import Derived.Test.YtegnkmfdchljkaaShBase
import Derived.Deep.DeepCutAuto
import Derived.Laws.IdiomStrings
import Derived.Laws.BytesArg
set_option linter.unusedVariables false
set_option linter.unusedSimpArgs false
namespace Go.Proofs.Ytegnkmfdchljkaa
open Go.RowKit

/-- The bytes of lines. -/
abbrev Ln.L (ps : List ByteArray) : List (List UInt8) := ps.map (·.data.toList)
/-- The strings ps lie at A: few, and none of them long. -/
structure SM (w : World) (A : Option Addr) (c : Nat) (ps : List ByteArray) : Prop where
  r : 0 < ps.length → ∃ g o, A = some ⟨g, o, none⟩ ∧ ∀ j (h : j < ps.length), w.cell? ⟨g, o + j, none⟩ = some (.string ps[j])
  n : ps.length ≤ c
  c' : c ≤ 9223372036854775807
  k : ps.length ≤ 100000
  s : ∀ p ∈ ps, p.size ≤ 100000
theorem SM.ab {w w' : World} {A : Option Addr} {c : Nat} {ps : List ByteArray} (h : SM w A c ps) (k : Ab w w') : SM w' A c ps := ⟨fun hl => by
  obtain ⟨g, o, h1, h2⟩ := h.r hl
  exact ⟨g, o, h1, fun i hi => k.at (h2 i hi)⟩, h.n, h.c', h.k, h.s⟩
theorem SM.none {w : World} {A : Option Addr} {c : Nat} (h : c ≤ 9223372036854775807) : SM w A c [] := ⟨fun h => absurd h (by simp), by simp, h, by simp, by simp⟩
theorem Ln.idx_bad (l : List UInt8) : decide (0 ≤ Lib.indexByte l 10) = Ln.bad l := by
  have hge := Lib.indexByte_ge l 10
  by_cases e : Lib.indexByte l 10 = -1
  · have := Lib.indexByte_none e
    rw [e, Ln.not_bad]
    · rfl
    · intro hm
      obtain ⟨i, hi, he⟩ := List.getElem_of_mem hm
      exact absurd (by rw [List.getElem?_eq_getElem hi, he]) (this i)
  · obtain ⟨o, ho⟩ : ∃ o : Nat, Lib.indexByte l 10 = (o : Int) := ⟨(Lib.indexByte l 10).toNat, by omega⟩
    obtain ⟨h1, h2⟩ := Lib.indexByte_some ho
    rw [(Ln.bad_iff l).2 (List.mem_of_getElem? h1), ho]
    simp
theorem hasFeed_any (s : ByteArray) (w : World) : Calls Try.prog 15 #[.string s] w fun e w' => e = .returned (.bool (Ln.bad s.data.toList)) ∧ w' = w := by
  have C := fun w' => Go.Proofs.Any.strings_Contains_one Go.Proofs.Try.lays144 s 10 w'
  rw [Ln.idx_bad] at C
  generalize Ln.bad s.data.toList = q at *
  go_enter Try.func15, Try.ntmps15
  go_wp2_with fail
  refine (C _).mono ?_
  rintro e w1 ⟨rfl, rfl⟩
  go_wp2
  go_ret
  exact ⟨rfl, rfl⟩
theorem lnIndexFunc_any (A : Option Addr) (c : Nat) (ps : List ByteArray) (w : World) (hp : SM w A c ps) : Calls Try.prog 20 #[.slice A ps.length c, .func (.func 15) #[] #[]] w fun e w' => ∃ n : Int, e = .returned (.int .i64 n) ∧ decide (0 ≤ n) = (Ln.L ps).any Ln.bad ∧ Ab w w' := by
  have C := Lib.hid (fun s w' => hasFeed_any s w')
  have hk := hp.k
  have HP := Lib.hid hp
  clear hp
  go_enter Try.func20, Try.ntmps20
  go_wp2_with fail
  go_loopw [8] (fun i w' => ∃ k : Nat, k ≤ ps.length ∧ i = .int .i64 k ∧ Hid ((Ln.L (ps.take k)).any Ln.bad = false) ∧ Ab w w') (fun i _ => ps.length - (intOf i).toNat)
  case atStart => exact ⟨0, Nat.zero_le _, rfl, rfl, abA⟩
  case round =>
    obtain ⟨k, hk, rfl, hA, hb⟩ := hrel
    rename World => w1
    by_cases hlt : k < ps.length
    · obtain ⟨g, o, rfl, hR⟩ := HP.out.r (by omega)
      have c0 := hb.at (hR k hlt)
      have hT : (k : Int) < ps.length := by omega
      have HS : Hid ((Ln.L (ps.take (k + 1))).any Ln.bad = ((Ln.L (ps.take k)).any Ln.bad || Ln.bad ps[k].data.toList)) := by
        unfold Hid
        rw [List.take_add_one, List.getElem?_eq_getElem hlt]
        simp only [Ln.L, Option.toList_some, List.map_append, List.map_cons, List.map_nil, List.any_append, List.any_cons, List.any_nil, Bool.or_false]
      have HW : Hid (Ln.bad ps[k].data.toList = true → (Ln.L ps).any Ln.bad = true) := fun h => by
        rw [List.any_eq_true]
        exact ⟨ps[k].data.toList, List.mem_map.2 ⟨ps[k], List.getElem_mem hlt, rfl⟩, h⟩
      have hC := fun w' => C.out ps[k] w'
      clear hR
      generalize Ln.bad ps[k].data.toList = q at *
      generalize ps[k] = x at *
      cases q with
      | false =>
        go_wp2_with (go_at_call 15
                     refine (hC _).mono ?_
                     rintro e w2 ⟨rfl, rfl⟩)
        go_roundw
        case rel => exact ⟨k + 1, by omega, by go_num, by rw [HS.out, hA.out]; rfl, hb⟩
        case measure => simp [intOf]; omega
      | true =>
        go_wp2_with (go_at_call 15
                     refine (hC _).mono ?_
                     rintro e w2 ⟨rfl, rfl⟩)
        go_ret
        exact ⟨(k : Int), rfl, by rw [show (Ln.L ps).any Ln.bad = true from by first | exact HW.out rfl | exact HW.out trivial | exact HW.out]; simp, hb⟩
    · obtain rfl : k = ps.length := by omega
      go_wp2
      go_ret
      refine ⟨-1, rfl, ?_, hb⟩
      have := hA.out
      rw [List.take_length] at this
      rw [this]; rfl
theorem lnContainsFunc_any (A : Option Addr) (c : Nat) (ps : List ByteArray) (w : World) (hp : SM w A c ps) : Calls Try.prog 14 #[.slice A ps.length c, .func (.func 15) #[] #[]] w fun e w' => e = .returned (.bool ((Ln.L ps).any Ln.bad)) ∧ Ab w w' := by
  have C := fun w' (hk : Ab w w') => lnIndexFunc_any A c ps w' (hp.ab hk)
  generalize (Ln.L ps).any Ln.bad = q at *
  go_enter Try.func14, Try.ntmps14
  go_wp2_with fail
  refine (C _ abA).mono ?_
  rintro e w1 ⟨n, rfl, hn, hb1⟩
  have HN := Lib.hid hn
  clear hn
  go_wp2
  go_ret
  exact ⟨congrArg (fun b => Ending.returned (Value.bool b)) (by rw [← HN.out]), hb1⟩
theorem Ln.lens_le (ps : List ByteArray) (h : ∀ p ∈ ps, p.size ≤ 100000) : Lib.lens (Ln.L ps) ≤ ps.length * 100000 := by
  induction ps with
  | nil => simp [Lib.lens]
  | cons p ps ih =>
    have h1 := h p List.mem_cons_self
    have h2 := ih (fun q hq => h q (List.mem_cons_of_mem _ hq))
    have h3 : p.data.toList.length = p.size := by simp
    simp only [Lib.lens, Ln.L, List.map_cons, List.sum_cons, List.length_cons] at h2 ⊢
    rw [h3]
    omega
theorem size_any (A : Option Addr) (c : Nat) (ps : List ByteArray) (w : World) (hp : SM w A c ps) : Calls Try.prog 18 #[.slice A ps.length c] w fun e w' => e = .returned (.int .i64 ((Ln.len (Ln.L ps) : Nat) - 1 : Int)) ∧ Ab w w' := by
  have hk := hp.k
  have HP := Lib.hid hp
  clear hp
  go_enter Try.func18, Try.ntmps18
  go_wp2_with fail
  go_loopw [3, 5, 11] (fun n _ i w' => ∃ k : Nat, k ≤ ps.length ∧ i = .int .i64 k ∧ n = .int .i64 ((ps.length : Int) - 1 + (Lib.lens (Ln.L (ps.take k)) : Nat)) ∧ Ab w w') (fun _ _ i _ => ps.length - (intOf i).toNat)
  case atStart => exact ⟨0, Nat.zero_le _, rfl, by rw [List.take_zero, show Lib.lens (Ln.L []) = 0 from rfl]; go_num, abA⟩
  case round =>
    obtain ⟨k, hk, rfl, rfl, hb⟩ := hrel
    rename World => w1
    by_cases hlt : k < ps.length
    · obtain ⟨g, o, rfl, hR⟩ := HP.out.r (by omega)
      have c0 := hb.at (hR k hlt)
      have hT : (k : Int) < ps.length := by omega
      have hs : ps[k].size ≤ 100000 := HP.out.s _ (List.getElem_mem hlt)
      have HS : Hid (Lib.lens (Ln.L (ps.take (k + 1))) = Lib.lens (Ln.L (ps.take k)) + ps[k].size) := by
        unfold Hid Ln.L
        rw [List.map_take, List.map_take, Lib.lens_take_succ _ k ps[k].data.toList (by simp [hlt])]
        simp
      have hB : Lib.lens (Ln.L (ps.take k)) ≤ 10000000000 := by
        have h1 := Lib.lens_take_le (Ln.L ps) k
        have h2 := Ln.lens_le ps HP.out.s
        rw [← List.map_take] at h1
        unfold Ln.L at h1 h2 ⊢
        omega
      clear hR
      generalize hm : Lib.lens (Ln.L (ps.take k)) = m at *
      generalize ps[k] = x at *
      go_wp2
      go_roundw
      case rel => exact ⟨k + 1, by omega, by go_num, by rw [HS.out]; go_num, hb⟩
      case measure => simp [intOf]; omega
    · obtain rfl : k = ps.length := by omega
      rw [List.take_length]
      have hB := Ln.lens_le ps HP.out.s
      have HL : Hid (Ln.len (Ln.L ps) = ps.length + Lib.lens (Ln.L ps)) := by unfold Hid Ln.len; simp
      generalize Lib.lens (Ln.L ps) = m at *
      go_wp2
      go_ret
      exact ⟨congrArg (fun b => Ending.returned (Value.int .i64 b)) (by rw [HL.out]; omega), hb⟩
set_option maxHeartbeats 4000000 in
/-- What a list of lines is good for: the code's error. -/
theorem valid_any (A : Option Addr) (c : Nat) (ps : List ByteArray) (w : World) (hp : SM w A c ps) : Calls Try.prog 10 #[.slice A ps.length c] w fun e w' => e = .returned (.int .i64 (Ln.err (Ln.L ps) : Nat)) ∧ Ab w w' := by
  have hk := hp.k
  have C := fun w' (hk : Ab w w') => size_any A c ps w' (hp.ab hk)
  have D := fun w' (hk : Ab w w') => lnContainsFunc_any A c ps w' (hp.ab hk)
  have hL : (Ln.L ps).length = ps.length := by simp
  have hN : (Ln.L ps = []) = (ps.length = 0) := by simp
  have HE : Hid (Ln.err (Ln.L ps) = if 60 < ps.length ∨ 2001 < Ln.len (Ln.L ps) then 4 else if ps.length = 0 ∨ (Ln.L ps).any Ln.bad = true then 8 else 0) := by unfold Hid Ln.err; simp only [hL, hN]
  clear hp hL hN
  generalize Ln.err (Ln.L ps) = E at *
  generalize Ln.len (Ln.L ps) = n at *
  generalize (Ln.L ps).any Ln.bad = q at *
  generalize ps.length = k at *
  by_cases h60 : 60 < k
  · have hT : (60 : Int) < k := by omega
    go_enter Try.func10, Try.ntmps10
    go_wp2
    go_ret
    exact ⟨congrArg (fun b => Ending.returned (Value.int .i64 b)) (by rw [HE.out, if_pos (Or.inl h60)]; rfl), abA⟩
  · have hT : ¬ (60 : Int) < k := by omega
    by_cases h20 : 2001 < n
    · have hT2 : (2000 : Int) < (n : Int) - 1 := by omega
      go_enter Try.func10, Try.ntmps10
      go_wp2_with fail
      refine (C _ abA).mono ?_
      rintro e w1 ⟨rfl, hb1⟩
      go_wp2
      go_ret
      exact ⟨congrArg (fun b => Ending.returned (Value.int .i64 b)) (by rw [HE.out, if_pos (Or.inr h20)]; rfl), hb1⟩
    · have hT2 : ¬ (2000 : Int) < (n : Int) - 1 := by omega
      by_cases h0 : k = 0
      · subst h0
        go_enter Try.func10, Try.ntmps10
        go_wp2_with fail
        refine (C _ abA).mono ?_
        rintro e w1 ⟨rfl, hb1⟩
        go_wp2
        go_ret
        exact ⟨congrArg (fun b => Ending.returned (Value.int .i64 b)) (by rw [HE.out, if_neg (by omega)]; simp), hb1⟩
      · have hT3 : ¬ (k : Int) = 0 := by omega
        go_enter Try.func10, Try.ntmps10
        go_wp2_with fail
        refine (C _ abA).mono ?_
        rintro e w1 ⟨rfl, hb1⟩
        go_wp2_with fail
        refine (D _ abA).mono ?_
        rintro e w2 ⟨rfl, hb2⟩
        cases q with
        | true =>
          go_wp2
          go_ret
          exact ⟨congrArg (fun b => Ending.returned (Value.int .i64 b)) (by rw [HE.out, if_neg (by omega)]; simp), hb1.trans hb2⟩
        | false =>
          go_wp2
          go_ret
          exact ⟨congrArg (fun b => Ending.returned (Value.int .i64 b)) (by rw [HE.out, if_neg (by omega)]; simp [h0]), hb1.trans hb2⟩
theorem lnCount_run (A : Option Addr) (l : List UInt8) (c : Nat) (w : World) (hb : RB w 0 A l) : (Extern.BytealgCount.count #[.slice A l.length c, .int .u8 10]).run Try.prog w = .ok (.int .i64 (l.count 10 : Nat)) w := by
  cases A with
  | none =>
    cases l with
    | nil => exact Lib.run_countNil w 0 c 10
    | cons x l => obtain ⟨ad, h, _⟩ := hb (by simp); cases h
  | some a =>
    have hc : ∀ i, i < l.length → w.cell? (a.add i) = some (.int .u8 ((l.map fun b => (b.toNat : Int)).getD i 0)) := fun i hi => by
      obtain ⟨ad, h, _, hcell⟩ := hb (by omega)
      cases h
      rw [hcell i hi]
      simp [cb, List.getD_eq_getElem?_getD, List.getElem?_map, hi]
    have := Lib.run_countAt (P := Try.prog) w a l.length c (l.map fun b => (b.toNat : Int)) (by simp) hc 10
    rw [this]
    have e1 : Lib.bytesOf (l.map fun b => (b.toNat : Int)) = l := by
      unfold Lib.bytesOf
      rw [List.map_map]
      conv => rhs; rw [← List.map_id l]
      refine List.map_congr_left fun b _ => ?_
      show UInt8.ofNat ((b.toNat : Int).toNat) = b
      simp
    rw [e1]
    rfl
end Go.Proofs.Ytegnkmfdchljkaa
