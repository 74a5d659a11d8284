/- Letters, parts, paths, texts of package object, walked. Own work. -/
import Derived.Test.YthfffbpcmlgoiaaGreatDoorCKJ
import Derived.Test.YthfffbpcmlgoiaaGreatDoorCKA
import Derived.Deep.DeepCutAuto
set_option linter.unusedVariables false
set_option linter.unusedSimpArgs false
namespace Go.Proofs.YthfffbpcmlgoiaaGreatDoor
open Go.RowKit

/-- No letter of a path. -/
theorem noLetter_any (x : Nat) (w : World) : Calls Tryz.prog 132 #[.int .i32 (x : Int)] w fun e w' => e = .returned (.bool (!Obj.letter x)) ∧ ∃ k, w' = w.drewN k := by
  have hx : x ≤ 44 ∨ x = 45 ∨ x = 46 ∨ x = 47 ∨ (48 ≤ x ∧ x ≤ 57) ∨ (58 ≤ x ∧ x ≤ 64) ∨ (65 ≤ x ∧ x ≤ 90) ∨ (91 ≤ x ∧ x ≤ 94) ∨ x = 95 ∨ x = 96 ∨ (97 ≤ x ∧ x ≤ 122) ∨ 123 ≤ x := by omega
  rcases hx with hx | rfl | rfl | rfl | hx | hx | hx | hx | rfl | rfl | hx | hx
  · have hl : Obj.letter x = false := by simp [Obj.letter] <;> omega
    have k1 : ¬ (97 : Int) ≤ (x : Int) := by omega
    have k2 : ¬ (65 : Int) ≤ (x : Int) := by omega
    have k3 : ¬ (48 : Int) ≤ (x : Int) := by omega
    have k4 : (x : Int) ≤ 122 := by omega
    have k5 : (x : Int) ≤ 90 := by omega
    have k6 : (x : Int) ≤ 57 := by omega
    have k7 : ¬ (x : Int) = 45 := by omega
    have k8 : ¬ (x : Int) = 95 := by omega
    have k9 : ¬ (x : Int) = 46 := by omega
    go_enter Tryz.func132, Tryz.ntmps132
    go_wp2
    go_ret
    first | exact ⟨rfl, 0, rfl⟩ | exact ⟨congrArg (fun b => Ending.returned (Value.bool b)) (by simp [k7, k8, k9]), 0, rfl⟩
  · go_enter Tryz.func132, Tryz.ntmps132
    go_wp2
    go_ret
    exact ⟨rfl, 0, rfl⟩
  · go_enter Tryz.func132, Tryz.ntmps132
    go_wp2
    go_ret
    exact ⟨rfl, 0, rfl⟩
  · go_enter Tryz.func132, Tryz.ntmps132
    go_wp2
    go_ret
    exact ⟨rfl, 0, rfl⟩
  · have hl : Obj.letter x = true := by simp [Obj.letter] <;> omega
    have k1 : ¬ (97 : Int) ≤ (x : Int) := by omega
    have k2 : ¬ (65 : Int) ≤ (x : Int) := by omega
    have k3 : (48 : Int) ≤ (x : Int) := by omega
    have k4 : (x : Int) ≤ 122 := by omega
    have k5 : (x : Int) ≤ 90 := by omega
    have k6 : (x : Int) ≤ 57 := by omega
    have k7 : ¬ (x : Int) = 45 := by omega
    have k8 : ¬ (x : Int) = 95 := by omega
    have k9 : ¬ (x : Int) = 46 := by omega
    go_enter Tryz.func132, Tryz.ntmps132
    go_wp2
    go_ret
    first | exact ⟨rfl, 0, rfl⟩ | exact ⟨congrArg (fun b => Ending.returned (Value.bool b)) (by simp [k7, k8, k9]), 0, rfl⟩
  · have hl : Obj.letter x = false := by simp [Obj.letter] <;> omega
    have k1 : ¬ (97 : Int) ≤ (x : Int) := by omega
    have k2 : ¬ (65 : Int) ≤ (x : Int) := by omega
    have k3 : (48 : Int) ≤ (x : Int) := by omega
    have k4 : (x : Int) ≤ 122 := by omega
    have k5 : (x : Int) ≤ 90 := by omega
    have k6 : ¬ (x : Int) ≤ 57 := by omega
    have k7 : ¬ (x : Int) = 45 := by omega
    have k8 : ¬ (x : Int) = 95 := by omega
    have k9 : ¬ (x : Int) = 46 := by omega
    go_enter Tryz.func132, Tryz.ntmps132
    go_wp2
    go_ret
    first | exact ⟨rfl, 0, rfl⟩ | exact ⟨congrArg (fun b => Ending.returned (Value.bool b)) (by simp [k7, k8, k9]), 0, rfl⟩
  · have hl : Obj.letter x = true := by simp [Obj.letter] <;> omega
    have k1 : ¬ (97 : Int) ≤ (x : Int) := by omega
    have k2 : (65 : Int) ≤ (x : Int) := by omega
    have k3 : (48 : Int) ≤ (x : Int) := by omega
    have k4 : (x : Int) ≤ 122 := by omega
    have k5 : (x : Int) ≤ 90 := by omega
    have k6 : ¬ (x : Int) ≤ 57 := by omega
    have k7 : ¬ (x : Int) = 45 := by omega
    have k8 : ¬ (x : Int) = 95 := by omega
    have k9 : ¬ (x : Int) = 46 := by omega
    go_enter Tryz.func132, Tryz.ntmps132
    go_wp2
    go_ret
    first | exact ⟨rfl, 0, rfl⟩ | exact ⟨congrArg (fun b => Ending.returned (Value.bool b)) (by simp [k7, k8, k9]), 0, rfl⟩
  · have hl : Obj.letter x = false := by simp [Obj.letter] <;> omega
    have k1 : ¬ (97 : Int) ≤ (x : Int) := by omega
    have k2 : (65 : Int) ≤ (x : Int) := by omega
    have k3 : (48 : Int) ≤ (x : Int) := by omega
    have k4 : (x : Int) ≤ 122 := by omega
    have k5 : ¬ (x : Int) ≤ 90 := by omega
    have k6 : ¬ (x : Int) ≤ 57 := by omega
    have k7 : ¬ (x : Int) = 45 := by omega
    have k8 : ¬ (x : Int) = 95 := by omega
    have k9 : ¬ (x : Int) = 46 := by omega
    go_enter Tryz.func132, Tryz.ntmps132
    go_wp2
    go_ret
    first | exact ⟨rfl, 0, rfl⟩ | exact ⟨congrArg (fun b => Ending.returned (Value.bool b)) (by simp [k7, k8, k9]), 0, rfl⟩
  · go_enter Tryz.func132, Tryz.ntmps132
    go_wp2
    go_ret
    exact ⟨rfl, 0, rfl⟩
  · go_enter Tryz.func132, Tryz.ntmps132
    go_wp2
    go_ret
    exact ⟨rfl, 0, rfl⟩
  · have hl : Obj.letter x = true := by simp [Obj.letter] <;> omega
    have k1 : (97 : Int) ≤ (x : Int) := by omega
    have k2 : (65 : Int) ≤ (x : Int) := by omega
    have k3 : (48 : Int) ≤ (x : Int) := by omega
    have k4 : (x : Int) ≤ 122 := by omega
    have k5 : ¬ (x : Int) ≤ 90 := by omega
    have k6 : ¬ (x : Int) ≤ 57 := by omega
    have k7 : ¬ (x : Int) = 45 := by omega
    have k8 : ¬ (x : Int) = 95 := by omega
    have k9 : ¬ (x : Int) = 46 := by omega
    go_enter Tryz.func132, Tryz.ntmps132
    go_wp2
    go_ret
    first | exact ⟨rfl, 0, rfl⟩ | exact ⟨congrArg (fun b => Ending.returned (Value.bool b)) (by simp [k7, k8, k9]), 0, rfl⟩
  · have hl : Obj.letter x = false := by simp [Obj.letter] <;> omega
    have k1 : (97 : Int) ≤ (x : Int) := by omega
    have k2 : (65 : Int) ≤ (x : Int) := by omega
    have k3 : (48 : Int) ≤ (x : Int) := by omega
    have k4 : ¬ (x : Int) ≤ 122 := by omega
    have k5 : ¬ (x : Int) ≤ 90 := by omega
    have k6 : ¬ (x : Int) ≤ 57 := by omega
    have k7 : ¬ (x : Int) = 45 := by omega
    have k8 : ¬ (x : Int) = 95 := by omega
    have k9 : ¬ (x : Int) = 46 := by omega
    go_enter Tryz.func132, Tryz.ntmps132
    go_wp2
    go_ret
    first | exact ⟨rfl, 0, rfl⟩ | exact ⟨congrArg (fun b => Ending.returned (Value.bool b)) (by simp [k7, k8, k9]), 0, rfl⟩
theorem ab_below {w w' : World} (h : Below w.heap.size w w') : Ab w w' := h
theorem sIndexFunc_any (s : ByteArray) (w : World) : Calls Tryz.prog 144 #[.string s, .func (.func 132) #[] #[]] w fun e w' => e = .returned (.int .i64 (Lib.idxFunc (fun x => !Obj.letter x) true s)) ∧ Ab w w' := by
  have eg : ∀ args w, (callFunc 132 args).run Tryz.prog w = .ok (.enter 132 args) w := enters_of Tryz.func132 (by kernel_rfl) rfl
  have C : ∀ w', Calls Tryz.prog 152 #[.string s, .func (.func 132) #[] #[], .bool true] w' fun e w2 => e = .returned (.int .i64 (Lib.idxFunc (fun x => !Obj.letter x) true s)) ∧ Ab w' w2 := fun w' => Go.Proofs.Any.strings_indexFunc Go.Proofs.Tryz.lays315 132 #[] eg (fun x => !Obj.letter x) true s w' (fun W x hb => noLetter_any x W)
  go_enter Tryz.func144, Tryz.ntmps144
  go_wp2_with fail
  refine (C _).mono ?_
  rintro e w1 ⟨rfl, hb1⟩
  go_wp2
  go_ret
  exact ⟨rfl, hb1⟩
theorem sContainsFunc_any (s : ByteArray) (w : World) : Calls Tryz.prog 131 #[.string s, .func (.func 132) #[] #[]] w fun e w' => e = .returned (.bool (!(s.data.toList.all fun c => Obj.letter c.toNat))) ∧ Ab w w' := by
  have HI := Obj.idx_all s
  have C := fun w' => sIndexFunc_any s w'
  generalize Lib.idxFunc (fun x => !Obj.letter x) true s = n at *
  have HH := Lib.hid HI
  clear HI
  go_enter Tryz.func131, Tryz.ntmps131
  go_wp2_with (go_at_call 144
               refine (C _).mono ?_
               rintro e w1 ⟨rfl, hb1⟩)
  go_ret
  exact ⟨congrArg (fun b => Ending.returned (Value.bool b)) (by rw [← HH.out]), hb1⟩
theorem noPart_any (s : ByteArray) (w : World) : Calls Tryz.prog 112 #[.string s] w fun e w' => e = .returned (.bool (!Obj.good s.data.toList)) ∧ Ab w w' := by
  have C := fun w' => sContainsFunc_any s w'
  have HT : s.toList = s.data.toList := ByteArray.toList_eq s
  obtain ⟨l, hl⟩ : ∃ l, s.toList = l := ⟨_, rfl⟩
  have HL := Lib.hid hl
  rw [← HT, hl]
  rw [← HT, hl] at C
  have HG : Hid (∀ l : List UInt8, ¬ l = [] → ¬ l = [46] → ¬ l = [46, 46] → Obj.good l = l.all fun c => Obj.letter c.toNat) := fun l h0 h1 h2 => by simp [Obj.good, Obj.ok, h0, h1, h2]
  clear HT hl
  go_enter Tryz.func112, Tryz.ntmps112
  go_wp2_with (go_at_call 131
               refine (C _).mono ?_
               rintro e w1 ⟨rfl, hb1⟩)
  · rename_i h
    rw [HL.out] at h
    subst h
    go_ret
    exact ⟨rfl, abA⟩
  · rename_i h
    rw [HL.out] at h
    subst h
    go_ret
    exact ⟨rfl, abA⟩
  · rename_i h
    rw [HL.out] at h
    subst h
    go_ret
    exact ⟨rfl, abA⟩
  · rename_i h0 h1 h2
    rw [HL.out] at h0 h1 h2
    go_ret
    refine ⟨congrArg (fun b => Ending.returned (Value.bool b)) ?_, hb1⟩
    rw [HL.out, HG.out l h0 h1 h2]
    simp [h0, h1, h2]
theorem sSplit_any (s : ByteArray) (w : World) (hs : s.size ≤ 4294967280) : Calls Tryz.prog 111 #[.string s, .string ⟨#[47]⟩] w fun e w' => ∃ ps : List ByteArray, ps.map (·.data.toList) = Obj.parts s.data.toList ∧ e = .returned (.slice (some ⟨w.heap.size, 0, none⟩) ps.length ps.length) ∧ w' = w.alloc (.cells (ps.map Value.string).toArray 9) := by
  have hI : ∀ (x : ByteArray) (c : Array Value), x.size ≤ s.size → Calls Tryz.prog 143 #[.string x, .string ⟨#[47]⟩] (w.alloc (.cells c 9)) fun e w' => e = .returned (.int .i64 (Lib.indexB x ⟨#[47]⟩)) ∧ w' = w.alloc (.cells c 9) := fun x c _ => by
    have := Go.Proofs.Any.strings_Index_one Go.Proofs.Tryz.lays143 x 47 (w.alloc (.cells c 9))
    rw [← Lib.index_one] at this
    exact this
  have hC : Calls Tryz.prog 142 #[.string s, .string ⟨#[47]⟩] w fun e w' => e = .returned (.int .i64 (Lib.countB s ⟨#[47]⟩)) ∧ w' = w := by
    have := Go.Proofs.Any.strings_Count_one Go.Proofs.Tryz.lays138 s 47 w
    have e : Lib.countByte s.data.toList 47 = Lib.countB s ⟨#[47]⟩ := (Lib.count_one 47 s.data.toList).symm
    rw [e] at this
    exact this
  have hle := Lib.countB_le ⟨#[47]⟩ (Nat.le_refl _) s.size s (Nat.le_refl _)
  have hlen := Lib.splitB_all ⟨#[47]⟩ (Nat.le_refl _) 0 _ s rfl
  have G := Go.Proofs.Any.strings_genSplit_core Go.Proofs.Tryz.lays221 (by kernel_rfl) s ⟨#[47]⟩ 0 (-1) (Lib.countB s ⟨#[47]⟩ + 1) w (by omega) (Nat.le_refl _) (Nat.zero_le _) hI hC (by decide) (by decide) (by rw [if_pos (by decide)]; omega)
  rw [Nat.add_sub_cancel] at G
  have HP := Lib.hid (Obj.splitB_parts s)
  have e2 : Lib.cellsOf (Lib.splitB ⟨#[47]⟩ 0 (Lib.countB s ⟨#[47]⟩) s) (Lib.countB s ⟨#[47]⟩ + 1) = ((Lib.splitB ⟨#[47]⟩ 0 (Lib.countB s ⟨#[47]⟩) s).map Value.string).toArray := by rw [← hlen]; exact Lib.cellsOf_full _
  rw [e2, ← hlen] at G
  clear hI hC hle hlen e2
  generalize Lib.splitB ⟨#[47]⟩ 0 (Lib.countB s ⟨#[47]⟩) s = ps at *
  go_enter Tryz.func111, Tryz.ntmps111
  go_wp2_with fail
  refine G.mono ?_
  rintro e w1 ⟨rfl, rfl⟩
  go_wp2
  go_ret
  exact ⟨ps, HP.out, rfl, rfl⟩
/-- A list of strings in memory. -/
def Strs (w : World) (g : Nat) (ps : List ByteArray) : Prop := ∀ (j : Nat) (h : j < ps.length), w.cell? ⟨g, j, none⟩ = some (.string ps[j])
theorem Strs.ab {w w' : World} {g : Nat} {ps : List ByteArray} (h : Strs w g ps) (k : Ab w w') : Strs w' g ps := fun j hj => k.at (h j hj)
def goodB (s : ByteArray) : Bool := Obj.good s.data.toList
theorem lIndexFunc_any (g : Nat) (ps : List ByteArray) (w : World) (hp : Strs w g ps) (hl : ps.length ≤ 4294967281) : Calls Tryz.prog 129 #[.slice (some ⟨g, 0, none⟩) ps.length ps.length, .func (.func 112) #[] #[]] w fun e w' => ∃ n : Int, e = .returned (.int .i64 n) ∧ decide (0 ≤ n) = !(ps.all goodB) ∧ Ab w w' := by
  have C := Lib.hid (fun s w' => noPart_any s w')
  have HP := Lib.hid hp
  clear hp
  go_enter Tryz.func129, Tryz.ntmps129
  go_wp2_with fail
  go_loopw [8] (fun i w' => ∃ k : Nat, k ≤ ps.length ∧ i = .int .i64 k ∧ Hid ((ps.take k).all goodB = true) ∧ Ab w w') (fun i _ => ps.length - (intOf i).toNat)
  case atStart => exact ⟨0, Nat.zero_le _, rfl, rfl, abA⟩
  case round =>
    obtain ⟨k, hk, rfl, hA, hb⟩ := hrel
    rename World => w1
    by_cases hlt : k < ps.length
    · have c0 := hb.at (HP.out k hlt)
      have hT : (k : Int) < ps.length := by omega
      have hC := C.out ps[k]
      have HS : Hid ((ps.take (k + 1)).all goodB = ((ps.take k).all goodB && goodB ps[k])) := by
        unfold Hid
        rw [List.take_add_one, List.getElem?_eq_getElem hlt]
        simp only [Option.toList_some, List.all_append, List.all_cons, List.all_nil, Bool.and_true]
      have HW : Hid (goodB ps[k] = false → ps.all goodB = false) := fun h => by
        rw [List.all_eq_false]
        exact ⟨ps[k], List.getElem_mem hlt, by simp [h]⟩
      have hC : ∀ w', Calls Tryz.prog 112 #[.string ps[k]] w' fun e w2 => e = .returned (.bool (!goodB ps[k])) ∧ Ab w' w2 := fun w' => C.out ps[k] w'
      generalize goodB ps[k] = q at *
      generalize ps[k] = x at *
      cases q with
      | true =>
        go_wp2_with (go_at_call 112
                     refine (hC _).mono ?_
                     rintro e w2 ⟨rfl, hb2⟩)
        go_roundw
        case rel => exact ⟨k + 1, by omega, by go_num, by rw [HS.out, hA.out]; rfl, hb.trans hb2⟩
        case measure => simp [intOf]; omega
      | false =>
        go_wp2_with (go_at_call 112
                     refine (hC _).mono ?_
                     rintro e w2 ⟨rfl, hb2⟩)
        go_ret
        exact ⟨(k : Int), rfl, by rw [show ps.all goodB = false from by first | exact HW.out rfl | exact HW.out trivial | exact HW.out]; simp, hb.trans hb2⟩
    · obtain rfl : k = ps.length := by omega
      go_wp2
      go_ret
      refine ⟨-1, rfl, ?_, hb⟩
      have := hA.out
      rw [List.take_length] at this
      rw [this]; rfl
theorem lContainsFunc_any (g : Nat) (ps : List ByteArray) (w : World) (hp : Strs w g ps) (hl : ps.length ≤ 4294967281) : Calls Tryz.prog 110 #[.slice (some ⟨g, 0, none⟩) ps.length ps.length, .func (.func 112) #[] #[]] w fun e w' => e = .returned (.bool (!(ps.all goodB))) ∧ Ab w w' := by
  have C := fun w' (hk : Ab w w') => lIndexFunc_any g ps w' (hp.ab hk) hl
  generalize ps.all goodB = q at *
  go_enter Tryz.func110, Tryz.ntmps110
  go_wp2_with fail
  refine (C _ abA).mono ?_
  rintro e w1 ⟨n, rfl, hn, hb1⟩
  have HN := Lib.hid hn
  clear hn
  go_wp2
  go_ret
  exact ⟨congrArg (fun b => Ending.returned (Value.bool b)) (by rw [← HN.out]), hb1⟩
/-- Is it a path? -/
theorem isPath_any (s : ByteArray) (w : World) : Calls Tryz.prog 93 #[.string s] w fun e w' => e = .returned (.bool (Obj.path s.data.toList)) ∧ Ab w w' := by
  have hsz : s.data.toList.length = s.size := by simp
  by_cases h60 : s.size ≤ 60
  · have hT : (s.size : Int) ≤ 60 := by omega
    have HP : Hid (Obj.path s.data.toList = (Obj.parts s.data.toList).all Obj.good) := by unfold Hid Obj.path; rw [hsz]; simp [h60]
    have SP := fun w' => sSplit_any s w' (by omega)
    have PL := Lib.hid (Obj.parts_length s.data.toList)
    rw [hsz] at PL
    generalize Obj.path s.data.toList = q at *
    generalize Obj.parts s.data.toList = pp at *
    go_enter Tryz.func93, Tryz.ntmps93
    go_wp2_with fail
    refine (SP _).mono ?_
    rintro e w1 ⟨ps, hps, rfl, rfl⟩
    have HA : ps.all goodB = pp.all Obj.good := by rw [← hps, List.all_map]; rfl
    have HA2 := Lib.hid (HA.trans HP.out.symm)
    have hst : Strs (w.alloc (.cells (ps.map Value.string).toArray 9)) w.heap.size ps := fun j hj => by
      unfold World.cell?
      have : (w.alloc (.cells (ps.map Value.string).toArray 9)).heap[w.heap.size]? = some (.cells (ps.map Value.string).toArray 9 (0, 0)) := by (repeat (first | exact new_plain wnA | with_reducible refine old_alloc ?_ | with_reducible refine old_drew ?_ | with_reducible refine old_set ?_ wnA | with_reducible refine old_ab (by assumption) ?_))
      rw [this]
      simp [hj]
    have hlen : ps.length ≤ 4294967281 := by rw [← List.length_map (f := fun s : ByteArray => s.data.toList), hps]; have := PL.out; omega
    have CF := lContainsFunc_any w.heap.size ps _ hst hlen
    rw [HA2.out] at CF
    clear HA hps hst SP HP
    go_wp2_with fail
    refine CF.mono ?_
    rintro e w2 ⟨rfl, hb2⟩
    go_wp2
    go_ret
    exact ⟨by simp, Ab.trans (by exact abA) hb2⟩
  · have hT : ¬ (s.size : Int) ≤ 60 := by omega
    have HP : Hid (Obj.path s.data.toList = false) := by unfold Hid Obj.path; rw [hsz]; simp [h60]
    go_enter Tryz.func93, Tryz.ntmps93
    go_wp2
    go_ret
    exact ⟨by rw [HP.out]; rfl, abA⟩
/-- Is it a text? -/
def Obj.text (l : List UInt8) : Bool := decide (l.length ≤ 2000) && decide (l.count 10 < 60)
theorem count_run (A : Option Addr) (l : List UInt8) (c : Nat) (w : World) (hb : RB w 0 A l) : (Extern.BytealgCount.count #[.slice A l.length c, .int .u8 10]).run Tryz.prog w = .ok (.int .i64 (l.count 10 : Nat)) w := by
  cases A with
  | none =>
    cases l with
    | nil => exact Lib.run_countNil w 0 c 10
    | cons x l => obtain ⟨ad, h, _⟩ := hb (by simp); cases h
  | some a =>
    have hc : ∀ i, i < l.length → w.cell? (a.add i) = some (.int .u8 ((l.map fun b => (b.toNat : Int)).getD i 0)) := fun i hi => by
      obtain ⟨ad, h, _, hcell⟩ := hb (by omega)
      cases h
      rw [hcell i hi]
      simp [cb, List.getD_eq_getElem?_getD, List.getElem?_map, hi]
    have := Lib.run_countAt (P := Tryz.prog) w a l.length c (l.map fun b => (b.toNat : Int)) (by simp) hc 10
    rw [this]
    have e1 : Lib.bytesOf (l.map fun b => (b.toNat : Int)) = l := by
      unfold Lib.bytesOf
      rw [List.map_map]
      conv => rhs; rw [← List.map_id l]
      refine List.map_congr_left fun b _ => ?_
      show UInt8.ofNat ((b.toNat : Int).toNat) = b
      simp
    rw [e1]
    rfl
set_option maxRecDepth 100000 in
theorem bCount_any (A : Option Addr) (l : List UInt8) (c g d : Nat) (w : World) (hb : RB w 0 A l) (hg : w.cell? ⟨g, 0, none⟩ = some (.int .u8 10)) : Calls Tryz.prog 92 #[.slice A l.length c, .slice (some ⟨g, 0, none⟩) 1 d] w fun e w' => e = .returned (.int .i64 (l.count 10 : Nat)) ∧ w' = w := by
  have HX := Lib.hid (count_run A l c w hb)
  clear hb
  go_enter Tryz.func92, Tryz.ntmps92
  go_wp2_with fail
  rw [run_callFunc_extern Tryz.func108 (by kernel_rfl) (by kernel_rfl) (by kernel_rfl) (e := Extern.BytealgCount.count) (by kernel_rfl), HX.out]
  simp only [Result.andThen]
  rw [Oper.upon_value]
  go_wp2
  go_ret
  exact ⟨rfl, rfl⟩
theorem isText_any (A : Option Addr) (l : List UInt8) (c : Nat) (w : World) (hb : RB w 0 A l) (hc : l.length ≤ c) (ll : l.length ≤ 9223372036854775807) : Calls Tryz.prog 63 #[.slice A l.length c] w fun e w' => e = .returned (.bool (Obj.text l)) ∧ Ab w w' := by
  by_cases h : l.length ≤ 2000
  · have hT : (l.length : Int) ≤ 2000 := by omega
    have HO : Hid (Obj.text l = decide ((l.count 10 : Nat) < 60)) := by unfold Hid Obj.text; simp [h]
    have C := fun g d w' (hk : Ab w w') hg => bCount_any A l c g d w' (hb.ab hk) hg
    generalize Obj.text l = q at *
    generalize l.count 10 = n at *
    have CV := fun w' => Lib.run_convert_bytes_const (P := Tryz.prog) w' 24 5 #[.int .u8 10] 1 1 Tryz.underlying24 Tryz.underlying5
    go_enter Tryz.func63, Tryz.ntmps63
    go_wp2_with fail
    have hcell : (w.alloc (.cells #[.int .u8 10] 5 (1, 2))).cell? ⟨w.heap.size, 0, none⟩ = some (.int .u8 10) := by
      unfold World.cell?
      rw [show (w.alloc (.cells #[.int .u8 10] 5 (1, 2))).heap[w.heap.size]? = some (.cells #[.int .u8 10] 5 (1, 2)) from by (repeat (first | exact new_plain wnA | with_reducible refine old_alloc ?_ | with_reducible refine old_drew ?_ | with_reducible refine old_set ?_ wnA | with_reducible refine old_ab (by assumption) ?_))]
      rfl
    have b1 : Ab w (w.alloc (.cells #[.int .u8 10] 5 (1, 2))) := abA
    refine (C _ _ (w.alloc (.cells #[.int .u8 10] 5 (1, 2))) b1 hcell).mono ?_
    rintro e w1 ⟨rfl, rfl⟩
    go_wp2
    go_ret
    exact ⟨congrArg (fun b => Ending.returned (Value.bool b)) (by rw [HO.out]; simp <;> omega), b1⟩
  · have hT : ¬ (l.length : Int) ≤ 2000 := by omega
    have HO : Hid (Obj.text l = false) := by unfold Hid Obj.text; simp [h]
    go_enter Tryz.func63, Tryz.ntmps63
    go_wp2
    go_ret
    exact ⟨by rw [HO.out]; rfl, abA⟩
end Go.Proofs.YthfffbpcmlgoiaaGreatDoor
