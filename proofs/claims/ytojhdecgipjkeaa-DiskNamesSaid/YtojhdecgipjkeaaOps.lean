/- An argument that is a list of operations of a device: how it lies in memory. Own work. -/
import Derived.Test.YtojhdecgipjkeaaProg
import Derived.Test.YtojhdecgipjkeaaMem2
import Derived.Test.YtojhdecgipjkeaaDisk
set_option linter.unusedVariables false
namespace Go.Proofs.Ytojhdecgipjkeaa
open Go.RowKit Disk

/-- An operation, and where its bytes lie. -/
structure OpM where
  k : Int
  A : Option Addr
  c : Nat
  b : List UInt8
  n : Int
def OpM.op (o : OpM) : Disk.Op := ⟨o.k, o.b, o.n⟩
/-- The operations xs lie at a. -/
def OpsAt (w : World) (a : Addr) (xs : List OpM) : Prop :=
  ∀ i (h : i < xs.length), w.cell? (a.add (i * 3)) = some (.int .u8 xs[i].k) ∧ w.cell? (a.add (i * 3 + 1)) = some (.slice xs[i].A xs[i].b.length xs[i].c) ∧
    w.cell? (a.add (i * 3 + 2)) = some (.int .i64 xs[i].n) ∧ RB w 0 xs[i].A xs[i].b ∧ xs[i].b.length ≤ xs[i].c ∧ xs[i].b.length ≤ 9223372036854775807
theorem OpsAt.ab {w w' : World} {a : Addr} {xs : List OpM} (h : OpsAt w a xs) (hb : Ab w w') : OpsAt w' a xs :=
  fun i hi => ⟨hb.at (h i hi).1, hb.at (h i hi).2.1, hb.at (h i hi).2.2.1, (h i hi).2.2.2.1.ab hb, (h i hi).2.2.2.2⟩
theorem OpsAt.drop {w : World} {a : Addr} {xs : List OpM} (h : OpsAt w a xs) (k : Nat) : OpsAt w (a.add (k * 3)) (xs.drop k) := by
  intro i hi
  have hi' : k + i < xs.length := by simp at hi; omega
  have h1 := h (k + i) hi'
  rw [List.getElem_drop]
  simp only [addr_add_add]
  rw [show k * 3 + i * 3 = (k + i) * 3 by omega, show k * 3 + (i * 3 + 1) = (k + i) * 3 + 1 by omega, show k * 3 + (i * 3 + 2) = (k + i) * 3 + 2 by omega]
  exact h1
theorem OpsAt.take {w : World} {a : Addr} {xs : List OpM} (h : OpsAt w a xs) (k : Nat) : OpsAt w a (xs.take k) := by
  intro i hi
  have hi' : i < xs.length := by simp at hi; omega
  rw [List.getElem_take]; exact h i hi'

theorem add_pos (a : Addr) (m j : Nat) (h : 0 < j) : a.add (m + j) = ⟨(a.add m).block, (a.add m).off + j, none⟩ := by
  rw [← addr_add_add]; exact if_neg (by omega)
/-- The three cells, as the walk writes them. -/
theorem OpsAt.cells {w : World} {a : Addr} {xs : List OpM} (h : OpsAt w a xs) {k : Nat} (hk : k < xs.length) : w.cell? (a.add (k * 3)) = some (.int .u8 xs[k].k) ∧
    w.cell? ⟨(a.add (k * 3)).block, (a.add (k * 3)).off + 1, none⟩ = some (.slice xs[k].A xs[k].b.length xs[k].c) ∧ w.cell? ⟨(a.add (k * 3)).block, (a.add (k * 3)).off + 2, none⟩ = some (.int .i64 xs[k].n) := by
  obtain ⟨h0, h1, h2, _⟩ := h k hk
  rw [add_pos _ _ _ (by omega)] at h1 h2
  exact ⟨h0, h1, h2⟩

/-- The slice of operations (A, n, c) is xs. -/
def Ops (w : World) (A : Option Addr) (n : Nat) (xs : List OpM) : Prop := xs.length = n ∧ (0 < n → ∃ a, A = some a ∧ OpsAt w a xs)
theorem Ops.ab {w w' : World} {A : Option Addr} {n : Nat} {xs : List OpM} (h : Ops w A n xs) (hb : Ab w w') : Ops w' A n xs :=
  ⟨h.1, fun hn => by obtain ⟨a, ha, ho⟩ := h.2 hn; exact ⟨a, ha, ho.ab hb⟩⟩
def long (xs : List OpM) : Bool := xs.any (fun o => decide (3000 < o.b.length)) || (decide (60 < xs.length) && decide (xs.length ≤ 200)) || decide (300 < xs.length)

theorem any_succ (xs : List OpM) (k : Nat) (h : k < xs.length) : (xs.take (k + 1)).any (fun o => decide (3000 < o.b.length)) = ((xs.take k).any (fun o => decide (3000 < o.b.length)) || decide (3000 < xs[k].b.length)) := by
  rw [List.take_succ_eq_append_getElem h, List.any_append]; simp
theorem any_mem (xs : List OpM) (k : Nat) (h : k < xs.length) (hb : 3000 < xs[k].b.length) : xs.any (fun o => decide (3000 < o.b.length)) = true :=
  List.any_eq_true.2 ⟨_, List.getElem_mem h, by simpa using hb⟩

theorem long_any (A : Option Addr) (n c : Nat) (xs : List OpM) (w : World) (h : Ops w A n xs) (hn : n ≤ 9223372036854775807) :
    Calls Try.prog 38 #[.slice A n c] w fun e w' => e = .returned (.bool (long xs)) ∧ Ab w w' := by
  obtain ⟨hl, hx⟩ := h
  have hl1 := Nat.le_of_eq hl; have hl2 := Nat.le_of_eq hl.symm; clear hl
  go_enter Try.func38, Try.ntmps38
  go_wp2
  go_loop [2, 3] (fun r i => ∃ k : Nat, k ≤ n ∧ r = .bool false ∧ i = .int .i64 k ∧ Hid ((xs.take k).any (fun o => decide (3000 < o.b.length)) = false)) (fun _ i => n - (intOf i).toNat)
  case atStart => exact ⟨0, Nat.zero_le _, rfl, rfl, Lib.hid (by simp)⟩
  case round =>
    obtain ⟨k, hk, rfl, rfl, hany⟩ := hrel
    by_cases hlt : k < n
    · obtain ⟨a, rfl, ho⟩ := hx (by omega)
      have hkx : k < xs.length := by omega
      obtain ⟨h0, h1, h2⟩ := ho.cells hkx
      have hs := any_succ xs k hkx
      have hm := any_mem xs k hkx
      generalize xs[k] = o at *
      have HS := Lib.hid hs; clear hs
      have HM := Lib.hid hm; clear hm
      by_cases hb : o.b.length ≤ 3000
      · go_wp2
        go_round
        case rel => exact ⟨k + 1, by omega, rfl, by go_num, Lib.hid (by rw [HS.out, hany.out]; simpa using hb)⟩
        case measure => simp [intOf]; omega
      · go_wp2
        go_ret
        exact ⟨ret_bool (by unfold long; rw [HM.out (by omega)]; rfl), (by repeat (first | with_reducible exact Ab.refl _ | with_reducible assumption | with_reducible refine Ab.drew ?_ | with_reducible refine Ab.drewN ?_ _ | with_reducible refine Ab.alloc ?_ _ | with_reducible refine Ab.trans ?_ (by assumption) | with_reducible refine Ab.set ?_ (by first | (simp; done) | omega | (simp; omega)) _))⟩
    · obtain rfl : k = n := by omega
      have hall : xs.any (fun o => decide (3000 < o.b.length)) = false := by have := hany.out; rwa [List.take_of_length_le (by omega)] at this
      have HA := Lib.hid hall; clear hall hany hlt
      have hkl : Hid (k = xs.length) := Lib.hid (by omega)
      by_cases h1 : k ≤ 60
      · go_wp2
        go_ret
        exact ⟨ret_bool (by unfold long; rw [HA.out, ← hkl.out]; rw [Bool.eq_iff_iff]; simp; omega), (by repeat (first | with_reducible exact Ab.refl _ | with_reducible assumption | with_reducible refine Ab.drew ?_ | with_reducible refine Ab.drewN ?_ _ | with_reducible refine Ab.alloc ?_ _ | with_reducible refine Ab.trans ?_ (by assumption) | with_reducible refine Ab.set ?_ (by first | (simp; done) | omega | (simp; omega)) _))⟩
      · by_cases h2 : k ≤ 200
        · go_wp2
          go_ret
          exact ⟨ret_bool (by unfold long; rw [HA.out, ← hkl.out]; rw [Bool.eq_iff_iff]; simp; omega), (by repeat (first | with_reducible exact Ab.refl _ | with_reducible assumption | with_reducible refine Ab.drew ?_ | with_reducible refine Ab.drewN ?_ _ | with_reducible refine Ab.alloc ?_ _ | with_reducible refine Ab.trans ?_ (by assumption) | with_reducible refine Ab.set ?_ (by first | (simp; done) | omega | (simp; omega)) _))⟩
        · by_cases h3 : k ≤ 300
          · go_wp2
            go_ret
            exact ⟨ret_bool (by unfold long; rw [HA.out, ← hkl.out]; rw [Bool.eq_iff_iff]; simp; omega), (by repeat (first | with_reducible exact Ab.refl _ | with_reducible assumption | with_reducible refine Ab.drew ?_ | with_reducible refine Ab.drewN ?_ _ | with_reducible refine Ab.alloc ?_ _ | with_reducible refine Ab.trans ?_ (by assumption) | with_reducible refine Ab.set ?_ (by first | (simp; done) | omega | (simp; omega)) _))⟩
          · go_wp2
            go_ret
            exact ⟨ret_bool (by unfold long; rw [HA.out, ← hkl.out]; rw [Bool.eq_iff_iff]; simp; omega), (by repeat (first | with_reducible exact Ab.refl _ | with_reducible assumption | with_reducible refine Ab.drew ?_ | with_reducible refine Ab.drewN ?_ _ | with_reducible refine Ab.alloc ?_ _ | with_reducible refine Ab.trans ?_ (by assumption) | with_reducible refine Ab.set ?_ (by first | (simp; done) | omega | (simp; omega)) _))⟩
end Go.Proofs.Ytojhdecgipjkeaa
