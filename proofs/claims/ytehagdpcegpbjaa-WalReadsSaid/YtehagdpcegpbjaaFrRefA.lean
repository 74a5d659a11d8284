/- The reference of layer 3, first part, walked. Own work. -/
import Derived.Test.YtehagdpcegpbjaaTry1
import Derived.Test.YtehagdpcegpbjaaFrSize
import Derived.Deep.DeepCutAuto
import Derived.IntWalk
set_option linter.unusedVariables false
set_option linter.unusedSimpArgs false
namespace Go.Proofs.Ytehagdpcegpbjaa
open Go.RowKit

def vB (r : Frame.Rec) : Bool := decide (0 ≤ r.num ∧ r.num ≤ 1000000000 ∧ r.data.length ≤ 1000)
theorem vB_true {r : Frame.Rec} : vB r = true ↔ Frame.Valid r := by unfold vB Frame.Valid; simp
theorem vB_false {r : Frame.Rec} : vB r = false ↔ ¬ Frame.Valid r := by rw [← vB_true]; simp

theorem valid_any (num : Int) (B : Option Addr) (d : List UInt8) (cd : Nat) (w : World) :
    Calls Try.prog 87 #[.agg #[.int .i64 num, .slice B d.length cd]] w fun e w' => e = .returned (.bool (vB ⟨num, d⟩)) ∧ Ab w w' := by
  by_cases h1 : num < 0
  · have hv := Lib.hid (show vB ⟨num, d⟩ = false by unfold vB; first | (simp; done) | (simp; omega))
    go_enter Try.func87, Try.ntmps87
    go_wp2
    go_ret
    exact ⟨ret_bool (by first | (rw [hv.out]; done) | (rw [hv.out]; simp; done) | (rw [hv.out]; simp; omega)), (by repeat (first | with_reducible exact Ab.refl _ | with_reducible assumption | with_reducible refine Ab.drew ?_ | with_reducible refine Ab.drewN ?_ _ | with_reducible refine Ab.alloc ?_ _ | with_reducible refine Ab.trans ?_ (by assumption) | with_reducible refine Ab.set ?_ (by first | (simp; done) | omega | (simp; omega)) _))⟩
  · by_cases h2 : 1000000000 < num
    · have hv := Lib.hid (show vB ⟨num, d⟩ = false by unfold vB; first | (simp; done) | (simp; omega))
      go_enter Try.func87, Try.ntmps87
      go_wp2
      go_ret
      exact ⟨ret_bool (by first | (rw [hv.out]; done) | (rw [hv.out]; simp; done) | (rw [hv.out]; simp; omega)), (by repeat (first | with_reducible exact Ab.refl _ | with_reducible assumption | with_reducible refine Ab.drew ?_ | with_reducible refine Ab.drewN ?_ _ | with_reducible refine Ab.alloc ?_ _ | with_reducible refine Ab.trans ?_ (by assumption) | with_reducible refine Ab.set ?_ (by first | (simp; done) | omega | (simp; omega)) _))⟩
    · by_cases h3 : 1000 < d.length
      · have hv := Lib.hid (show vB ⟨num, d⟩ = false by unfold vB; first | (simp; done) | (simp; omega))
        go_enter Try.func87, Try.ntmps87
        go_wp2
        go_ret
        exact ⟨ret_bool (by first | (rw [hv.out]; done) | (rw [hv.out]; simp; done) | (rw [hv.out]; simp; omega)), (by repeat (first | with_reducible exact Ab.refl _ | with_reducible assumption | with_reducible refine Ab.drew ?_ | with_reducible refine Ab.drewN ?_ _ | with_reducible refine Ab.alloc ?_ _ | with_reducible refine Ab.trans ?_ (by assumption) | with_reducible refine Ab.set ?_ (by first | (simp; done) | omega | (simp; omega)) _))⟩
      · have hv := Lib.hid (show vB ⟨num, d⟩ = true by unfold vB; first | (simp; done) | (simp; omega))
        go_enter Try.func87, Try.ntmps87
        go_wp2
        go_ret
        exact ⟨ret_bool (by first | (rw [hv.out]; done) | (rw [hv.out]; simp; done) | (rw [hv.out]; simp; omega)), (by repeat (first | with_reducible exact Ab.refl _ | with_reducible assumption | with_reducible refine Ab.drew ?_ | with_reducible refine Ab.drewN ?_ _ | with_reducible refine Ab.alloc ?_ _ | with_reducible refine Ab.trans ?_ (by assumption) | with_reducible refine Ab.set ?_ (by first | (simp; done) | omega | (simp; omega)) _))⟩

def longB (n : Nat) : Bool := (decide (2000 < n) && decide (n ≤ 20000)) || decide (21000 < n)
def GreatP (xs : List RecM) (w : World) (e : Ending) (w' : World) : Prop := ∃ v : Bool, Hid (v = false → xs.length ≤ 40 ∧ ∀ i (hi : i < xs.length), xs[i].b.length ≤ 1100) ∧ e = .returned (.bool v) ∧ w = w'
theorem recs_at {xs ys : List RecM} (h : recs xs = recs ys) (k : Nat) (h1 : k < xs.length) (h2 : k < ys.length) : ys[k].num = xs[k].num ∧ ys[k].b = xs[k].b := by
  have e1 := recs_get xs k h1
  have e2 := recs_get ys k h2
  simp only [h] at e1
  have := e1.symm.trans e2
  unfold RecM.r at this
  injection this with h3 h4
  exact ⟨h3.symm, h4.symm⟩

set_option maxHeartbeats 800000 in
theorem rsame_true (A B : Option Addr) (c d : Nat) (xs ys : List RecM) (w : World) (hx : Recs w 0 A xs) (hy : Recs w 0 B ys) (he : Hid (recs xs = recs ys)) (hn : xs.length ≤ 9223372036854775807) (hb : Hid (∀ i (hi : i < xs.length), xs[i].b.length ≤ 140737488351232)) :
    Calls Try.prog 34 #[.slice A xs.length c, .slice B ys.length d] w fun e w' => e = .returned (.bool true) ∧ ∃ n, w' = w.drewN n := by
  have hl : ys.length = xs.length := by have := congrArg List.length he.out; rw [recs_length, recs_length] at this; omega
  rw [hl]
  have hl1 := Nat.le_of_eq hl
  have hl2 := Nat.le_of_eq hl.symm
  clear hl
  go_enter Try.func34, Try.ntmps34
  go_wp2
  go_loopw [5] (fun i wr => ∃ k : Nat, k ≤ xs.length ∧ i = .int .i64 k ∧ ∃ n, wr = w.drewN n) (fun i _ => xs.length - (intOf i).toNat)
  case atStart => exact ⟨0, Nat.zero_le _, rfl, 0, rfl⟩
  case round =>
    obtain ⟨k, hk, rfl, n, hwn⟩ := hrel
    have HWN := Lib.hid hwn
    have hab : Ab w wr := by rw [hwn]; exact (Ab.refl _).drewN _
    clear hwn
    by_cases hlt : k < xs.length
    · have hlt2 : k < ys.length := by omega
      have hbk := hb.out k hlt
      obtain ⟨a, rfl, _, c0, c1, hl⟩ := (hx.ab hab).at_ hlt
      obtain ⟨b, rfl, _, d0, d1, hm⟩ := (hy.ab hab).at_ hlt2
      obtain ⟨e0, e1⟩ := recs_at he.out k hlt hlt2
      rw [e0] at d0
      rw [e1] at d1
      have hmb := hm.1
      rw [e1] at hmb
      have hki : (k : Int) < (xs.length : Int) := by omega
      have hk0 : (0 : Int) ≤ (k : Int) := by omega
      have S0 : ∀ w', Ab wr w' → Calls Try.prog 36 #[.slice xs[k].A xs[k].b.length xs[k].c, .slice ys[k].A xs[k].b.length ys[k].c] w' (fun e w'' => e = .returned (.bool true) ∧ ∃ n, w'' = w'.drewN n) := fun w' h =>
        (sameBytes_eq xs[k].A ys[k].A xs[k].c ys[k].c xs[k].b xs[k].b w' (hl.1.ab h) (hmb.ab h) hbk hbk).mono fun _ _ h => ⟨by rw [h.1, beq_self_eq_true], h.2⟩
      clear hm hmb e0 e1 hl hbk
      generalize xs[k] = x at *
      generalize ys[k] = y at *
      go_wp2
      go_quiet ((go_at_call 36
                 with_reducible exact Calls.quiet_of (S0 _ (by repeat (first | with_reducible exact Ab.refl _ | with_reducible assumption | with_reducible refine Ab.drew ?_ | with_reducible refine Ab.drewN ?_ _ | with_reducible refine Ab.alloc ?_ _ | with_reducible refine Ab.trans ?_ (by assumption) | with_reducible refine Ab.set ?_ (by first | (simp; done) | omega | (simp; omega)) _)))))
      go_wp2
      go_roundw
      case rel => exact ⟨k + 1, by omega, by go_num, n + nq, by rw [HWN.out, World.drewN_drewN]⟩
      case measure => simp [intOf]; omega
    · obtain rfl : k = xs.length := by omega
      go_wp2
      go_ret
      exact ⟨rfl, _, HWN.out⟩
end Go.Proofs.Ytehagdpcegpbjaa
