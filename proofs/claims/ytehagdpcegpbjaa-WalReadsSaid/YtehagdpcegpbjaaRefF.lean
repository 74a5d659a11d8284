import Derived.Test.YtehagdpcegpbjaaRefB
import Derived.Test.YtehagdpcegpbjaaTry1
set_option linter.unusedVariables false
namespace Go.Proofs.Ytehagdpcegpbjaa
open Go.RowKit Disk

theorem sameBytes_refl (A B : Option Addr) (c d : Nat) (x : List UInt8) (w : World) (hx : RB w 0 A x) (hy : RB w 0 B x) (hl : x.length ≤ 140737488351232) :
    Calls Try.prog 36 #[.slice A x.length c, .slice B x.length d] w fun e w' => e = .returned (.bool true) ∧ ∃ n, w' = w.drewN n :=
  (sameBytes_eq A B c d x x w hx hy hl hl).mono fun _ _ h => ⟨by rw [h.1, beq_self_eq_true], h.2⟩

theorem same_true (A B C D : Option Addr) (ca cb cc cd : Nat) (s t : List UInt8) (cap : Int) (dn : Bool) (w : World) (hs : RB w 0 A s) (ht : RB w 0 B t) (hs' : RB w 0 C s) (ht' : RB w 0 D t) (ls : s.length ≤ 4000000) (lt : t.length ≤ 4000000) :
    Calls Try.prog 28 #[.agg #[.slice A s.length ca, .slice B t.length cb, .int .i64 cap, .bool dn], .agg #[.slice C s.length cc, .slice D t.length cd, .int .i64 cap, .bool dn]] w fun e w' => e = .returned (.bool true) ∧ Ab w w' := by
  go_enter Try.func28, Try.ntmps28
  go_wp2_with fail
  refine (sameBytes_refl A C ca cc s _ (hs.ab (by repeat (first | with_reducible exact Ab.refl _ | with_reducible assumption | with_reducible refine Ab.drew ?_ | with_reducible refine Ab.drewN ?_ _ | with_reducible refine Ab.alloc ?_ _ | with_reducible refine Ab.trans ?_ (by assumption) | with_reducible refine Ab.set ?_ (by first | (simp; done) | omega | (simp; omega)) _))) (hs'.ab (by repeat (first | with_reducible exact Ab.refl _ | with_reducible assumption | with_reducible refine Ab.drew ?_ | with_reducible refine Ab.drewN ?_ _ | with_reducible refine Ab.alloc ?_ _ | with_reducible refine Ab.trans ?_ (by assumption) | with_reducible refine Ab.set ?_ (by first | (simp; done) | omega | (simp; omega)) _))) (by omega)).mono ?_
  rintro e w1 ⟨rfl, n1, rfl⟩
  go_wp2_with fail
  refine (sameBytes_refl B D cb cd t _ (ht.ab (by repeat (first | with_reducible exact Ab.refl _ | with_reducible assumption | with_reducible refine Ab.drew ?_ | with_reducible refine Ab.drewN ?_ _ | with_reducible refine Ab.alloc ?_ _ | with_reducible refine Ab.trans ?_ (by assumption) | with_reducible refine Ab.set ?_ (by first | (simp; done) | omega | (simp; omega)) _))) (ht'.ab (by repeat (first | with_reducible exact Ab.refl _ | with_reducible assumption | with_reducible refine Ab.drew ?_ | with_reducible refine Ab.drewN ?_ _ | with_reducible refine Ab.alloc ?_ _ | with_reducible refine Ab.trans ?_ (by assumption) | with_reducible refine Ab.set ?_ (by first | (simp; done) | omega | (simp; omega)) _))) (by omega)).mono ?_
  rintro e w2 ⟨rfl, n2, rfl⟩
  go_wp2
  go_ret
  exact ⟨rfl, (by repeat (first | with_reducible exact Ab.refl _ | with_reducible assumption | with_reducible refine Ab.drew ?_ | with_reducible refine Ab.drewN ?_ _ | with_reducible refine Ab.alloc ?_ _ | with_reducible refine Ab.trans ?_ (by assumption) | with_reducible refine Ab.set ?_ (by first | (simp; done) | omega | (simp; omega)) _))⟩

theorem starts_true (A C : Option Addr) (ca cc : Nat) (x y : List UInt8) (w : World) (hx : RB w 0 A x) (hy : RB w 0 C y) (hca : x.length ≤ ca) (h : y = x.take y.length) (lx : x.length ≤ 4000000) :
    Calls Try.prog 88 #[.slice A x.length ca, .slice C y.length cc] w fun e w' => e = .returned (.bool true) ∧ Ab w w' := by
  have hl : y.length ≤ x.length := by have := congrArg List.length h; rw [List.length_take] at this; omega
  have H := Lib.hid h; clear h
  have h0 : (0 : Int) ≤ (y.length : Int) := by omega
  have h1 : (y.length : Int) ≤ (ca : Int) := by omega
  have hxy : RB w 0 A y := by rw [H.out]; exact hx.take _
  go_enter Try.func88, Try.ntmps88
  go_wp2_with fail
  refine (sameBytes_refl A C _ cc y _ (hxy.ab (by repeat (first | with_reducible exact Ab.refl _ | with_reducible assumption | with_reducible refine Ab.drew ?_ | with_reducible refine Ab.drewN ?_ _ | with_reducible refine Ab.alloc ?_ _ | with_reducible refine Ab.trans ?_ (by assumption) | with_reducible refine Ab.set ?_ (by first | (simp; done) | omega | (simp; omega)) _))) (hy.ab (by repeat (first | with_reducible exact Ab.refl _ | with_reducible assumption | with_reducible refine Ab.drew ?_ | with_reducible refine Ab.drewN ?_ _ | with_reducible refine Ab.alloc ?_ _ | with_reducible refine Ab.trans ?_ (by assumption) | with_reducible refine Ab.set ?_ (by first | (simp; done) | omega | (simp; omega)) _))) (by omega)).mono ?_
  rintro e w1 ⟨rfl, n1, rfl⟩
  go_wp2
  go_ret
  exact ⟨rfl, (by repeat (first | with_reducible exact Ab.refl _ | with_reducible assumption | with_reducible refine Ab.drew ?_ | with_reducible refine Ab.drewN ?_ _ | with_reducible refine Ab.alloc ?_ _ | with_reducible refine Ab.trans ?_ (by assumption) | with_reducible refine Ab.set ?_ (by first | (simp; done) | omega | (simp; omega)) _))⟩

end Go.Proofs.Ytehagdpcegpbjaa
