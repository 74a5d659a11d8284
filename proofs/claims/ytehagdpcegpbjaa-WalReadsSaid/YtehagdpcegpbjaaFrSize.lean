/- Size, Encode, walked. Own work. -/
import Derived.Test.YtehagdpcegpbjaaFrPut
import Derived.Test.YtehagdpcegpbjaaFrRec2
set_option linter.unusedVariables false
set_option linter.unusedSimpArgs false
namespace Go.Proofs.Ytehagdpcegpbjaa
open Go.RowKit

def SizeE (r : Frame.Rec) (n er : Int) : Prop := (Frame.Valid r ∧ n = 12 + (r.data.length : Int) ∧ er = 0) ∨ (¬ Frame.Valid r ∧ n = 0 ∧ er = 8)
theorem SizeE.unique {r : Frame.Rec} {n m e f : Int} (h : SizeE r n e) (k : SizeE r m f) : n = m ∧ e = f := by
  rcases h with ⟨h, h1, h2⟩ | ⟨h, h1, h2⟩ <;> rcases k with ⟨k, k1, k2⟩ | ⟨k, k1, k2⟩ <;> first | exact absurd h k | exact absurd k h | (subst h1 h2 k1 k2; exact ⟨rfl, rfl⟩)

theorem fsize_any (num : Int) (B : Option Addr) (d : List UInt8) (cd : Nat) (w : World) :
    Calls Try.prog 66 #[.agg #[.int .i64 num, .slice B d.length cd]] w fun e w' => ∃ n er : Int, Hid (SizeE ⟨num, d⟩ n er) ∧ e = .returned (.tuple #[.int .i64 n, .int .i64 er]) ∧ Ab w w' := by
  by_cases h1 : num < 0
  · go_enter Try.func66, Try.ntmps66
    go_wp2
    go_ret2
    exact ⟨0, 8, Lib.hid (.inr ⟨fun h => by have := h.1; simp only at this; omega, rfl, rfl⟩), rfl, (by repeat (first | with_reducible exact Ab.refl _ | with_reducible assumption | with_reducible refine Ab.drew ?_ | with_reducible refine Ab.drewN ?_ _ | with_reducible refine Ab.alloc ?_ _ | with_reducible refine Ab.trans ?_ (by assumption) | with_reducible refine Ab.set ?_ (by first | (simp; done) | omega | (simp; omega)) _))⟩
  · by_cases h2 : 1000000000 < num
    · go_enter Try.func66, Try.ntmps66
      go_wp2
      go_ret2
      exact ⟨0, 8, Lib.hid (.inr ⟨fun h => by have := h.2.1; simp only at this; omega, rfl, rfl⟩), rfl, (by repeat (first | with_reducible exact Ab.refl _ | with_reducible assumption | with_reducible refine Ab.drew ?_ | with_reducible refine Ab.drewN ?_ _ | with_reducible refine Ab.alloc ?_ _ | with_reducible refine Ab.trans ?_ (by assumption) | with_reducible refine Ab.set ?_ (by first | (simp; done) | omega | (simp; omega)) _))⟩
    · by_cases h3 : 1000 < d.length
      · go_enter Try.func66, Try.ntmps66
        go_wp2
        go_ret2
        exact ⟨0, 8, Lib.hid (.inr ⟨fun h => by have := h.2.2; simp only at this; omega, rfl, rfl⟩), rfl, (by repeat (first | with_reducible exact Ab.refl _ | with_reducible assumption | with_reducible refine Ab.drew ?_ | with_reducible refine Ab.drewN ?_ _ | with_reducible refine Ab.alloc ?_ _ | with_reducible refine Ab.trans ?_ (by assumption) | with_reducible refine Ab.set ?_ (by first | (simp; done) | omega | (simp; omega)) _))⟩
      · go_enter Try.func66, Try.ntmps66
        go_wp2
        go_ret2
        exact ⟨_, 0, Lib.hid (.inl ⟨⟨by simp only; omega, by simp only; omega, by simp only; omega⟩, rfl, rfl⟩), rfl, (by repeat (first | with_reducible exact Ab.refl _ | with_reducible assumption | with_reducible refine Ab.drew ?_ | with_reducible refine Ab.drewN ?_ _ | with_reducible refine Ab.alloc ?_ _ | with_reducible refine Ab.trans ?_ (by assumption) | with_reducible refine Ab.set ?_ (by first | (simp; done) | omega | (simp; omega)) _))⟩

def EncE (r : Frame.Rec) (L : List UInt8) (er : Int) : Prop := (Frame.Valid r ∧ L = Frame.enc r ∧ er = 0) ∨ (¬ Frame.Valid r ∧ L = [] ∧ er = 8)
theorem EncE.unique {r : Frame.Rec} {L M : List UInt8} {e f : Int} (h : EncE r L e) (k : EncE r M f) : L = M ∧ e = f := by
  rcases h with ⟨h, h1, h2⟩ | ⟨h, h1, h2⟩ <;> rcases k with ⟨k, k1, k2⟩ | ⟨k, k1, k2⟩ <;> first | exact absurd h k | exact absurd k h | (subst h1 h2 k1 k2; exact ⟨rfl, rfl⟩)

set_option maxHeartbeats 800000 in
theorem encode_any (num : Int) (B : Option Addr) (d : List UInt8) (cd : Nat) (w : World) (hd : RB w 0 B d) (hcd : d.length ≤ cd) :
    Calls Try.prog 46 #[.agg #[.int .i64 num, .slice B d.length cd]] w fun e w' => ∃ A c L er, Hid (EncE ⟨num, d⟩ L er) ∧ e = .returned (.tuple #[.slice A L.length c, .int .i64 er]) ∧
      OR 5 w.heap.size w' A c L ∧ Ab w w' := by
  go_enter Try.func46, Try.ntmps46
  go_wp2_with fail
  refine (fsize_any num B d cd _).mono ?_
  rintro e w1 ⟨n, er, hS, rfl, hb1⟩
  have q0 := hb1.at (p := ⟨w.heap.size, 0, none⟩) (v := .int .i64 num) (by simp [go_sem])
  have q1 := hb1.at (p := ⟨w.heap.size, 1, none⟩) (v := .slice B d.length cd) (by simp [go_sem])
  have z1 := cell_lt q0
  rcases hS.out with ⟨hv, rfl, rfl⟩ | ⟨hv, rfl, rfl⟩
  · have hl : d.length ≤ 1000 := hv.2.2
    have HV := Lib.hid hv
    obtain ⟨Z, hZ, HZ⟩ := make_room (12 + d.length) (by omega) (12 + (d.length : Int)) (by omega)
    clear hS hv
    have b1 : Ab w w1 := (by repeat (first | with_reducible exact Ab.refl _ | with_reducible assumption | with_reducible refine Ab.drew ?_ | with_reducible refine Ab.drewN ?_ _ | with_reducible refine Ab.alloc ?_ _ | with_reducible refine Ab.trans ?_ (by assumption) | with_reducible refine Ab.set ?_ (by first | (simp; done) | omega | (simp; omega)) _))
    clear hb1
    go_wp2_with fail
    go_region_held3 (fun w' => w'.cell? ⟨w.heap.size, 0, none⟩ = some (.int .i64 num) ∧ w'.cell? ⟨w.heap.size, 1, none⟩ = some (.slice B d.length cd))
      (exact ⟨(by (repeat (first | with_reducible assumption | (simp [go_sem]; done) | with_reducible apply cell_alloc | with_reducible apply cell_drew | with_reducible apply cell_drewN | (with_reducible apply Ab.at; with_reducible assumption) | (with_reducible refine cell_set ?_ ?_; rotate_left; focus (first | (simp; done) | (simp; omega))) | (with_reducible refine cell_setb ?_ ?_; rotate_left; focus (first | omega | (simp only; omega) | (simp; omega)))))), (by (repeat (first | with_reducible assumption | (simp [go_sem]; done) | with_reducible apply cell_alloc | with_reducible apply cell_drew | with_reducible apply cell_drewN | (with_reducible apply Ab.at; with_reducible assumption) | (with_reducible refine cell_set ?_ ?_; rotate_left; focus (first | (simp; done) | (simp; omega))) | (with_reducible refine cell_setb ?_ ?_; rotate_left; focus (first | omega | (simp only; omega) | (simp; omega))))))⟩)
      ((go_at_call 68
        refine (put_any (some ⟨w1.heap.size, 0, none⟩) [] (12 + d.length) num B d cd HV.out w1.heap.size w1 _ (HZ.out _ _ _ (Nat.le_refl _) (by (repeat (first | exact new_plain (by first | (simp; done) | omega | (simp; omega)) | with_reducible refine old_alloc ?_ | with_reducible refine old_drew ?_ | with_reducible refine old_set ?_ (by first | (simp; done) | omega | (simp; omega)) | with_reducible refine old_ab (by assumption) ?_)))) (by simp) (by repeat (first | with_reducible exact Ab.refl _ | with_reducible assumption | with_reducible refine Ab.drew ?_ | with_reducible refine Ab.drewN ?_ _ | with_reducible refine Ab.alloc ?_ _ | with_reducible refine Ab.trans ?_ (by assumption) | with_reducible refine Ab.set ?_ (by first | (simp; done) | omega | (simp; omega)) _)) (Nat.le_refl _) (hd.ab b1) hcd (by simp)).mono ?_
        rintro e w5 ⟨A5, c5, L5, e5, rfl, o5, b5⟩))
    all_goals go_wp2
    all_goals go_ret2
    all_goals exact ⟨A5, c5, L5, 0, Lib.hid (.inl ⟨HV.out, e5.out, rfl⟩), rfl, OR.mono (lo := w1.heap.size) (by (repeat (first | with_reducible exact OR.none_ | with_reducible assumption | with_reducible refine OR.drew ?_ | with_reducible refine OR.drewN ?_ _ | with_reducible refine OR.alloc ?_ _ | (with_reducible refine OR.setNew ?_ _ ?_ _; rotate_left; focus (first | (simp; done) | omega | (simp; omega))) | with_reducible refine OR.set ?_ (by first | (simp; done) | omega | (simp; omega)) _ | (with_reducible refine OR.keep ?_ (by assumption))))) (by omega), (by repeat (first | with_reducible exact Ab.refl _ | with_reducible assumption | with_reducible refine Ab.drew ?_ | with_reducible refine Ab.drewN ?_ _ | with_reducible refine Ab.alloc ?_ _ | with_reducible refine Ab.trans ?_ (by assumption) | with_reducible refine Ab.set ?_ (by first | (simp; done) | omega | (simp; omega)) _))⟩
  · go_wp2
    go_ret2
    exact ⟨none, 0, [], 8, Lib.hid (.inr ⟨hv, rfl, rfl⟩), rfl, OR.none_, (by repeat (first | with_reducible exact Ab.refl _ | with_reducible assumption | with_reducible refine Ab.drew ?_ | with_reducible refine Ab.drewN ?_ _ | with_reducible refine Ab.alloc ?_ _ | with_reducible refine Ab.trans ?_ (by assumption) | with_reducible refine Ab.set ?_ (by first | (simp; done) | omega | (simp; omega)) _))⟩
end Go.Proofs.Ytehagdpcegpbjaa
