/- put, walked. Own work. -/
import Derived.Test.YtehagdpcegpbjaaFrCodeA
import Derived.WalkKit
import Derived.Laws.StructEq
import Derived.Deep.DeepCutAuto
import Derived.ChangeKeysEq
set_option linter.unusedVariables false
namespace Go.Proofs.Ytehagdpcegpbjaa
open Go.RowKit

set_option maxHeartbeats 400000 in
theorem put_any (A : Option Addr) (l : List UInt8) (c : Nat) (num : Int) (B : Option Addr) (d : List UInt8) (cd : Nat) (hv : Frame.Valid ⟨num, d⟩) (lo : Nat) (W w : World) (o : OR 5 lo w A c l) (hlo : lo ≤ w.heap.size)
    (hW : Ab W w) (hWlo : W.heap.size ≤ lo) (hd : RB W 0 B d) (hcd : d.length ≤ cd) (ll : l.length ≤ 100000) :
    Calls Try.prog 68 #[.slice A l.length c, .agg #[.int .i64 num, .slice B d.length cd]] w (PutTo lo W l ⟨num, d⟩) := by
  obtain ⟨v1, v2, v3⟩ := hv
  simp only at v1 v2 v3
  have n1 : Hid ((d.length : Int) = ((BitVec.ofNat 32 d.length).toNat : Int)) := by unfold Hid; rw [BitVec.toNat_ofNat]; omega
  have n2 : Hid (num = ((BitVec.ofNat 32 num.toNat).toNat : Int)) := by unfold Hid; rw [BitVec.toNat_ofNat]; omega
  have hA := o.rng
  go_enter Try.func68, Try.ntmps68
  go_wp2_with fail
  have o0 : OR 5 lo (w.alloc (.cells #[.int .i64 num, .slice B d.length cd] 72)) A c l := OR.alloc o _
  have h0 : lo ≤ (w.alloc (.cells #[.int .i64 num, .slice B d.length cd] 72)).heap.size := by simp; omega
  refine (putWord_any A l c (BitVec.ofNat 32 d.length) _ n1.out lo _ o0 h0 (by omega)).mono ?_
  rintro e w1 ⟨g1, c1, L1, e1, rfl, o1, gr1, k1⟩
  have hg1 := blk_ne (n := w.heap.size) (fun a h => (hA a h).2) k1 (by simp)
  have b1 : Ab W w1 := grown_ab (hW.alloc _) gr1 (fun g hg => by obtain ⟨a, ha, rfl⟩ := map_blk hg; have := (hA a ha).1; omega)
  have q1 := grown_cell (b := w.heap.size) (o := 0) (v := .int .i64 num) gr1 (by simp [go_sem]) (fun a h => by have := (hA a h).2; omega)
  have q2 := grown_cell (b := w.heap.size) (o := 1) (v := .slice B d.length cd) gr1 (by simp [go_sem]) (fun a h => by have := (hA a h).2; omega)
  have z1 := cell_lt q1
  have l1 : Hid (L1.length = l.length + 4) := by unfold Hid; rw [e1.out]; simp
  have l1' := Nat.le_of_eq l1.out
  go_wp2_with fail
  refine (putWord_any _ L1 c1 (BitVec.ofNat 32 num.toNat) _ n2.out lo _ o1 (by have := (o1.rng _ rfl); omega) (by omega)).mono ?_
  rintro e w2 ⟨g2, c2, L2, e2, rfl, o2, gr2, k2⟩
  have hg2 : g2 ≠ w.heap.size := by
    rcases k2 with k2 | k2
    · have : g1 = g2 := by simpa using k2
      omega
    · omega
  have b2 : Ab W w2 := grown_ab b1 gr2 (fun g hg => by have : g1 = g := by simpa using hg
                                                       have := (o1.rng _ rfl).1; simp at this; omega)
  have r1 := grown_cell (b := w.heap.size) (o := 0) (v := .int .i64 num) gr2 q1 (fun a h => by obtain rfl := Option.some.inj h; exact hg1)
  have r2 := grown_cell (b := w.heap.size) (o := 1) (v := .slice B d.length cd) gr2 q2 (fun a h => by obtain rfl := Option.some.inj h; exact hg1)
  have l2 : Hid (L2.length = l.length + 8) := by unfold Hid; rw [e2.out, List.length_append, l1.out]; simp
  have hh : L2.drop l.length = Frame.head ⟨num, d⟩ := by rw [e2.out, e1.out, List.append_assoc, List.drop_left' rfl]; rfl
  have hh2 : L2 = l ++ Frame.head ⟨num, d⟩ := by rw [e2.out, e1.out, List.append_assoc]; rfl
  have HH := Lib.hid hh2
  have hrb : RB w2 0 (cutA (some ⟨g2, 0, none⟩) c2 l.length) (Frame.head ⟨num, d⟩) := by rw [← hh]; exact (o2.rb.cut l.length c2 o2.le).zero
  have hle := o2.le
  have l2' := Nat.le_of_eq l2.out
  have l2'' := Nat.le_of_eq l2.out.symm
  have n8 : L2.length - l.length = 8 := by omega
  have hsl := fun w => run_cut l.length .i64 (some ⟨g2, 0, none⟩) L2.length c2 w (by omega)
  simp only [n8] at hsl
  have z2 := cell_lt r1
  have bd2 := hd.ab b2
  have hlo2 : lo ≤ w2.heap.size := by have := o2.rng _ rfl; omega
  have hGR : ∀ g, (some (⟨g2, 0, none⟩ : Addr)).map (·.block) = some g → W.heap.size ≤ g := fun g hg => by
    have h1 : g2 = g := by simpa using hg
    have h2 : lo ≤ g2 := (o2.rng _ rfl).1
    omega
  have hc8 : 8 ≤ c2 - l.length := by omega
  clear q1 q2 hh hh2 e1 e2 n8 r1 gr1 gr2 k1 k2 o1 b1 hg1 z1 l1 l1' o0 h0 o hA n1 n2

  go_upto_region 4 with fail
  go_cut [0] (fun s0 wx => ∃ g c' L, Hid (L = l ++ Frame.head ⟨num, d⟩ ++ Frame.w4 (Crc.sum (Frame.head ⟨num, d⟩ ++ d))) ∧ s0 = .slice (some ⟨g, 0, none⟩) L.length c' ∧
    OR 5 lo wx (some ⟨g, 0, none⟩) c' L ∧ wx.cell? ⟨w.heap.size, 1, none⟩ = some (.slice B d.length cd) ∧ Ab W wx ∧ lo ≤ wx.heap.size ∧ L.length ≤ 200000)
  case first =>
    go_region_held3 (fun w' => w'.cell? ⟨w.heap.size, 1, none⟩ = some (.slice B d.length cd))
      ((repeat (first | with_reducible assumption | (simp [go_sem]; done) | with_reducible apply cell_alloc | with_reducible apply cell_drew | with_reducible apply cell_drewN | (with_reducible apply Ab.at; with_reducible assumption) | (with_reducible refine cell_set ?_ ?_; rotate_left; focus (first | (simp; done) | (simp; omega))) | (with_reducible refine cell_setb ?_ ?_; rotate_left; focus (first | omega | (simp only; omega) | (simp; omega))))))
      ((first
        | (go_at_call 79
           refine (fsum_any _ B (Frame.head ⟨num, d⟩) d _ cd _ (RB.ab hrb (by repeat (first | with_reducible exact Ab.refl _ | with_reducible assumption | with_reducible refine Ab.drew ?_ | with_reducible refine Ab.drewN ?_ _ | with_reducible refine Ab.alloc ?_ _ | with_reducible refine Ab.trans ?_ (by assumption) | with_reducible refine Ab.set ?_ (by first | (simp; done) | omega | (simp; omega)) _))) hc8 (RB.ab bd2 (by repeat (first | with_reducible exact Ab.refl _ | with_reducible assumption | with_reducible refine Ab.drew ?_ | with_reducible refine Ab.drewN ?_ _ | with_reducible refine Ab.alloc ?_ _ | with_reducible refine Ab.trans ?_ (by assumption) | with_reducible refine Ab.set ?_ (by first | (simp; done) | omega | (simp; omega)) _))) hcd (by simp) (by omega)).mono ?_
           rintro e w5 ⟨rfl, rfl⟩)
        | (go_at_call 78
           refine (putWord_any _ L2 c2 (Crc.sum (Frame.head ⟨num, d⟩ ++ d)) _ rfl lo _ (show OR 5 lo _ (some ⟨g2, 0, none⟩) c2 L2 from (by (repeat (first | with_reducible exact OR.none_ | with_reducible assumption | with_reducible refine OR.drew ?_ | with_reducible refine OR.drewN ?_ _ | with_reducible refine OR.alloc ?_ _ | (with_reducible refine OR.setNew ?_ _ ?_ _; rotate_left; focus (first | (simp; done) | omega | (simp; omega))) | with_reducible refine OR.set ?_ (by first | (simp; done) | omega | (simp; omega)) _ | (with_reducible refine OR.keep ?_ (by assumption)))))) (by simp; omega) (by omega)).mono ?_
           rintro e w5 ⟨g5, c5, L5, e5, rfl, o5, gr5, k5⟩
           have r5 := grown_cell (b := w.heap.size) (o := 1) (v := .slice B d.length cd) gr5 (by (repeat (first | with_reducible assumption | (simp [go_sem]; done) | with_reducible apply cell_alloc | with_reducible apply cell_drew | with_reducible apply cell_drewN | (with_reducible apply Ab.at; with_reducible assumption) | (with_reducible refine cell_set ?_ ?_; rotate_left; focus (first | (simp; done) | (simp; omega))) | (with_reducible refine cell_setb ?_ ?_; rotate_left; focus (first | omega | (simp only; omega) | (simp; omega)))))) (fun a h => by obtain rfl := Option.some.inj h; exact hg2))))
    all_goals (go_wp2_with fail; go_meet)
    all_goals exact ⟨g5, c5, L5, Lib.hid (by rw [e5.out, HH.out]), rfl, o5, r5, grown_ab (w0 := _) (by repeat (first | with_reducible exact Ab.refl _ | with_reducible assumption | with_reducible refine Ab.drew ?_ | with_reducible refine Ab.drewN ?_ _ | with_reducible refine Ab.alloc ?_ _ | with_reducible refine Ab.trans ?_ (by assumption) | with_reducible refine Ab.set ?_ (by first | (simp; done) | omega | (simp; omega)) _)) gr5 hGR, by have := o5.rng _ rfl; omega, by rw [e5.out, List.length_append]; simp; omega⟩
  obtain ⟨g, c', L, eL, rfl, oL, rL, bL, hL, kL⟩ := hcut
  have bdL := hd.ab bL
  go_wp2_with ((at_builtin
                refine listApp rfl _ _ rfl rfl rfl (m := d) rfl oL hL bdL hcd (by omega) ?_
                intro A9 c9 w9 L9 e9 o9 g9 f9))
  go_ret
  exact ⟨A9, c9, L9, Lib.hid (by rw [e9.out, eL.out]; unfold Frame.enc; simp), rfl, o9, f9 W bL hWlo⟩
end Go.Proofs.Ytehagdpcegpbjaa
