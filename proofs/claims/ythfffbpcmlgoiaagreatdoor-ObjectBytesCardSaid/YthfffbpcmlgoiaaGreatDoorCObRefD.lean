/- The reference of layer 9: Great, named, lists of values. Own work. -/
import Derived.Test.YthfffbpcmlgoiaaGreatDoorCObVal3
import Derived.Test.YthfffbpcmlgoiaaGreatDoorCKG
import Derived.Test.YthfffbpcmlgoiaaGreatDoorCObRefA
set_option linter.unusedVariables false
set_option linter.unusedSimpArgs false
namespace Go.Proofs.YthfffbpcmlgoiaaGreatDoor
open Go.RowKit
open Codec (V)

/-- One of both answers; if it is no, then n is small. -/
def RetBl (n : Nat) (w : World) (e : Ending) (w' : World) : Prop := ∃ v : Bool, e = .returned (.bool v) ∧ Hid (v = false → n ≤ 3000) ∧ Ab w w'
set_option maxRecDepth 100000 in
set_option maxHeartbeats 1000000 in
theorem r9great_any (o : OM) (w : World) (h : OL w o) :
    Calls Tryz.prog 19 #[.agg o.cells.toArray] w (RetBl o.t.length w) := by
  have V0 : VB (w.alloc (.cells o.cells.toArray 32)) w.heap.size o.cells := VB.box (xs := o.cells.toArray) (T := 32) (by (repeat (first | exact new_plain wnA | with_reducible refine old_alloc ?_ | with_reducible refine old_drew ?_ | with_reducible refine old_set ?_ wnA | with_reducible refine old_ab (by assumption) ?_)))
  have b0 : Ab w (w.alloc (.cells o.cells.toArray 32)) := abA
  have e1 : o.cells[1]? = some (.slice o.A o.t.length o.c) := rfl
  have e2 : o.cells[2]? = some (.slice o.E o.es.length o.d) := rfl
  obtain ⟨e35, e36, e37⟩ := cells_34 o.m h.m.t
  have e35 : o.cells[35]? = some (.slice o.m.A o.m.ps.length o.m.c) := e35
  have e36 : o.cells[36]? = some (.string o.m.note) := e36
  have hr := Lib.hid h.r
  have hn := h.n'
  have ht := h.c'
  have hp := h.m.n'
  clear e37 h
  obtain ⟨k, A, t, c, E, es, d, ⟨t', A', ps, c', note, tick⟩⟩ := o
  simp only at e1 e2 e35 e36 hr hn ht hp ⊢
  generalize OM.cells _ = cs at *
  go_enter Tryz.func19, Tryz.ntmps19
  go_upto_region 1 with fail
  generalize w.alloc (.cells cs.toArray 32) = w0 at *
  have c2 := V0.at 2 e2
  go_wp2_with fail
  go_loopw [3] (fun i w' => ∃ k : Nat, k ≤ es.length ∧ i = .int .i64 k ∧ Ab w0 w') (fun i _ => es.length - (intOf i).toNat)
  case atStart => exact ⟨0, Nat.zero_le _, rfl, Ab.refl _⟩
  case round =>
    obtain ⟨k, hk, rfl, hb⟩ := hrel
    rename World => w1
    have V1 := V0.ab hb
    have c2 := V1.at 2 e2
    by_cases hlt : k < es.length
    · have hT : (k : Int) < es.length := by omega
      obtain ⟨g, o, rfl, hR⟩ := hr.out (by simp; omega)
      have cX := (b0.trans hb).at (hR k (by simpa using hlt) 0 (.string es[k].p) (by rw [List.getElem_map]; rfl))
      rw [Nat.add_zero] at cX
      generalize es[k] = x at *
      clear hR
      by_cases h2 : x.p.size ≤ 200
      · have k2 : ¬ (200 : Int) < (x.p.size : Int) := by omega
        go_wp2
        go_roundw
        case rel => exact ⟨k + 1, by omega, by go_num, hb⟩
        case measure => simp [intOf] <;> omega
      · have k2 : (200 : Int) < (x.p.size : Int) := by omega
        go_wp2
        go_ret
        exact ⟨_, rfl, Lib.hid (by first | (intro h; cases h; done) | (intro _; omega)), b0.trans hb⟩
    · obtain rfl : k = es.length := by omega
      have c1 := V1.at 1 e1
      have c3 := V1.at 35 e35
      have c4 := V1.at 36 e36
      by_cases h1 : t.length ≤ 3000
      · have k1 : ¬ (3000 : Int) < (t.length : Int) := by omega
        by_cases h2 : es.length ≤ 40
        · have k2 : ¬ (40 : Int) < (es.length : Int) := by omega
          by_cases h3 : ps.length ≤ 40
          · have k3 : ¬ (40 : Int) < (ps.length : Int) := by omega
            by_cases h4 : note.size ≤ 1000
            · have k4 : ¬ (1000 : Int) < (note.size : Int) := by omega
              go_wp2
              go_ret
              exact ⟨_, rfl, Lib.hid (by first | (intro h; cases h; done) | (intro _; omega)), b0.trans hb⟩
            · have k4 : (1000 : Int) < (note.size : Int) := by omega
              go_wp2
              go_ret
              exact ⟨_, rfl, Lib.hid (by first | (intro h; cases h; done) | (intro _; omega)), b0.trans hb⟩
          · have k3 : (40 : Int) < (ps.length : Int) := by omega
            go_wp2
            go_ret
            exact ⟨_, rfl, Lib.hid (by first | (intro h; cases h; done) | (intro _; omega)), b0.trans hb⟩
        · have k2 : (40 : Int) < (es.length : Int) := by omega
          go_wp2
          go_ret
          exact ⟨_, rfl, Lib.hid (by first | (intro h; cases h; done) | (intro _; omega)), b0.trans hb⟩
      · have k1 : (3000 : Int) < (t.length : Int) := by omega
        go_wp2
        go_ret
        exact ⟨_, rfl, Lib.hid (by first | (intro h; cases h; done) | (intro _; omega)), b0.trans hb⟩
set_option maxRecDepth 100000 in
theorem text9_any (A : Option Addr) (l : List UInt8) (c : Nat) (w : World) (hb : RB w 0 A l) (hc : l.length ≤ c) (ll : l.length ≤ 1000000) :
    Calls Tryz.prog 83 #[.slice A l.length c] w fun e w' => ∃ (A' : Option Addr) (c' : Nat), e = .returned (vmB A' l c').val ∧ VL 1 w' (fun g => w.heap.size ≤ g) (vmB A' l c') ∧ Ab w w' := by
  go_enter Tryz.func83, Tryz.ntmps83
  have Y0 : VB (w.alloc (.cells VM.zero.cells.toArray 88)) w.heap.size VM.zero.cells := VB.box (xs := VM.zero.cells.toArray) (T := 88) (by (repeat (first | exact new_plain wnA | with_reducible refine old_alloc ?_ | with_reducible refine old_drew ?_ | with_reducible refine old_set ?_ wnA | with_reducible refine old_ab (by assumption) ?_)))
  have Y1 := Y0.ab (show Ab _ ((w.alloc (.cells VM.zero.cells.toArray 88)).alloc (.cells #[] 5)) from abA)
  go_wp2_with (first
    | ((at_builtin
        refine listLit rfl _ _ rfl rfl rfl (m := l) rfl (by (repeat (first | exact new_plain wnA | with_reducible refine old_alloc ?_ | with_reducible refine old_drew ?_ | with_reducible refine old_set ?_ wnA | with_reducible refine old_ab (by assumption) ?_))) (RB.ab hb (show Ab w _ from abA)) hc (by omega) ?_
        intro A1 d1 w1 L1 e1 b1 o1
        have oA := o1 (w.heap.size + 1) (by simp) (by simp)
        have ab1 : Ab w w1 := Ab.trans (by exact abA) b1
        have YA := Y1.ab b1
        clear o1))
    | (refine list_stV (o := ⟨none, _, _, _, _, _⟩) (us := [.int .u8 2, .int .i64 0, .slice A1 L1.length d1, .slice none 0 0]) _ infoV rfl _ _ rfl rfl rfl YA rfl rfl rfl ?_; intro w9 h9))
  refine bodyPost_ret (res_V1 _ infoV Tryz.underlying88 rfl Tryz.results83 _ rfl h9.v rfl) rfl ?_
  have hl1 : L1 = l := e1.out
  subst hl1
  refine ⟨A1, d1, rfl, vl_B ?_ oA.le (by omega), h9.ab w ab1 (Nat.le_refl _)⟩
  exact RS.mono' (fun g hg => by omega) ((oA.rb.rs (S := fun g => w.heap.size + 1 ≤ g) (fun g h => h)).keep (w' := w9) fun g hg hl => h9.blk g (by omega))
set_option maxRecDepth 100000 in
theorem rnamed_any (x : List UInt8) (hx : x.length = 32) (w : World) :
    Calls Tryz.prog 85 #[.agg (idc x).toArray] w fun e w' => ∃ (A' : Option Addr) (c' : Nat), e = .returned (vmB A' x c').val ∧ VL 1 w' (fun g => w.heap.size ≤ g) (vmB A' x c') ∧ Ab w w' := by
  have hxl := idc_len hx
  have HX : ∀ i (h : i < x.length), (idc x)[i]? = some (cb x[i]) := fun i h => idc_at h
  generalize hxc : idc x = xc at *
  clear hxc
  go_enter Tryz.func85, Tryz.ntmps85
  have V0 : VB ((w.alloc (.cells xc.toArray 27)).alloc (.cells #[.int .u8 0, .int .i64 0, .slice none 0 0, .slice none 0 0] 88)) w.heap.size xc := VB.box (xs := xc.toArray) (T := 27) (by (repeat (first | exact new_plain wnA | with_reducible refine old_alloc ?_ | with_reducible refine old_drew ?_ | with_reducible refine old_set ?_ wnA | with_reducible refine old_ab (by assumption) ?_)))
  have Z0 : VB ((w.alloc (.cells xc.toArray 27)).alloc (.cells #[.int .u8 0, .int .i64 0, .slice none 0 0, .slice none 0 0] 88)) (w.heap.size + 1) VM.zero.cells := VB.box (xs := #[.int .u8 0, .int .i64 0, .slice none 0 0, .slice none 0 0]) (T := 88) (by (repeat (first | exact new_plain wnA | with_reducible refine old_alloc ?_ | with_reducible refine old_drew ?_ | with_reducible refine old_set ?_ wnA | with_reducible refine old_ab (by assumption) ?_)))
  have b0 : Ab w ((w.alloc (.cells xc.toArray 27)).alloc (.cells #[.int .u8 0, .int .i64 0, .slice none 0 0, .slice none 0 0] 88)) := abA
  have z0 : w.heap.size + 1 < ((w.alloc (.cells xc.toArray 27)).alloc (.cells #[.int .u8 0, .int .i64 0, .slice none 0 0, .slice none 0 0] 88)).heap.size := by simp
  have R0 : RB ((w.alloc (.cells xc.toArray 27)).alloc (.cells #[.int .u8 0, .int .i64 0, .slice none 0 0, .slice none 0 0] 88)) 0 (some ⟨w.heap.size, 0, none⟩) x := fun hn => ⟨_, rfl, Nat.zero_le _, fun i hi => by
    rw [Addr.add_mid, Nat.zero_add]
    exact V0.at i (HX i hi)⟩
  go_upto_region 1 with fail
  generalize ((w.alloc (.cells xc.toArray 27)).alloc (.cells #[.int .u8 0, .int .i64 0, .slice none 0 0, .slice none 0 0] 88)) = w0 at *
  have TX := text9_any (some ⟨w.heap.size, 0, none⟩) x 32 w0 R0 (by omega) (by omega)
  rw [hx] at TX
  go_wp2_with fail
  refine TX.mono ?_
  rintro e w1 ⟨A', c', rfl, hv, hb1⟩
  have Z1 := Z0.ab hb1
  go_wp2_with (refine list_stV (o := ⟨none, _, _, _, _, _⟩) (us := (vmB A' x c').cells) _ infoV rfl _ _ rfl rfl rfl Z1 rfl rfl rfl ?_; intro w9 h9)
  refine bodyPost_ret (res_V1 _ infoV Tryz.underlying88 rfl Tryz.results85 _ rfl h9.v rfl) rfl ?_
  exact ⟨A', c', rfl, VL.mono (fun g hg => by omega) (hv.keep (w' := w9) fun g hg hl => h9.blk g (by omega)), h9.ab w (b0.trans hb1) (by omega)⟩
end Go.Proofs.YthfffbpcmlgoiaaGreatDoor
