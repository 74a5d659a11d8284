/- A block taken in, walked. Own work. -/
import Derived.Test.YthfffbpcmlgoiaaGreatDoorCKC
import Derived.Deep.QuietTactic
import Derived.BigQuiet
set_option linter.unusedVariables false
set_option linter.unusedSimpArgs false
namespace Go.Proofs.YthfffbpcmlgoiaaGreatDoor
open Go.RowKit

theorem ws_at (ws : List (BitVec 32)) (t : Nat) (hj : t < ws.length) : (ws.map wv)[t]? = some (.int .u32 ((Sha.at_ ws t).toNat : Int)) := by
  rw [List.getElem?_map]
  unfold Sha.at_
  rw [List.getD_eq_getElem?_getD, List.getElem?_eq_getElem hj]
  rfl
theorem wrap_add (a b : BitVec 32) : IntKind.u32.wrap ((a.toNat : Int) + (b.toNat : Int)) = ((a + b).toNat : Int) := by
  rw [← add_reg]
  generalize (a.toNat : Int) + (b.toNat : Int) = y
  simp [IntKind.wrap, IntKind.bits, IntKind.signed]
theorem turns3 (x : BitVec 32) (a b c : Nat) : turns x [a, b, c] = Sha.rotr x a ^^^ Sha.rotr x b ^^^ Sha.rotr x c := by
  show 0#32 ^^^ Sha.rotr x a ^^^ Sha.rotr x b ^^^ Sha.rotr x c = _
  rw [BitVec.zero_xor]
theorem p_form (s : Sha.W8) (k x : BitVec 32) : IntKind.u32.wrap (IntKind.u32.wrap (IntKind.u32.wrap (IntKind.u32.wrap ((s.z.toNat : Int) + ((turns s.e [6, 11, 25]).toNat : Int)) +
    bits .xor .u32 (bits .and .u32 (s.e.toNat : Int) (s.f.toNat : Int)) (bits .and .u32 (bits .xor .u32 IntKind.u32.max (s.e.toNat : Int)) (s.g.toNat : Int))) + (k.toNat : Int)) + (x.toNat : Int)) = ((Sha.p_ s k x).toNat : Int) := by
  rw [turns3, not_form, bx_and, bx_and, bx_xor, wrap_add, wrap_add, wrap_add, wrap_add]
  rfl
theorem q_form (s : Sha.W8) : (((turns s.a [2, 13, 22]).toNat : Int) + bits .xor .u32 (bits .xor .u32 (bits .and .u32 (s.a.toNat : Int) (s.b.toNat : Int)) (bits .and .u32 (s.a.toNat : Int) (s.c.toNat : Int))) (bits .and .u32 (s.b.toNat : Int) (s.c.toNat : Int))) % 4294967296 = ((Sha.q_ s).toNat : Int) := by
  rw [turns3, bx_and, bx_and, bx_and, bx_xor, bx_xor, add_reg]
  rfl
@[go_sem] theorem eight_at0 (x0 x1 x2 x3 x4 x5 x6 x7 : Value) (w : World) : (Instr.index 101 (.agg #[x0, x1, x2, x3, x4, x5, x6, x7]) (.int .i64 0)).run Tryz.prog w = .ok x0 w := by kernel_rfl
@[go_sem] theorem eight_at1 (x0 x1 x2 x3 x4 x5 x6 x7 : Value) (w : World) : (Instr.index 101 (.agg #[x0, x1, x2, x3, x4, x5, x6, x7]) (.int .i64 1)).run Tryz.prog w = .ok x1 w := by kernel_rfl
@[go_sem] theorem eight_at2 (x0 x1 x2 x3 x4 x5 x6 x7 : Value) (w : World) : (Instr.index 101 (.agg #[x0, x1, x2, x3, x4, x5, x6, x7]) (.int .i64 2)).run Tryz.prog w = .ok x2 w := by kernel_rfl
@[go_sem] theorem eight_at3 (x0 x1 x2 x3 x4 x5 x6 x7 : Value) (w : World) : (Instr.index 101 (.agg #[x0, x1, x2, x3, x4, x5, x6, x7]) (.int .i64 3)).run Tryz.prog w = .ok x3 w := by kernel_rfl
@[go_sem] theorem eight_at4 (x0 x1 x2 x3 x4 x5 x6 x7 : Value) (w : World) : (Instr.index 101 (.agg #[x0, x1, x2, x3, x4, x5, x6, x7]) (.int .i64 4)).run Tryz.prog w = .ok x4 w := by kernel_rfl
@[go_sem] theorem eight_at5 (x0 x1 x2 x3 x4 x5 x6 x7 : Value) (w : World) : (Instr.index 101 (.agg #[x0, x1, x2, x3, x4, x5, x6, x7]) (.int .i64 5)).run Tryz.prog w = .ok x5 w := by kernel_rfl
@[go_sem] theorem eight_at6 (x0 x1 x2 x3 x4 x5 x6 x7 : Value) (w : World) : (Instr.index 101 (.agg #[x0, x1, x2, x3, x4, x5, x6, x7]) (.int .i64 6)).run Tryz.prog w = .ok x6 w := by kernel_rfl
@[go_sem] theorem eight_at7 (x0 x1 x2 x3 x4 x5 x6 x7 : Value) (w : World) : (Instr.index 101 (.agg #[x0, x1, x2, x3, x4, x5, x6, x7]) (.int .i64 7)).run Tryz.prog w = .ok x7 w := by kernel_rfl
/-- The words while the first n are summed up. -/
def sm (h s : Sha.W8) (n : Nat) : List Value := ((Sha.add h s).list.take n ++ h.list.drop n).map wv
/-- The variables of take behind t rounds. -/
structure Tk (w : World) (b : Nat) (h : Sha.W8) (l : List (BitVec 32)) (w' : World) : Prop where
  ab : Ab w w'
  v : VB w' b (l.map wv)
  y : VB w' w.heap.size (w8 h)
  z : VB w' (w.heap.size + 1) (List.replicate 8 (.int .u32 0))
theorem Tk.keep {w w1 w2 : World} {b : Nat} {h : Sha.W8} {l : List (BitVec 32)} (q : Tk w b h l w1) (k : Ab w1 w2) : Tk w b h l w2 := ⟨q.ab.trans k, q.v.ab k, q.y.ab k, q.z.ab k⟩
set_option maxRecDepth 100000 in
set_option maxHeartbeats 1000000 in
theorem take_any (h : Sha.W8) (A : Option Addr) (l : List UInt8) (c : Nat) (w : World) (hG : Glob w) (hb : RB w 0 A l) (hc : l.length ≤ c) (h4 : l.length = 64) :
    Calls Tryz.prog 123 #[.agg #[.int .u32 (h.a.toNat : Int), .int .u32 (h.b.toNat : Int), .int .u32 (h.c.toNat : Int), .int .u32 (h.d.toNat : Int), .int .u32 (h.e.toNat : Int), .int .u32 (h.f.toNat : Int), .int .u32 (h.g.toNat : Int), .int .u32 (h.z.toNat : Int)], .slice A l.length c] w fun e w' => e = .returned (.agg (w8 (Sha.taken h l)).toArray) ∧ Ab w w' := by
  have HS : ∀ w', Ab w w' → Calls Tryz.prog 137 #[.slice A l.length c] w' (fun e w2 => e = .returned (.agg ((Sha.ws l 64).map wv).toArray) ∧ Ab w' w2) := fun w' hk => spread_any A l c w' (hb.ab hk) hc h4
  clear h4
  have HK : Hid (Sha.taken h l = Sha.add h (Sha.rounds (Sha.ws l 64) h 64)) := Lib.hid rfl
  have l64 := Sha.ws_length l 64
  generalize Sha.ws l 64 = ws at *
  have o64 : (List.map wv ws).all (·.oneCell') = true := by
    rw [List.all_map]; exact List.all_eq_true.2 fun x _ => rfl
  have e64 : (List.map wv ws).length = 64 := by rw [List.length_map, l64]
  have E64 := Lib.hid e64
  have L64 := Lib.hid l64
  clear e64 l64
  go_enter Tryz.func123, Tryz.ntmps123
  go_wp2_with fail
  refine (HS _ abA).mono ?_
  rintro e w1 ⟨rfl, hb1⟩
  have z1 : w.heap.size + 1 + 1 ≤ w1.heap.size := by have := hb1.size; simpa using this
  have V0 : VB w1 w.heap.size (w8 h) := VB.ab (VB.box (xs := #[.int .u32 (h.a.toNat : Int), .int .u32 (h.b.toNat : Int), .int .u32 (h.c.toNat : Int), .int .u32 (h.d.toNat : Int), .int .u32 (h.e.toNat : Int), .int .u32 (h.f.toNat : Int), .int .u32 (h.g.toNat : Int), .int .u32 (h.z.toNat : Int)]) (T := 101) (by (repeat (first | exact new_plain wnA | with_reducible refine old_alloc ?_ | with_reducible refine old_drew ?_ | with_reducible refine old_set ?_ wnA | with_reducible refine old_ab (by assumption) ?_)))) hb1
  have Z0 : VB w1 (w.heap.size + 1) (List.replicate 8 (.int .u32 0)) := VB.ab (VB.box (xs := (List.replicate 8 (Value.int .u32 0)).toArray) (T := 101) (by (repeat (first | exact new_plain wnA | with_reducible refine old_alloc ?_ | with_reducible refine old_drew ?_ | with_reducible refine old_set ?_ wnA | with_reducible refine old_ab (by assumption) ?_)))) hb1
  have X0 : VB (w1.alloc (.cells (List.replicate 64 (Value.int .u32 0)).toArray 179)) w1.heap.size (List.replicate 64 (.int .u32 0)) := VB.box (xs := (List.replicate 64 (Value.int .u32 0)).toArray) (T := 179) (by (repeat (first | exact new_plain wnA | with_reducible refine old_alloc ?_ | with_reducible refine old_drew ?_ | with_reducible refine old_set ?_ wnA | with_reducible refine old_ab (by assumption) ?_)))
  go_wp2_with ((refine list_stV _ info64 rfl _ _ rfl rfl rfl X0 (by rw [E64.out]; rfl) E64.out o64 ?_
                intro w2 h2))
  have hT : Tk w w1.heap.size h ws w2 := ⟨h2.ab _ abA (by omega), h2.v, h2.vb (V0.ab abA) (by omega), h2.vb (Z0.ab abA) (by omega)⟩
  generalize w1.heap.size = bw at *
  clear h2 X0 Z0 V0 hb1 HS o64
  have y0 := hT.y.at 0 rfl
  have y1 := hT.y.at 1 rfl
  have y2 := hT.y.at 2 rfl
  have y3 := hT.y.at 3 rfl
  have y4 := hT.y.at 4 rfl
  have y5 := hT.y.at 5 rfl
  have y6 := hT.y.at 6 rfl
  have y7 := hT.y.at 7 rfl
  go_quiet (fail)
  clear y0 y1 y2 y3 y4 y5 y6 y7
  go_wp2
  go_loopw [6, 7, 8, 9, 10, 11, 12, 13, 37] (fun a b c d e f g z i w' => ∃ t : Nat, t ≤ 64 ∧ i = .int .i64 t ∧ a = .int .u32 ((Sha.rounds ws h t).a.toNat : Int) ∧ b = .int .u32 ((Sha.rounds ws h t).b.toNat : Int) ∧ c = .int .u32 ((Sha.rounds ws h t).c.toNat : Int) ∧ d = .int .u32 ((Sha.rounds ws h t).d.toNat : Int) ∧ e = .int .u32 ((Sha.rounds ws h t).e.toNat : Int) ∧ f = .int .u32 ((Sha.rounds ws h t).f.toNat : Int) ∧ g = .int .u32 ((Sha.rounds ws h t).g.toNat : Int) ∧ z = .int .u32 ((Sha.rounds ws h t).z.toNat : Int) ∧ Tk w bw h ws w') (fun _ _ _ _ _ _ _ _ i _ => 64 - (intOf i).toNat)
  case atStart => exact ⟨0, by omega, rfl, rfl, rfl, rfl, rfl, rfl, rfl, rfl, rfl, hT.keep (by (repeat (first | with_reducible exact Ab.refl _ | with_reducible assumption | with_reducible refine Ab.drew ?_ | with_reducible refine Ab.drewN ?_ _ | with_reducible refine Ab.alloc ?_ _ | with_reducible refine Ab.trans ?_ (by assumption) | with_reducible refine Ab.set ?_ wnA _)))⟩
  case round =>
    obtain ⟨t, ht, rfl, rfl, rfl, rfl, rfl, rfl, rfl, rfl, rfl, hS⟩ := hrel
    rename World => w3
    by_cases hlt : t < 64
    · have hT1 : (t : Int) < 64 := by omega
      have cw := hS.v.at t (ws_at ws t (by rw [L64.out]; exact hlt))
      have ck := (hG.ab hS.ab).at t hlt
      have HR : Hid (Sha.rounds ws h (t + 1) = Sha.round (Sha.rounds ws h t) (Sha.at_ Sha.K t) (Sha.at_ ws t)) := Lib.hid rfl
      generalize Sha.rounds ws h t = s at *
      generalize Sha.at_ Sha.K t = k at *
      generalize Sha.at_ ws t = x at *
      go_upto_region 6 with fail
      go_cut [15] (fun s15 wx => s15 = .int .u32 ((Sha.p_ s k x).toNat : Int) ∧ Ab w3 wx)
      case first =>
        refine wp_region_held_drew (by kernel_rfl) (S := fun w' => w'.cell? ⟨2, t, none⟩ = some (.int .u32 (k.toNat : Int)) ∧ w'.cell? ⟨bw, t, none⟩ = some (.int .u32 (x.toNat : Int))) ?_ (fun hHeld => ?_)
        · exact ⟨cell_drew ck, cell_drew cw⟩
        (refine rtA 0 ?_ ?_
         (try simp only [Act.put, stA, st0, st1]))
        (refine rtA 1 ?_ ?_
         (try simp only [Act.put, stA, st0, st1]))
        (refine rtA 5 ?_ ?_
         (try simp only [Act.put, stA, st0, st1]))
        (refine rtA 6 ?_ ?_
         (try simp only [Act.put, stA, st0, st1]))
        (refine rtA 7 ?_ ?_
         (try simp only [Act.put, stA, st0, st1]))
        (refine rtA 8 ?_ ?_
         (try simp only [Act.put, stA, st0, st1]))
        (refine rtA 9 ?_ ?_
         (try simp only [Act.put, stA, st0, st1]))
        (refine rtA 10 ?_ ?_
         (try simp only [Act.put, stA, st0, st1]))
        (refine rtA 11 ?_ ?_
         (try simp only [Act.put, stA, st0, st1]))
        (refine rtA 12 ?_ ?_
         (try simp only [Act.put, stA, st0, st1]))
        (refine rtA 14 ?_ ?_
         (try simp only [Act.put, stA, st0, st1]))
        (refine rtA 15 ?_ ?_
         (try simp only [Act.put, stA, st0, st1]))
        (refine rtA 16 ?_ ?_
         (try simp only [Act.put, stA, st0, st1]))
        (refine rtA 18 ?_ ?_
         (try simp only [Act.put, stA, st0, st1]))
        (refine rtA 19 ?_ ?_
         (try simp only [Act.put, stA, st0, st1]))
        (refine rtA 20 ?_ ?_
         (try simp only [Act.put, stA, st0, st1]))
        refine r1A 2 (fun K hK => ?_)
        (go_simp
         (refine hK.out _ _ ?_ (fun hHeld => ?_)
          · (try dsimp only); (refine ⟨?_, ?_⟩ <;> (exact ckA))
          clear hK K
          (try simp only [Act.put, stA, st0, st1])))
        refine r1A 3 (fun K hK => ?_)
        go_simp
        have hg : ((w3.alloc (.cells #[.int .i64 6, .int .i64 11, .int .i64 25] 3)).drew).heap[w3.heap.size]? = some (.cells #[.int .i64 6, .int .i64 11, .int .i64 25] 3 (0, 0)) := by (repeat (first | exact new_plain wnA | with_reducible refine old_alloc ?_ | with_reducible refine old_drew ?_ | with_reducible refine old_set ?_ wnA | with_reducible refine old_ab (by assumption) ?_))
        have hC := turned3_any s.e w3.heap.size 6 11 25 6 11 25 rfl rfl rfl _ _ _ hg (by omega) (by omega) (by omega)
        with_reducible refine hC.mono ?_
        rintro e w5 ⟨rfl, rfl⟩
        (try go_wp2_with fail)
        (refine hK.out _ _ ?_ (fun hHeld => ?_)
         · (try dsimp only); (refine ⟨?_, ?_⟩ <;> (exact ckA))
         clear hK K
         (try simp only [Act.put, stA, st0, st1]))
        (refine rtA 4 ?_ ?_
         (try simp only [Act.put, stA, st0, st1]))
        (refine rtA 13 ?_ ?_
         (try simp only [Act.put, stA, st0, st1]))
        (refine rtA 17 ?_ ?_
         (try simp only [Act.put, stA, st0, st1]))
        (refine rtA 21 ?_ ?_
         (try simp only [Act.put, stA, st0, st1]))
        refine r1A 22 (fun K hK => ?_)
        (go_simp
         (refine hK.out _ _ ?_ (fun hHeld => ?_)
          · (try dsimp only); (refine ⟨?_, ?_⟩ <;> (exact ckA))
          clear hK K
          (try simp only [Act.put, stA, st0, st1])))
        refine wpAnyH_done (by kernel_rfl) ?_ _
        go_wp2_with fail
        go_meet
        exact ⟨by rw [p_form], abA⟩
      obtain ⟨rfl, hb1⟩ := hcut
      rename World => w4
      go_upto_region 8 with ((go_at_call 138
                              have hg : ((w4.alloc (.cells #[.int .i64 2, .int .i64 13, .int .i64 22] 3))).heap[w4.heap.size]? = some (.cells #[.int .i64 2, .int .i64 13, .int .i64 22] 3 (0, 0)) := by (repeat (first | exact new_plain wnA | with_reducible refine old_alloc ?_ | with_reducible refine old_drew ?_ | with_reducible refine old_set ?_ wnA | with_reducible refine old_ab (by assumption) ?_))
                              have hC := turned3_any s.a w4.heap.size 2 13 22 2 13 22 rfl rfl rfl _ _ _ hg (by omega) (by omega) (by omega)
                              with_reducible refine hC.mono ?_
                              rintro e w5 ⟨rfl, rfl⟩
                              clear hg hC))
      have HQ := Lib.hid (q_form s)
      have HF := Lib.hid (fun (f : Sha.W8 → BitVec 32) => congrArg (fun r : Sha.W8 => Value.int .u32 ((f r).toNat : Int)) HR.out.symm)
      go_wp2
      go_roundw
      case rel => exact ⟨t + 1, by omega, by go_num, by rw [HQ.out, add_reg]; exact HF.out (·.a), HF.out (·.b), HF.out (·.c), HF.out (·.d), by rw [add_reg]; exact HF.out (·.e), HF.out (·.f), HF.out (·.g), HF.out (·.z), hS.keep (hb1.trans abA)⟩
      case measure => simp [intOf]; omega
    · have ht64 : t = 64 := by omega
      have HK2 : Hid (Sha.taken h l = Sha.add h (Sha.rounds ws h t)) := by rw [ht64]; exact HK
      have hT1 : ¬ (t : Int) < 64 := by omega
      clear ht64 HK
      generalize Sha.rounds ws h t = s at *
      have hSa := hS.ab
      have hSy := hS.y
      have hSz := hS.z
      go_wp2
      go_loopw [99] (fun i w' => ∃ n : Nat, n ≤ 8 ∧ i = .int .i64 n ∧ Ab w w' ∧ VB w' w.heap.size (sm h s n) ∧ VB w' (w.heap.size + 1) (List.replicate 8 (.int .u32 0))) (fun i _ => 8 - (intOf i).toNat)
      case atStart => exact ⟨0, by omega, rfl, hSa, hSy, hSz⟩
      case round =>
        obtain ⟨n, hn, rfl, ha, hy, hz⟩ := hrel
        by_cases hlt : n < 8
        · have y0 := hy.q n
          have g0 := hy.g n
          have : n = 0 ∨ n = 1 ∨ n = 2 ∨ n = 3 ∨ n = 4 ∨ n = 5 ∨ n = 6 ∨ n = 7 := by omega
          rcases this with rfl | rfl | rfl | rfl | rfl | rfl | rfl | rfl
          · replace y0 := y0 (.int .u32 (h.a.toNat : Int)) rfl
            go_wp2
            rw [add_reg]
            go_roundw
            case rel => exact ⟨1, by omega, by go_num, abA, hy.set 0 (Nat.le_of_ble_eq_true rfl) _, hz.other (by simp) _⟩
            case measure => simp [intOf]
          · replace y0 := y0 (.int .u32 (h.b.toNat : Int)) rfl
            go_wp2
            rw [add_reg]
            go_roundw
            case rel => exact ⟨2, by omega, by go_num, abA, hy.set 1 (Nat.le_of_ble_eq_true rfl) _, hz.other (by simp) _⟩
            case measure => simp [intOf]
          · replace y0 := y0 (.int .u32 (h.c.toNat : Int)) rfl
            go_wp2
            rw [add_reg]
            go_roundw
            case rel => exact ⟨3, by omega, by go_num, abA, hy.set 2 (Nat.le_of_ble_eq_true rfl) _, hz.other (by simp) _⟩
            case measure => simp [intOf]
          · replace y0 := y0 (.int .u32 (h.d.toNat : Int)) rfl
            go_wp2
            rw [add_reg]
            go_roundw
            case rel => exact ⟨4, by omega, by go_num, abA, hy.set 3 (Nat.le_of_ble_eq_true rfl) _, hz.other (by simp) _⟩
            case measure => simp [intOf]
          · replace y0 := y0 (.int .u32 (h.e.toNat : Int)) rfl
            go_wp2
            rw [add_reg]
            go_roundw
            case rel => exact ⟨5, by omega, by go_num, abA, hy.set 4 (Nat.le_of_ble_eq_true rfl) _, hz.other (by simp) _⟩
            case measure => simp [intOf]
          · replace y0 := y0 (.int .u32 (h.f.toNat : Int)) rfl
            go_wp2
            rw [add_reg]
            go_roundw
            case rel => exact ⟨6, by omega, by go_num, abA, hy.set 5 (Nat.le_of_ble_eq_true rfl) _, hz.other (by simp) _⟩
            case measure => simp [intOf]
          · replace y0 := y0 (.int .u32 (h.g.toNat : Int)) rfl
            go_wp2
            rw [add_reg]
            go_roundw
            case rel => exact ⟨7, by omega, by go_num, abA, hy.set 6 (Nat.le_of_ble_eq_true rfl) _, hz.other (by simp) _⟩
            case measure => simp [intOf]
          · replace y0 := y0 (.int .u32 (h.z.toNat : Int)) rfl
            go_wp2
            rw [add_reg]
            go_roundw
            case rel => exact ⟨8, by omega, by go_num, abA, hy.set 7 (Nat.le_of_ble_eq_true rfl) _, hz.other (by simp) _⟩
            case measure => simp [intOf]
        · have e8 : n = 8 := by omega
          subst e8
          go_wp2_with (first
            | (refine list_ldV _ info8 Tryz.underlying101 rfl rfl _ rfl rfl hy rfl ?_)
            | (refine list_stV _ info8 rfl _ _ rfl rfl rfl hz rfl rfl rfl ?_
               intro w9 h9))
          refine bodyPost_ret (res_V1 _ info8 Tryz.underlying101 rfl Tryz.results123 _ rfl h9.v rfl) rfl ?_
          exact ⟨by rw [HK2.out]; rfl, h9.ab _ ha (by omega)⟩
end Go.Proofs.YthfffbpcmlgoiaaGreatDoor
