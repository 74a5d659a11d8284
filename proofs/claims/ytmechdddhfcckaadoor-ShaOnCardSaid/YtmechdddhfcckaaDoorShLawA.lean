/- What the statements of layer 8 use: arrays and hashes compared, digests of strings. Own work. -/
import Derived.Test.YtmechdddhfcckaaDoorShFunJ
import Derived.Test.YtmechdddhfcckaaDoorTry1
set_option linter.unusedVariables false
set_option linter.unusedSimpArgs false
namespace Go.Proofs.YtmechdddhfcckaaDoor
open Go.RowKit

theorem eqItems_refl (e : TypeId) (kd : IntKind) (he : ∀ (a b : Int) (w : World), (Op.equalIn 9999 e (.int kd a) (.int kd b)).run Tryd.prog w = .ok (a == b) w) (X : Array Value) (w : World) :
    ∀ l : List Nat, (∀ i ∈ l, ∃ a, (part e X (i * 1)).run Tryd.prog w = .ok (.int kd a) w) → (Op.eqItems 9999 e 1 X X l).run Tryd.prog w = .ok true w := by
  intro l
  induction l with
  | nil => intro _; simp [Op.eqItems]
  | cons i l ih =>
    intro hl
    obtain ⟨a, ha⟩ := hl i (by simp)
    simp only [Op.eqItems, Sem.run_bind, ha, he, Result.andThen_ok, beq_self_eq_true, Bool.not_true, Bool.false_eq_true, if_false]
    exact ih fun j hj => hl j (by simp [hj])
theorem part_at (e : TypeId) (i0 : TypeInfo) (hi : Tryd.prog.info? e = some i0) (hz : i0.size = 1) (ha : ∀ w, (isAgg e).run Tryd.prog w = .ok false w) (xs : List Value) (j : Nat) (kd : IntKind) (a : Int) (h : xs[j]? = some (.int kd a)) (w : World) : (part e xs.toArray (j * 1)).run Tryd.prog w = .ok (.int kd a) w := by
  simp [part, sizeOf, typeInfo, hi, hz, h, ha]
theorem run_eq8 (h : Sha.W8) (w : World) : (Op.equalIn 10000 32 (.agg (w8 h).toArray) (.agg (w8 h).toArray)).run Tryd.prog w = .ok true w := by
  obtain ⟨i0, hi, hz⟩ : ∃ i, Tryd.prog.info? 31 = some i ∧ i.size = 1 := by
    have : (Tryd.prog.info? 31).map (fun i => i.size) = some 1 := by kernel_rfl
    cases h : Tryd.prog.info? 31 with
    | none => rw [h] at this; simp at this
    | some i => rw [h] at this; exact ⟨i, rfl, by simpa using this⟩
  rw [run_equalIn_array w 9999 _ _ Tryd.underlying32 hi]
  have hc : Tryd.prog.cellsOf 31 = 1 := by kernel_rfl
  rw [hc]
  refine eqItems_refl _ .u32 (fun a b w => run_equalIn_int w 9998 _ .u32 .u32 _ _ Tryd.underlying31) _ _ _ fun i hl => ?_
  have : i < 8 := by simpa using hl
  have hlt : i < (w8 h).length := this
  have : ∀ v ∈ w8 h, ∃ a, v = .int .u32 a := by
    intro v hv
    simp only [w8, List.mem_cons, List.not_mem_nil, or_false] at hv
    rcases hv with rfl | rfl | rfl | rfl | rfl | rfl | rfl | rfl <;> exact ⟨_, rfl⟩
  obtain ⟨a, ha⟩ := this _ (List.getElem_mem hlt)
  exact ⟨a, part_at _ i0 hi hz (fun w => by kernel_rfl) _ i .u32 a (by rw [List.getElem?_eq_getElem hlt, ha]) w⟩
theorem run_eq32 (l : List UInt8) (hl : l.length = 32) (w : World) : (Op.equalIn 10000 24 (.agg (idv l).toArray) (.agg (idv l).toArray)).run Tryd.prog w = .ok true w := by
  obtain ⟨i0, hi, hz⟩ : ∃ i, Tryd.prog.info? 5 = some i ∧ i.size = 1 := by
    have : (Tryd.prog.info? 5).map (fun i => i.size) = some 1 := by kernel_rfl
    cases h : Tryd.prog.info? 5 with
    | none => rw [h] at this; simp at this
    | some i => rw [h] at this; exact ⟨i, rfl, by simpa using this⟩
  rw [run_equalIn_array w 9999 _ _ Tryd.underlying24 hi]
  have hc : Tryd.prog.cellsOf 5 = 1 := by kernel_rfl
  rw [hc]
  refine eqItems_refl _ .u8 (fun a b w => run_equalIn_int w 9998 _ .u8 .u8 _ _ Tryd.underlying5) _ _ _ fun i hl' => ?_
  have hi32 : i < 32 := by simpa using hl'
  have hlt : i < l.length := by omega
  exact ⟨_, part_at _ i0 hi hz (fun w => by kernel_rfl) _ i .u8 _ (by unfold idv; rw [List.getElem?_map, List.getElem?_eq_getElem hlt]; rfl) w⟩
theorem id_at {l : List UInt8} {k : Nat} {x : UInt8} (h : l[k]? = some x) : (idv l)[k]? = some (.int .u8 (x.toNat : Int)) := by
  unfold idv; rw [List.getElem?_map, h]; rfl
set_option maxHeartbeats 1000000 in
theorem is_true (l : List UInt8) (a b c d z : UInt8) (w : World) (hG : Glob w) (hlen : l.length ≤ 1000) (h0 : (Sha.of l)[0]? = some a) (h1 : (Sha.of l)[1]? = some b) (h2 : (Sha.of l)[2]? = some c) (h3 : (Sha.of l)[3]? = some d) (h4 : (Sha.of l)[31]? = some z) :
    Calls Tryd.prog 8 #[.string ⟨l.toArray⟩, .int .u8 (a.toNat : Int), .int .u8 (b.toNat : Int), .int .u8 (c.toNat : Int), .int .u8 (d.toNat : Int), .int .u8 (z.toNat : Int)] w (RetTrue w) := by
  have hcv := conv_bytes w l
  have hcap := grownCap_ge w l.length 0 5
  have HS : Hid (sumE l = (Sha.of l, 0)) := Lib.hid (by unfold sumE; rw [if_pos (by omega)])
  have hol : (Sha.of l).length = 32 := Sha.dig_length _
  generalize hC : grownCap w l.length 0 5 = C at hcv hcap
  clear hC
  generalize Sha.of l = D at *
  have HOL := Lib.hid hol
  clear hol
  go_enter Tryd.func8, Tryd.ntmps8
  go_wp2_with fail
  refine (sum_any (some ⟨w.heap.size, 0, none⟩) l C _ (hG.ab abA) (rb_row (c := C) (T := 5) (fr := ((bytesRow ⟨l.toArray⟩ C).size, (bytesRow ⟨l.toArray⟩ C).size + 1)) (by (repeat (first | with_reducible exact new_drew (by first | (simp; done) | (simp; omega)) | with_reducible exact new_plain (by first | (simp; done) | (simp; omega)) | with_reducible exact new_drewN (by first | (simp; done) | (simp; omega)) | with_reducible refine old_alloc ?_ | with_reducible refine old_drew ?_ | with_reducible refine old_drewN ?_ _ | with_reducible refine old_grown (by assumption) (by simp) ?_ | with_reducible refine old_ab (by assumption) ?_)))) hcap (by omega)).mono ?_
  rintro e w1 ⟨rfl, hb1⟩
  rw [HS.out]
  have hab1 : Ab w w1 := Ab.trans abA hb1
  have Z0 : VB (w1.alloc (.cells (idv (List.replicate 32 0)).toArray 24)) w1.heap.size (idv (List.replicate 32 0)) := VB.box (xs := (idv (List.replicate 32 0)).toArray) (T := 24) (by (repeat (first | exact new_plain wnA | with_reducible refine old_alloc ?_ | with_reducible refine old_drew ?_ | with_reducible refine old_set ?_ wnA | with_reducible refine old_ab (by assumption) ?_)))
  go_wp2_with (refine list_stV (o := ⟨none, _, _, _, _, _⟩) (us := idv D) _ infoId rfl _ _ rfl rfl rfl Z0 ((idv_len HOL.out).symm) (idv_len HOL.out) (idv_one _) ?_
               intro w9 h9
               have q0 := h9.v.at 0 (id_at h0)
               have q1 := h9.v.at 1 (id_at h1)
               have q2 := h9.v.at 2 (id_at h2)
               have q3 := h9.v.at 3 (id_at h3)
               have q4 := h9.v.at 31 (id_at h4))
  go_ret
  exact ⟨rfl, Ab.trans (h9.ab w (Ab.alloc hab1 _) hab1.size) abA⟩
end Go.Proofs.YtmechdddhfcckaaDoor
