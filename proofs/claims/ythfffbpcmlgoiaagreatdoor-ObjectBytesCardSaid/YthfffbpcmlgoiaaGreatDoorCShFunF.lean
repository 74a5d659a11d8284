/- Blocks filled out of parts, walked. Own work. -/
import Derived.Test.YthfffbpcmlgoiaaGreatDoorCKD
import Derived.Laws.CopyOwn
set_option linter.unusedVariables false
set_option linter.unusedSimpArgs false
namespace Go.Proofs.YthfffbpcmlgoiaaGreatDoor
open Go.RowKit

theorem w8_len (h : Sha.W8) : (w8 h).length = 8 := rfl
theorem w8_len2 (h k : Sha.W8) : (w8 h).length = (w8 k).length := (w8_len h).trans (w8_len k).symm
theorem w8_one (h : Sha.W8) : (w8 h).all (·.oneCell') = true := rfl
/-- s[:h] of bytes. -/
theorem run_head (h : Nat) (kd : IntKind) (a : Option Addr) (len cap : Nat) (w : World) (h2 : h ≤ cap) :
    (Instr.slice 24 (.slice a len cap) none (some (.int kd (h : Int))) none).run Tryz.prog w = .ok (.slice a h cap) w := by
  have hu : Tryz.prog.underlying 24 = some (.slice (Tryz.prog.elem 24)) := by kernel_rfl
  obtain ⟨i0, hi0, _, hz1, _⟩ := info_parts infoU8
  have he : Tryz.prog.elem 24 = 5 := by kernel_rfl
  rw [run_slice_h w 24 a len cap hu kd (h : Int) (by omega) (by omega), he]
  simp only [sizeOf, typeInfo, sliced, Int.toNat_natCast, Sem.run_bind, Sem.run_pure]
  simp [hi0, hz1]
  try (cases a <;> simp [Addr.add])
/-- A block of bytes. -/
def Buf (w : World) (g : Nat) (L : List UInt8) : Prop := w.heap[g]? = some (.cells (L.map cb).toArray 5 (0, 0))
theorem Buf.ab {w w' : World} {g : Nat} {L : List UInt8} (h : Buf w g L) (k : Ab w w') : Buf w' g L := old_ab k h
theorem Buf.rb {w : World} {g : Nat} {L : List UInt8} (h : Buf w g L) : RB w 0 (some ⟨g, 0, none⟩) L := RB.blk h (Nat.zero_le _)
theorem make64 (w : World) : (Instr.makeSlice 24 (.int .i64 64) (.int .i64 64)).run Tryz.prog w = .ok (.slice (some ⟨w.heap.size, 0, none⟩) 64 64) (w.alloc (.cells ((List.replicate 64 (0 : UInt8)).map cb).toArray 5)) := by
  have hi8 : (Tryz.prog.info? 5).map (fun i => (i.zero, i.size, i.bytes)) = some (some (.int .u8 0), 1, 1) := by kernel_rfl
  obtain ⟨i0, hi, hz, hs, hb⟩ := info_parts hi8
  have := run_makeSlice (P := Tryz.prog) w 24 5 i0 _ Tryz.underlying24 hi hz .i64 .i64 64 64 (by omega) (Int.le_refl _) (by rw [hs]; simp) (by rw [hb]; omega) (by omega)
  rw [hs] at this
  have e : madeCells (Value.int .u8 0).cells ((64 : Int).toNat * 1) = ((List.replicate 64 (0 : UInt8)).map cb).toArray := by
    apply Array.toList_inj.1
    exact (toList_madeCells_one _ _).trans (by simp [cb])
  rw [e] at this
  exact this
/-- What a copy of n bytes to the place f leaves. -/
def put (L p : List UInt8) (f : Nat) : List UInt8 := L.take f ++ p.take (64 - f) ++ L.drop (f + (p.take (64 - f)).length)
theorem put_length (L p : List UInt8) (f : Nat) (hL : L.length = 64) (hf : f < 64) : (put L p f).length = 64 := by
  unfold put; simp; omega
theorem put_splice (L p : List UInt8) (f : Nat) : splice (L.map cb) f ((p.take (64 - f)).map cb) = (put L p f).map cb := by
  unfold splice put
  simp [List.map_take, List.map_drop]
theorem put_take (L p : List UInt8) (f : Nat) (hL : L.length = 64) (hf : f < 64) : (put L p f).take (f + (p.take (64 - f)).length) = L.take f ++ p.take (64 - f) := by
  unfold put
  rw [List.take_left' (by simp; omega)]
/-- The variables of takeAll behind the bytes c. -/
structure TA (w : World) (h : Sha.W8) (c L : List UInt8) (w' : World) : Prop where
  ab : Ab w w'
  x : VB w' w.heap.size (w8 (Sha.after h c))
  z : VB w' (w.heap.size + 1) (List.replicate 8 (.int .u32 0))
  b : Buf w' (w.heap.size + 1 + 1) L
  l : Hid (L.length = 64)
  t : Hid (L.take (c.length % 64) = Sha.tail c)
theorem take_any' (h : Sha.W8) (g : Nat) (l : List UInt8) (w : World) (hG : Glob w) (hb : Buf w g l) (h4 : l.length = 64) :
    Calls Tryz.prog 123 #[.agg (w8 h).toArray, .slice (some ⟨g, 0, none⟩) 64 64] w fun e w' => e = .returned (.agg (w8 (Sha.taken h l)).toArray) ∧ Ab w w' := by
  have := take_any h (some ⟨g, 0, none⟩) l 64 w hG hb.rb (by omega) h4
  rw [h4] at this
  exact this
theorem TA.more {w w1 w2 : World} {h : Sha.W8} {c L p : List UInt8} (q : TA w h c L w1) (hp : c.length % 64 + p.length < 64) (k : Below w.heap.size w w2) (hx : VB w2 w.heap.size (w8 (Sha.after h c)))
    (hz : VB w2 (w.heap.size + 1) (List.replicate 8 (.int .u32 0))) (hb : Buf w2 (w.heap.size + 1 + 1) (put L p (c.length % 64))) : TA w h (c ++ p) (put L p (c.length % 64)) w2 := by
  obtain ⟨e1, e2⟩ := Sha.step_fill h c p hp
  have ep : p.take (64 - c.length % 64) = p := List.take_of_length_le (by omega)
  refine ⟨k, by rw [e1]; exact hx, hz, hb, put_length _ _ _ q.l.out (by omega), ?_⟩
  have h1 := put_take L p (c.length % 64) q.l.out (by omega)
  rw [ep, q.t.out] at h1
  have h2 : (c ++ p).length % 64 = c.length % 64 + p.length := by rw [List.length_append]; omega
  unfold Hid
  rw [h2, h1, e2]
theorem TA.full {w w1 : World} {h : Sha.W8} {c L p : List UInt8} (q : TA w h c L w1) (hp : 64 ≤ c.length % 64 + p.length) :
    Sha.taken (Sha.after h c) (put L p (c.length % 64)) = Sha.after h (c ++ p.take (64 - c.length % 64)) ∧ Sha.tail (c ++ p.take (64 - c.length % 64)) = [] ∧ (c ++ p.take (64 - c.length % 64)).length % 64 = 0 := by
  have hl : (p.take (64 - c.length % 64)).length = 64 - c.length % 64 := by simp; omega
  have hL := q.l.out
  obtain ⟨e1, e2⟩ := Sha.step_full h c (p.take (64 - c.length % 64)) (by omega)
  have h1 : put L p (c.length % 64) = Sha.tail c ++ p.take (64 - c.length % 64) := by
    unfold put
    rw [q.t.out, List.drop_of_length_le (by omega), List.append_nil]
  refine ⟨by rw [h1, e1], e2, ?_⟩
  rw [List.length_append, hl]; omega
theorem TA.more' {w w1 w2 : World} {h : Sha.W8} {c L p : List UInt8} {f : Nat} (hfe : Hid (c.length % 64 = f)) (q : TA w h c L w1) (hp : f + p.length < 64) (k : Ab w w2) (hx : VB w2 w.heap.size (w8 (Sha.after h c)))
    (hz : VB w2 (w.heap.size + 1) (List.replicate 8 (.int .u32 0))) (hb : Buf w2 (w.heap.size + 1 + 1) (put L p f)) : TA w h (c ++ p) (put L p f) w2 := by
  obtain rfl := hfe.out
  exact q.more hp k hx hz hb
theorem TA.full' {w w1 : World} {h : Sha.W8} {c L p : List UInt8} {f : Nat} (hfe : Hid (c.length % 64 = f)) (q : TA w h c L w1) (hp : 64 ≤ f + p.length) :
    Sha.taken (Sha.after h c) (put L p f) = Sha.after h (c ++ p.take (64 - f)) ∧ Sha.tail (c ++ p.take (64 - f)) = [] ∧ (c ++ p.take (64 - f)).length % 64 = 0 := by
  obtain rfl := hfe.out
  exact q.full hp
theorem VB.below {w w' : World} {b B : Nat} {vs : List Value} (h : VB w b vs) (k : Below B w w') (hb : b < B) : VB w' b vs :=
  ⟨Nat.lt_of_lt_of_le h.lt k.size, fun i v hv => (k.cell (p := ⟨b, i, none⟩) hb).trans (h.q i v hv), fun i => (k.frozen (p := ⟨b, i, none⟩) hb).trans (h.g i)⟩
def lenOf : Value → Nat
  | .slice _ n _ => n
  | _ => 0
set_option maxRecDepth 100000 in
set_option maxHeartbeats 1000000 in
theorem takeAll_any (h : Sha.W8) (g : Nat) (A B : Option Addr) (a b : List UInt8) (ca cbb : Nat) (w : World) (hG : Glob w) (h0 : w.cell? ⟨g, 0, none⟩ = some (.slice A a.length ca)) (h1 : w.cell? ⟨g, 1, none⟩ = some (.slice B b.length cbb))
    (ha : RB w 0 A a) (hb : RB w 0 B b) (hca : a.length ≤ ca) (hcb : b.length ≤ cbb) (la : a.length ≤ 9223372036854775807) (lb : b.length ≤ 9223372036854775807) :
    Calls Tryz.prog 102 #[.agg (w8 h).toArray, .slice (some ⟨g, 0, none⟩) 2 2] w fun e w' => ∃ G, e = .returned (.tuple #[.agg (w8 (Sha.after h (a ++ b))).toArray, .slice (some ⟨G, 0, none⟩) (Sha.tail (a ++ b)).length 64]) ∧ RB w' w.heap.size (some ⟨G, 0, none⟩) (Sha.tail (a ++ b)) ∧ Ab w w' := by
  have hgl := cell_lt h0
  have M64 := make64
  have P2 : ∀ j : Nat, j < 2 → ∃ (P : Option Addr) (p : List UInt8) (cp : Nat), w.cell? ⟨g, j, none⟩ = some (.slice P p.length cp) ∧ RB w 0 P p ∧ p.length ≤ cp ∧ p.length ≤ 9223372036854775807 ∧ Hid (([a, b].take (j + 1)).flatten = ([a, b].take j).flatten ++ p) := by
    intro j hj
    have : j = 0 ∨ j = 1 := by omega
    rcases this with rfl | rfl
    · exact ⟨A, a, ca, h0, ha, hca, la, by unfold Hid; simp⟩
    · exact ⟨B, b, cbb, h1, hb, hcb, lb, by unfold Hid; simp⟩
  clear h0 h1 ha hb
  replace P2 := Lib.hid P2
  have HD := Lib.hid (show ([a, b].take 2).flatten = a ++ b by simp)
  have H0 := Lib.hid (show ([a, b].take 0).flatten = [] by simp)
  generalize [a, b] = ps at *
  go_enter Tryz.func102, Tryz.ntmps102
  go_wp2
  go_loopw [7, 14] (fun f i w' => ∃ (j : Nat) (c L : List UInt8), j ≤ 2 ∧ i = .int .i64 j ∧ f = .int .i64 ((c.length % 64 : Nat) : Int) ∧ Hid (c = (ps.take j).flatten) ∧ TA w h c L w') (fun _ i _ => 2 - (intOf i).toNat)
  case atStart =>
    refine ⟨0, [], List.replicate 64 0, by omega, rfl, rfl, Lib.hid H0.out.symm, abA, ?_, ?_, ?_, Lib.hid (by simp), Lib.hid rfl⟩
    · exact VB.box (xs := (w8 h).toArray) (T := 101) (by (repeat (first | exact new_plain wnA | with_reducible refine old_alloc ?_ | with_reducible refine old_drew ?_ | with_reducible refine old_set ?_ wnA | with_reducible refine old_ab (by assumption) ?_)))
    · exact VB.box (xs := (List.replicate 8 (Value.int .u32 0)).toArray) (T := 101) (by (repeat (first | exact new_plain wnA | with_reducible refine old_alloc ?_ | with_reducible refine old_drew ?_ | with_reducible refine old_set ?_ wnA | with_reducible refine old_ab (by assumption) ?_)))
    · unfold Buf; (repeat (first | exact new_plain wnA | with_reducible refine old_alloc ?_ | with_reducible refine old_drew ?_ | with_reducible refine old_set ?_ wnA | with_reducible refine old_ab (by assumption) ?_))
  case round =>
    obtain ⟨j, c, L, hj, rfl, rfl, hc, hT⟩ := hrel
    rename World => w1
    by_cases hlt : j < 2
    · obtain ⟨P, p, cp, hcell, hpb, hcp, lp, hps⟩ := P2.out j hlt
      replace hcell := hT.ab.at hcell
      have hJ : (j : Int) < 2 := by omega
      have HD2 := Lib.hid (show c ++ p = (ps.take (j + 1)).flatten by rw [hps.out, hc.out])
      go_wp2
      go_loopw [7, 9] (fun f s w' => ∃ (c L p : List UInt8) (P : Option Addr) (cp : Nat), f = .int .i64 ((c.length % 64 : Nat) : Int) ∧ s = .slice P p.length cp ∧ RB w 0 P p ∧ p.length ≤ cp ∧ p.length ≤ 9223372036854775807 ∧ Hid (c ++ p = (ps.take (j + 1)).flatten) ∧ TA w h c L w') (fun _ s _ => lenOf s)
      case atStart => exact ⟨c, L, p, P, cp, rfl, rfl, hpb, hcp, lp, HD2, hT⟩
      case round =>
        clear HD2 hps hpb hcp lp hc hT hcell
        obtain ⟨c, L, p, P, cp, rfl, rfl, hpb, hcp, lp, hD, hT⟩ := hrel
        rename World => w2
        by_cases hp : p.length = 0
        · have HP := Lib.hid hp
          have hp2 : (p.length : Int) = 0 := by omega
          rw [hp]
          clear hp hp2
          go_wp2
          go_roundw
          case rel => exact ⟨j + 1, c, L, by omega, by go_num, rfl, Lib.hid (by rw [← hD.out, List.eq_nil_of_length_eq_zero HP.out, List.append_nil]), hT⟩
          case measure => simp [intOf]; omega
        · have HF : Hid (c.length % 64 = c.length % 64) := rfl
          have hf : c.length % 64 < 64 := Nat.mod_lt _ (by omega)
          have hLl := hT.l
          generalize hfe : c.length % 64 = f at *
          have HFE := Lib.hid hfe
          clear hfe
          have hp0 : 0 < p.length := by omega
          have hp1 : (0 : Int) < (p.length : Int) := by omega
          have M1 : ∀ w0, (Instr.slice 24 (.slice (some ⟨w.heap.size + 1 + 1, 0, none⟩) 64 64) (some (.int .i64 (f : Int))) none none).run Tryz.prog w0 = .ok (.slice (some ⟨w.heap.size + 1 + 1, f, none⟩) (64 - f) (64 - f)) w0 := fun w0 => by
            have := run_cut f .i64 (some ⟨w.heap.size + 1 + 1, 0, none⟩) 64 64 w0 (by omega)
            unfold cutA at this
            rw [if_neg (by omega)] at this
            have e : (⟨w.heap.size + 1 + 1, 0, none⟩ : Addr).add f = ⟨w.heap.size + 1 + 1, f, none⟩ := by unfold Addr.add; split <;> simp_all
            rw [Option.map_some, e] at this
            exact this
          obtain ⟨cs, hcs⟩ : ∃ cs, cs = (p.take (64 - f)).map cb := ⟨_, rfl⟩
          have hcl : cs.length = (p.take (64 - f)).length := by rw [hcs, List.length_map]
          have hcm : cs.length = Nat.min p.length (64 - f) := by rw [hcl, List.length_take]; exact Nat.min_comm _ _
          have hc1 : ∀ v ∈ cs, v.oneCell' = true := by
            intro v hv; rw [hcs] at hv; obtain ⟨x, _, rfl⟩ := List.mem_map.1 hv; rfl
          have hpos : 0 < cs.length → (some ⟨w.heap.size + 1 + 1, f, none⟩ : Option Addr) = some ⟨w.heap.size + 1 + 1, f, none⟩ ∧ ∃ ad, P = some ad ∧ ∀ j v, cs[j]? = some v → w2.cell? (ad.add j) = some v := by
            intro _
            obtain ⟨ad, hA, _, hce⟩ := (hpb.ab hT.ab) hp0
            refine ⟨rfl, ad, hA, fun j v hv => ?_⟩
            rw [hcs, List.getElem?_map] at hv
            by_cases hj : j < p.length
            · have := hce j hj
              rw [List.getElem?_take] at hv
              split at hv
              · rw [List.getElem?_eq_getElem hj] at hv
                exact (Option.some.inj hv) ▸ this
              · cases hv
            · rw [List.getElem?_eq_none (by simp; omega)] at hv; cases hv
          have hfit : f + cs.length ≤ (L.map cb).length := by
            have : cs.length ≤ 64 - f := by rw [hcl, List.length_take]; exact Nat.min_le_left _ _
            rw [List.length_map, hLl.out]; omega
          have hbuf := hT.b
          have hsp := put_splice L p f
          rw [← hcs] at hsp
          have HSP := Lib.hid hsp
          have HCM := Lib.hid hcm
          have HCL := Lib.hid hcl
          have HCS := Lib.hid hcs
          clear hsp hcm hcl hcs
          go_wp2_with (refine wpList_copy_splice rfl (.tmp 23) (.tmp 24) 24 24 rfl 5 Tryz.underlying24 (by kernel_rfl) (some ⟨w.heap.size + 1 + 1, f, none⟩) P (64 - f) (64 - f) p.length cp rfl rfl (w.heap.size + 1 + 1) f (L.map cb) 5 hbuf cs HCM.out hpos hfit hc1 (w.heap.size + 1 + 1) w2 (Below.refl _ _) (Nat.le_refl _) ?_
                       intro w3 hb3 hB3)
          have hbuf3 : Buf w3 (w.heap.size + 1 + 1) (put L p f) := by unfold Buf; rw [← HSP.out]; exact hb3.out
          have hx3 := hT.x.below hB3 (by omega)
          have hz3 := hT.z.below hB3 (by omega)
          have hab3 : Ab w w3 := Below.trans hT.ab.out (hB3.mono (by omega))
          have hn1 : cs.length ≤ 64 - f := by rw [HCL.out, List.length_take]; exact Nat.min_le_left _ _
          have hn2 : cs.length ≤ p.length := by rw [HCL.out, List.length_take]; exact Nat.min_le_right _ _
          have hn3 : cs.length = 64 - f ∨ cs.length = p.length := by rw [HCL.out, List.length_take]; omega
          clear hpos hfit hc1 hbuf hb3 hB3 HSP HCM HCL HCS M1
          generalize cs.length = n at *
          have M2 : ∀ w0, (Instr.slice 24 (.slice P p.length cp) (some (.int .i64 (n : Int))) none none).run Tryz.prog w0 = .ok (.slice (cutA P cp n) (p.length - n) (cp - n)) w0 := fun w0 => run_cut n .i64 P p.length cp w0 hn2
          have hj1 : IntKind.i64.wrap ((f : Int) + (n : Int)) = (f : Int) + (n : Int) := IntWalk.i64_in _ (by omega)
          have hcut : RB w 0 (cutA P cp n) (p.drop n) := hpb.cut n cp hcp
          go_quiet (fail)
          by_cases hq : f + n = 64
          · have hq1 : ((f : Int) + (n : Int) == 64) = true := by simp; omega
            obtain ⟨F1, F2, F3⟩ := TA.full' (p := p) HFE hT (by omega)
            have hnn : 64 - f = n := by omega
            have HNN := Lib.hid hnn
            have HPL := Lib.hid (put_length L p f hLl.out hf)
            have G1 := Lib.hid F1; have G2 := Lib.hid F2; have G3 := Lib.hid F3
            clear F1 F2 F3 hq hnn hT
            have l8 : (w8 (Sha.after h c)).length = 8 := rfl
            generalize Sha.after h c = H at *
            generalize put L p f = L2 at *
            go_wp2_with (first
              | (refine list_ldV _ info8 Tryz.underlying101 rfl rfl _ rfl rfl (VB.ab hx3 abA) l8 ?_)
              | (refine list_stV _ info8 rfl _ _ rfl rfl rfl (VB.ab hx3 abA) (w8_len2 _ _) (w8_len _) (w8_one _) ?_
                 intro w9 h9)
              | (go_at_call 123
                 refine (take_any' H (w.heap.size + 1 + 1) L2 _ (hG.ab abA) (Buf.ab hbuf3 abA) HPL.out).mono ?_
                 rintro e w4 ⟨rfl, hb4⟩))
            go_roundw
            case rel =>
              refine ⟨c ++ p.take (64 - f), L2, p.drop n, cutA P cp n, cp - n, by rw [G3.out]; rfl, by rw [List.length_drop], hcut, by rw [List.length_drop]; omega, by rw [List.length_drop]; omega, Lib.hid ?_, h9.ab _ abA (Nat.le_refl _), by rw [← G1.out]; exact h9.v, h9.vb (VB.ab hz3 abA) (by omega), ?_, HPL, Lib.hid (by rw [G3.out, G2.out]; rfl)⟩
              · rw [HNN.out, List.append_assoc, List.take_append_drop]; exact hD.out
              · unfold Buf
                rw [h9.blk _ (by omega)]
                exact Buf.ab hbuf3 abA
            case measure => simp [lenOf]; omega
          · have hq1 : ((f : Int) + (n : Int) == 64) = false := by simp; omega
            have hpn : n = p.length := by omega
            have HPN := Lib.hid hpn
            clear hpn
            go_wp2
            go_roundw
            case rel =>
              refine ⟨c ++ p, put L p f, p.drop n, cutA P cp n, cp - n, ?_, by rw [List.length_drop], hcut, by rw [List.length_drop]; omega, by rw [List.length_drop]; omega, Lib.hid ?_, TA.more' HFE hT (by rw [← HPN.out]; omega) abA (hx3.ab abA) (hz3.ab abA) (hbuf3.ab abA)⟩
              · have : (c ++ p).length % 64 = f + n := by rw [List.length_append, ← HPN.out]; have := HFE.out; omega
                rw [this]; go_num
              · rw [List.drop_of_length_le (Nat.le_of_eq HPN.out.symm), List.append_nil]; exact hD.out
            case measure => simp [lenOf]; omega
    · obtain rfl : j = 2 := by omega
      have hce := Lib.hid (hc.out.trans HD.out)
      have hf : c.length % 64 < 64 := Nat.mod_lt _ (by omega)
      have HTL := Lib.hid (Sha.tail_length c)
      have HT := hT.t
      have hbuf := hT.b
      have hx := hT.x
      have hz := hT.z
      have hab := hT.ab
      have hr1 : (results Tryz.f102) = results Tryz.f102 := rfl
      clear hT hc hr1
      generalize c.length % 64 = f at *
      have hH : Hid (Sha.after h c = Sha.after h c) := rfl
      generalize hHe : Sha.after h c = H at *
      have HHE := Lib.hid hHe
      clear hHe hH
      have M3 : ∀ w0, (Instr.slice 24 (.slice (some ⟨w.heap.size + 1 + 1, 0, none⟩) 64 64) none (some (.int .i64 (f : Int))) none).run Tryz.prog w0 = .ok (.slice (some ⟨w.heap.size + 1 + 1, 0, none⟩) f 64) w0 := fun w0 => run_head f .i64 _ 64 64 w0 (by omega)
      go_upto_region 11 with fail
      refine wp_region_held_drew (by kernel_rfl) (S := fun w' => VB w' w.heap.size (w8 H)) ?_ (fun hHeld => ?_)
      · exact VB.ab hx abA
      (refine rtL 0 (w8 H) 0 (fun w hSw => VB.range hSw) Tryz.underlying101 ?_
       (try simp only [Act.put, stA, st0, st1]))
      (refine rtA 1 ?_ ?_
       (try simp only [Act.put, stA, st0, st1]))
      (refine rtA 2 ?_ ?_
       (try simp only [Act.put, stA, st0, st1]))
      (refine rtA 3 ?_ ?_
       (try simp only [Act.put, stA, st0, st1]))
      refine r1A 4 (fun K hK => ?_)
      (try simp only [Act.put, List.getElem_toArray, List.getElem_cons_succ, List.getElem_cons_zero, stA, st0, st1])
      refine if_go (by rfl) ?_
      have hz2 : VB w1.drew (w.heap.size + 1) (List.replicate 8 (.int .u32 0)) := VB.ab hz abA
      refine wp_stV (us := w8 H) _ info8 _ _ rfl rfl rfl hz2 (w8_len H).symm (w8_len H) (w8_one H) ?_
      intro w9 h9
      (refine hK.out _ _ ?_ (fun hHeld => ?_)
       · (try dsimp only); exact h9.vb (VB.ab hx abA) (by omega)
       clear hK K
       (try simp only [Act.put, stA, st0, st1]))
      refine r1A 5 (fun K hK => ?_)
      (go_simp
       (refine hK.out _ _ ?_ (fun hHeld => ?_)
        · (try dsimp only); exact h9.vb (VB.ab hx abA) (by omega)
        clear hK K
        (try simp only [Act.put, stA, st0, st1])))
      refine wpAnyH_done (by kernel_rfl) ?_ _
      go_wp2
      have hb9 : Buf w9 (w.heap.size + 1 + 1) L := by
        unfold Buf
        rw [h9.blk _ (by omega)]
        exact Buf.ab hbuf abA
      have hrb := (RB.blk hb9 (show w.heap.size ≤ w.heap.size + 1 + 1 by omega)).take f
      rw [HT.out] at hrb
      refine bodyPost_ret (res_V2 _ info8 Tryz.underlying101 rfl Tryz.results102 _ rfl (h9.v.ab abA) (w8_len H)) rfl ?_
      refine ⟨w.heap.size + 1 + 1, by rw [← hce.out, HHE.out, HTL.out]; rfl, ?_, ?_⟩
      · rw [← hce.out]; exact RB.ab hrb abA
      · exact Ab.trans (h9.ab _ abA (by omega)) abA
end Go.Proofs.YthfffbpcmlgoiaaGreatDoor
