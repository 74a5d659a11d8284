/- The reference's Decode of deltas, walked. Own work. -/
import Derived.Test.YtbhhjbmpcpjcnaaDlDecB
import Derived.Test.YtbhhjbmpcpjcnaaCvRefC
set_option linter.unusedVariables false
set_option linter.unusedSimpArgs false
namespace Go.Proofs.Ytbhhjbmpcpjcnaa
open Go.RowKit
open Codec (V)

theorem list_ldGP {ops : Array Oper} {rest : List Oper} {o : Oper} {a : Act} {w : World} {b : Nat} {vs : List Value} {Q : Exit → Act → World → Prop} (T : TypeId) {n : Nat} {d : TypeDesc} (hT : (Try.prog.info? T).map (·.size) = some n) (hu : Try.prog.underlying T = some d) (hd : d.isRow = true) (hw : Region.wanted o (yielded ops a.tmps) = true) (x : Operand) (ho : o.op = .load T x) (hx : a.eval x = .pointer (some ⟨b, 0, none⟩)) (hv : VB w b vs) (hl : vs.length = n)
    (h : wpList Try.prog ops Q rest (a.put o.dst (.agg vs.toArray)) w) : wpList Try.prog ops Q (o :: rest) a w :=
  list_ldW T 0 vs hv.range hT hu hd hw x ho hx hl h
namespace Dl
theorem lc_kind {x : V} (h : x.kind ≠ 3) : lc x = false := by
  unfold lc; rw [beq_eq_false_iff_ne.2 h]; rfl
theorem lc_len {x : V} (h : x.l.length ≠ 2) : lc x = false := by
  unfold lc; rw [decide_eq_false h]; simp
theorem lc_k0 {x : V} (h : (x.l.getD 0 V.zero).kind ≠ 1) : lc x = false := by
  unfold lc; rw [beq_eq_false_iff_ne.2 h]; simp
theorem lc_k1 {x : V} (h : (x.l.getD 1 V.zero).kind ≠ 1) : lc x = false := by
  unfold lc; rw [beq_eq_false_iff_ne.2 h]; simp
theorem lc_n0 {x : V} (h : ¬ (x.l.getD 0 V.zero).num ≤ 2000) : lc x = false := by
  unfold lc; rw [decide_eq_false h]; simp
theorem lc_n1 {x : V} (h : ¬ (x.l.getD 1 V.zero).num ≤ 2000) : lc x = false := by
  unfold lc; rw [decide_eq_false h]; simp
theorem lc_t {x : V} (h : x.kind = 3) (h2 : x.l.length = 2) (a : (x.l.getD 0 V.zero).kind = 1) (b : (x.l.getD 1 V.zero).kind = 1) (c : (x.l.getD 0 V.zero).num ≤ 2000) (d : (x.l.getD 1 V.zero).num ≤ 2000) : lc x = true := by
  unfold lc; rw [beq_iff_eq.2 h, beq_iff_eq.2 a, beq_iff_eq.2 b, decide_eq_true h2, decide_eq_true c, decide_eq_true d]; rfl
theorem okp_f {x : V} (h : lc x = false) (k : x.kind ≠ 2) : okp x = false := by
  unfold okp; rw [h, beq_eq_false_iff_ne.2 k]; rfl
theorem rp_b {x : V} (h : lc x = false) : rp x = ⟨0, 0, x.b⟩ := by unfold rp; rw [h]; rfl
theorem okp_b {x : V} (h : lc x = false) (k : x.kind = 2) : okp x = inserts ⟨0, 0, x.b⟩ := by
  unfold okp; rw [h, rp_b h, beq_iff_eq.2 k]; rfl
theorem rp_c {x : V} (h : lc x = true) : rp x = ⟨(x.l.getD 0 V.zero).num, (x.l.getD 1 V.zero).num, []⟩ := by unfold rp; rw [h]; rfl
theorem okp_c {x : V} (h : lc x = true) : okp x = copies ⟨(x.l.getD 0 V.zero).num, (x.l.getD 1 V.zero).num, []⟩ := by
  unfold okp; rw [h, rp_c h]; rfl
end Dl
theorem mem_flat {α : Type} (f : α → List UInt8) {l : List α} {x : α} (h : x ∈ l) : (f x).length ≤ ((l.map f).flatten).length := by
  induction l with
  | nil => cases h
  | cons y t ih =>
    simp only [List.map_cons, List.flatten_cons, List.length_append]
    rcases List.mem_cons.1 h with rfl | h
    · omega
    · have := ih h; omega
theorem dec_elem {b : List UInt8} (hb : b.length < 9223372036854775808) (h : (Codec.decode b).2 = 0) : ∀ x ∈ (Codec.decode b).1.l, x.b.length ≤ 3000 := by
  obtain ⟨hc, hw, hbe⟩ := Dl.dec_ok hb h
  generalize (Codec.decode b).1 = v at *
  unfold Codec.check at hc
  split at hc
  · cases hc
  · rename_i h1
    split at hc
    · cases hc
    · rename_i h2
      have hk : Codec.kinds 6 v = true := by simpa using h1
      rcases Codec.kinds_cases hk with ⟨n, rfl⟩ | ⟨b, rfl⟩ | ⟨l, rfl, hx⟩
      · intro x hx; simp [V.l] at hx
      · intro x hx; simp [V.l] at hx
      · intro x hxm
        have hxm' : x ∈ l := hxm
        have e : Codec.enc 6 (V.mk 3 0 [] l) = 3 :: (Codec.code l.length ++ (l.map (Codec.enc 5)).flatten) := rfl
        have h3 := mem_flat (Codec.enc 5) hxm'
        rw [e, List.length_cons, List.length_append] at h2
        rcases Codec.kinds_cases (hx x hxm') with ⟨n, rfl⟩ | ⟨b, rfl⟩ | ⟨l, rfl, _⟩
        · simp [V.b]
        · have e2 : Codec.enc 5 (V.mk 2 0 b []) = 2 :: (Codec.code b.length ++ b) := rfl
          rw [e2, List.length_cons, List.length_append] at h3
          show b.length ≤ 3000
          omega
        · simp [V.b]
set_option maxRecDepth 100000 in
set_option maxHeartbeats 16000000 in
theorem rddecode_any (A : Option Addr) (b : List UInt8) (c : Nat) (w : World) (hb : RB w 0 A b) (hc : b.length ≤ c) (hl : b.length ≤ 1000000) :
    Calls Try.prog 25 #[.slice A b.length c] w (RetDp w b) := by
  have TD := fun w' (k : Ab w w') => rdecode_any A b c w' (hb.ab k) hc hl
  have HD : Hid (Dl.decode b = if (Codec.decode b).2 ≠ 0 ∨ (Codec.decode b).1.kind ≠ 3 ∨ 200 < (Codec.decode b).1.l.length then ([], 12) else if (Codec.decode b).1.l.all Dl.okp then ((Codec.decode b).1.l.map Dl.rp, 0) else ([], 12)) := Lib.hid (Dl.rdecode_eq (by omega)).symm
  have HBL := Lib.hid (fun h => dec_elem (b := b) (by omega) h)
  unfold RetDp
  generalize Dl.decode b = db at *
  clear hb
  go_enter Try.func25, Try.ntmps25
  go_wp2_with fail
  refine (TD _ abA).mono ?_
  rintro e w1 ⟨⟨xk, xn, xA, xb, xc, xL, xl, xd⟩, er, he, hd, hv, hb1⟩
  have he' : e = .returned (.tuple #[.agg #[.int .u8 (xk : Int), .int .i64 xn, .slice xA xb.length xc, .slice xL xl.length xd], .int .i64 er]) := he
  subst he'
  clear he TD
  have b1 : Ab w w1 := Ab.trans (by exact abA) hb1
  have Y1 : VB (w1.alloc (.cells VM.zero.cells.toArray 58)) w1.heap.size VM.zero.cells := VB.box (xs := VM.zero.cells.toArray) (T := 58) (by (repeat (first | exact new_plain wnA | with_reducible refine old_alloc ?_ | with_reducible refine old_drew ?_ | with_reducible refine old_set ?_ wnA | with_reducible refine old_ab (by assumption) ?_)))
  have z1 := b1.size
  have hv1 := VL.mono (S' := fun g => w.heap.size ≤ g ∧ g < w1.heap.size) (fun g hg => ⟨by simpa using hg.1, hg.2⟩) hv.lt
  rw [hd.out] at HD HBL
  clear hv hb1 hd
  go_upto_region 2 with (refine list_stV (o := ⟨none, _, _, _, _, _⟩) (us := [.int .u8 (xk : Int), .int .i64 xn, .slice xA xb.length xc, .slice xL xl.length xd]) _ infoVT rfl _ _ rfl rfl rfl Y1 rfl rfl rfl ?_; intro w4 h4)
  have hb4 : Ab w1 w4 := h4.ab w1 abA (Nat.le_refl _)
  have b4 := b1.trans hb4
  have E4 := h4.v
  have z4 : w1.heap.size < w4.heap.size := by have := h4.sz; simp at this; omega
  have hv4 := VL.mono (S' := fun g => w.heap.size ≤ g ∧ g < w4.heap.size) (fun g hg => ⟨hg.1, by omega⟩) (hv1.ab hb4)
  clear hb4 h4 Y1 b1 hv1
  generalize w1.heap.size = xb_ at *
  have hkr := hv4.1.1
  simp only at hkr
  have q0 := E4.at 0 (show ([.int .u8 (xk : Int), .int .i64 xn, .slice xA xb.length xc, .slice xL xl.length xd] : List Value)[0]? = some (.int .u8 (xk : Int)) from rfl)
  have q3 := E4.at 3 (show ([.int .u8 (xk : Int), .int .i64 xn, .slice xA xb.length xc, .slice xL xl.length xd] : List Value)[3]? = some (.slice xL xl.length xd) from rfl)
  by_cases h0 : er = 0
  · subst h0
    by_cases h3 : xk = 3
    · subst h3
      by_cases h200 : xl.length ≤ 200
      · have q0' : w4.cell? ⟨xb_, 0, none⟩ = some (.int .u8 3) := by simpa using q0
        have k200 : ¬ (200 : Int) < (xl.length : Int) := by omega
        have HN : Hid (∀ k (h : k < xl.length), Dl.okp xl[k] = false → db = ([], 12)) := Lib.hid fun k h hf => by
          rw [HD.out, if_neg (by simp [VM.v, V.kind, V.l]; omega), if_neg]
          intro ha
          have := List.all_eq_true.1 ha xl[k] (List.getElem_mem h)
          rw [hf] at this; cases this
        have HY : Hid ((∀ k (h : k < xl.length), Dl.okp xl[k] = true) → db = (xl.map Dl.rp, 0)) := Lib.hid fun h => by
          rw [HD.out, if_neg (by simp [VM.v, V.kind, V.l]; omega), if_pos]
          · rfl
          · exact List.all_eq_true.2 fun y hy => by
              obtain ⟨k, hk, rfl⟩ := List.getElem_of_mem hy
              exact h k hk
        have HBB : Hid (∀ k (h : k < xl.length), xl[k].b.length ≤ 3000) := Lib.hid fun k h => HBL.out rfl _ (List.getElem_mem h)
        clear HD q0 HBL
        go_wp2_with fail
        go_loopw [6, 7] (fun s6 i w' => ∃ (k : Nat) (B : Option Addr) (cb_ : Nat) (ps : List PM), k ≤ xl.length ∧ s6 = .slice B ps.length cb_ ∧ i = .int .i64 k ∧ ps.length = k ∧ Vq w w4.heap.size xb_ ⟨3, xn, xA, xb, xc, xL, xl, xd⟩ ((xl.take k).map Dl.rp) B cb_ ps w' ∧ Hid (∀ j (h : j < xl.length), j < k → Dl.okp xl[j] = true)) (fun _ i _ => xl.length - (intOf i).toNat)
        case atStart => exact ⟨0, none, 0, [], Nat.zero_le _, rfl, rfl, rfl, ⟨b4, Nat.le_refl _, Lib.hid rfl, OwnPp.nil, E4, hv4⟩, Lib.hid (fun j _ h => absurd h (by omega))⟩
        case round =>
          obtain ⟨k, B, cb_, ps, hk, rfl, rfl, hyl, hV, hok⟩ := hrel
          have hyl' : k = ps.length := hyl.symm
          subst hyl'
          clear hyl q0' q3
          rename World => w5
          have q5 := hV.e.at 3 (show (VM.cells ⟨3, xn, xA, xb, xc, xL, xl, xd⟩)[3]? = some (.slice xL xl.length xd) from rfl)
          by_cases hlt : ps.length < xl.length
          · have hT : (ps.length : Int) < xl.length := by omega
            obtain ⟨g, o, hL, hSg, y, hy, hR, hly⟩ := vl_elem hV.x hlt
            simp only at hL
            subst hL
            have HS : Hid ((xl.take (ps.length + 1)).map Dl.rp = (xl.take ps.length).map Dl.rp ++ [Dl.rp y.v]) := by
              unfold Hid
              rw [List.take_add_one, List.getElem?_eq_getElem hlt, hy]
              simp only [Option.toList_some, List.map_append, List.map_cons, List.map_nil]
            have HNk := Lib.hid (HN.out ps.length hlt)
            have HOK : Hid (Dl.okp y.v = true → ∀ j (h : j < xl.length), j < ps.length + 1 → Dl.okp xl[j] = true) := Lib.hid fun hk j h hj => by
              by_cases e : j = ps.length
              · subst e; have hy' : y.v = xl[ps.length] := hy; rw [← hy']; exact hk
              · exact hok.out j h (by omega)
            have Z6 : VB (w5.alloc (.cells VM.zero.cells.toArray 58)) w5.heap.size VM.zero.cells := VB.box (xs := VM.zero.cells.toArray) (T := 58) (by (repeat (first | exact new_plain wnA | with_reducible refine old_alloc ?_ | with_reducible refine old_drew ?_ | with_reducible refine old_set ?_ wnA | with_reducible refine old_ab (by assumption) ?_)))
            have hbl : y.b.length ≤ 3000 := by have h1 := HBB.out ps.length hlt; have hy2 : y.v = xl[ps.length] := hy; rw [← hy2] at h1; exact h1
            have hy' : xl[ps.length] = y.v := hy.symm
            rw [hy'] at HNk
            clear hy hy' HN hok
            go_upto_region 9 with (first
              | (refine list_ldW (o := ⟨some 39, _, _, _, _, _⟩) _ (o + ps.length * 4) y.cells hR infoVT Try.underlying58 rfl (by kernel_rfl) _ rfl rfl (VM.len y) ?_)
              | (refine list_stV (o := ⟨none, _, _, _, _, _⟩) (us := y.cells) _ infoVT rfl _ _ rfl rfl rfl Z6 rfl (VM.len y) (VM.one y) ?_
                 intro w6 h6))
            have hb6 : Ab w5 w6 := h6.ab w5 abA (Nat.le_refl _)
            have hV6 := hV.keep hb6
            have X6 := h6.v
            have hly6 := hly.ab hb6
            have z6 : w5.heap.size < w6.heap.size := by have := h6.sz; simp at this; omega
            have zB : ∀ g', B.map (·.block) = some g' → w4.heap.size ≤ g' ∧ g' < w5.heap.size := fun g' e => hV.o.at_ e
            have z5 := hV.zz
            clear hV hR hly Z6 h6 hb6 q5
            generalize w5.heap.size = tb at *
            obtain ⟨yk, yn, yA, yb, yc, yL, yl, yd⟩ := y
            have hyb := hly6.bytes.rb
            have hy1 := hly6.1
            simp only at hyb hy1 hbl
            have x2 := X6.at 2 (show (VM.cells ⟨yk, yn, yA, yb, yc, yL, yl, yd⟩)[2]? = some (.slice yA yb.length yc) from rfl)
            go_upto_region 10 with (first
              | (at_builtin
                 refine listLit rfl _ _ rfl rfl rfl (m := yb) rfl (by (repeat (first | exact new_plain wnA | with_reducible refine old_alloc ?_ | with_reducible refine old_drew ?_ | with_reducible refine old_set ?_ wnA | with_reducible refine old_ab (by assumption) ?_))) (RB.ab hyb (show Ab w6 _ from abA)) hy1.2.2.2.1 (by omega) ?_
                 intro A1 d1 w8 L1 e1 a8 o1
                 have b8 : Ab w6 w8 := Ab.trans (by exact abA) a8
                 have oA := o1 w6.heap.size (by simp) (by simp)
                 have Z9 : VB (w8.alloc (.cells PM.zero.cells.toArray 24)) w8.heap.size PM.zero.cells := VB.box (xs := PM.zero.cells.toArray) (T := 24) (by (repeat (first | exact new_plain wnA | with_reducible refine old_alloc ?_ | with_reducible refine old_drew ?_ | with_reducible refine old_set ?_ wnA | with_reducible refine old_ab (by assumption) ?_)))
                 clear o1 a8)
              | (refine list_stV (o := ⟨none, _, _, _, _, _⟩) (us := [.int .i64 0, .int .i64 0, .slice A1 L1.length d1]) _ infoP rfl _ _ rfl rfl rfl Z9 rfl rfl rfl ?_
                 intro w9 h9))
            have e1' : L1 = yb := e1.out
            subst e1'
            have b9' : Ab w8 w9 := h9.ab w8 abA (Nat.le_refl _)
            have b9 := b8.trans b9'
            have P9 := h9.v
            have oA9 := oA.keep b9'
            have HV8 := Lib.hid (hV6.keep b8)
            have HB9 := Lib.hid b9'
            have hV9 := hV6.keep b9
            have X9 := X6.ab b9
            have hly9 := hly6.ab b9
            have z8 := b8.size
            have z9 := h9.sz
            simp at z9
            clear hV6 X6 hly6 x2 hyb Z9 h9 b8 b9' oA b4 E4 hv4 e1 b9
            generalize hpb : w8.heap.size = pbx at *
            have y0 := X9.at 0 (show (VM.cells ⟨yk, yn, yA, L1, yc, yL, yl, yd⟩)[0]? = some (.int .u8 (yk : Int)) from rfl)
            have y3 := X9.at 3 (show (VM.cells ⟨yk, yn, yA, L1, yc, yL, yl, yd⟩)[3]? = some (.slice yL yl.length yd) from rfl)
            have HV9 := Lib.hid hV9
            have OA9 := Lib.hid oA9
            clear hV9 oA9
            by_cases hk3 : yk = 3
            · subst hk3
              have y0' : w9.cell? ⟨tb, 0, none⟩ = some (.int .u8 3) := by simpa using y0
              clear y0
              by_cases h2 : yl.length = 2
              · obtain ⟨g2, o2, hL2, hS2, u, hu, hRu, hlu⟩ := vl_elem hly9 (k := 0) (by show 0 < yl.length; omega)
                obtain ⟨g3, o3, hL3, _, v, hv, hRv, hlv⟩ := vl_elem hly9 (k := 1) (by show 1 < yl.length; omega)
                simp only at hL2 hL3 hu hv
                rw [hL2] at hL3
                obtain ⟨rfl, rfl⟩ : g2 = g3 ∧ o2 = o3 := by injection hL3 with h; injection h with h1 h2; exact ⟨h1, h2⟩
                subst hL2
                have y3' : w9.cell? ⟨tb, 3, none⟩ = some (.slice (some ⟨g2, o2, none⟩) 2 yd) := by rw [← h2]; exact y3
                have cu0 : w9.cell? ⟨g2, o2, none⟩ = some (.int .u8 (u.kind : Int)) := by have := hRu 0 (.int .u8 (u.kind : Int)) rfl; simpa using this
                have cu1 : w9.cell? ⟨g2, o2 + 1, none⟩ = some (.int .i64 u.num) := by have := hRu 1 (.int .i64 u.num) rfl; simpa using this
                have cv0 : w9.cell? ⟨g2, o2 + 4, none⟩ = some (.int .u8 (v.kind : Int)) := by have := hRv 0 (.int .u8 (v.kind : Int)) rfl; simpa using this
                have cv1 : w9.cell? ⟨g2, o2 + 4 + 1, none⟩ = some (.int .i64 v.num) := by have := hRv 1 (.int .i64 v.num) rfl; simpa using this
                have e0 : yl.getD 0 V.zero = u.v := by rw [List.getD_eq_getElem?_getD, List.getElem?_eq_getElem (by omega), Option.getD_some, hu]
                have e1 : yl.getD 1 V.zero = v.v := by rw [List.getD_eq_getElem?_getD, List.getElem?_eq_getElem (by omega), Option.getD_some, hv]
                have ek0 : (yl.getD 0 V.zero).kind = u.kind := by rw [e0]; rfl
                have ek1 : (yl.getD 1 V.zero).kind = v.kind := by rw [e1]; rfl
                have en0 : (yl.getD 0 V.zero).num = u.num := by rw [e0]; rfl
                have en1 : (yl.getD 1 V.zero).num = v.num := by rw [e1]; rfl
                have ru := Lib.hid (⟨hlu.1.2.1, hlu.1.2.2.1⟩ : -9223372036854775808 ≤ u.num ∧ u.num ≤ 9223372036854775807)
                have rv := Lib.hid (⟨hlv.1.2.1, hlv.1.2.2.1⟩ : -9223372036854775808 ≤ v.num ∧ v.num ≤ 9223372036854775807)
                clear hu hv hRu hRv hlu hlv hL3 e0 e1 hly9 y3
                generalize u.num = un at *
                generalize v.num = vn at *
                generalize u.kind = uk at *
                generalize v.kind = vk at *
                by_cases hu1 : uk = 1
                · have cu0' : w9.cell? ⟨g2, o2, none⟩ = some (.int .u8 1) := by rw [hu1] at cu0; simpa using cu0
                  clear cu0
                  by_cases hv1 : vk = 1
                  · have cv0' : w9.cell? ⟨g2, o2 + 4, none⟩ = some (.int .u8 1) := by rw [hv1] at cv0; simpa using cv0
                    clear cv0
                    by_cases hun : un ≤ 2000
                    · by_cases hvn : vn ≤ 2000
                      · have HL : Hid (Dl.lc (VM.v ⟨3, yn, yA, L1, yc, (some ⟨g2, o2, none⟩), yl, yd⟩) = true) := Lib.hid (Dl.lc_t rfl h2 (ek0.trans hu1) (ek1.trans hv1) (by show (yl.getD 0 V.zero).num ≤ 2000; rw [en0]; exact hun) (by show (yl.getD 1 V.zero).num ≤ 2000; rw [en1]; exact hvn))
                        have HRP : Hid (Dl.rp (VM.v ⟨3, yn, yA, L1, yc, (some ⟨g2, o2, none⟩), yl, yd⟩) = ⟨un, vn, []⟩) := by unfold Hid; rw [Dl.rp_c HL.out]; show (⟨(yl.getD 0 V.zero).num, (yl.getD 1 V.zero).num, []⟩ : Dl.Part) = _; rw [en0, en1]
                        have HO3 : Hid (Dl.okp (VM.v ⟨3, yn, yA, L1, yc, (some ⟨g2, o2, none⟩), yl, yd⟩) = Dl.copies ⟨un, vn, []⟩) := by unfold Hid; rw [Dl.okp_c HL.out]; show Dl.copies (⟨(yl.getD 0 V.zero).num, (yl.getD 1 V.zero).num, []⟩ : Dl.Part) = _; rw [en0, en1]
                        have TI := fun w' => rcopies_any ⟨un, vn, none, [], 0⟩ w'
                        have HPD : PM.d ⟨un, vn, none, [], 0⟩ = ⟨un, vn, []⟩ := rfl
                        rw [HPD] at TI
                        clear HPD HL ek0 ek1 en0 en1
                        generalize Dl.copies ⟨un, vn, []⟩ = qi at *
                        go_upto_region 11 with fail
                        refine wp_region_held_drew (by kernel_rfl) (S := fun w' => w'.cell? ⟨tb, 3, none⟩ = some (.slice (some ⟨g2, o2, none⟩) 2 yd) ∧ w'.cell? ⟨g2, o2 + 1, none⟩ = some (.int .i64 un) ∧ w'.cell? ⟨g2, o2 + 4 + 1, none⟩ = some (.int .i64 vn)) ?_ (fun hHeld => ?_)
                        · exact ⟨(show Ab w9 _ from abA).at y3', (show Ab w9 _ from abA).at cu1, (show Ab w9 _ from abA).at cv1⟩
                        (refine rtA 0 ?_ ?_
                         (try simp only [Act.put, stA, st0, st1]))
                        (refine rtA 1 (.slice (some ⟨g2, o2, none⟩) 2 yd) ?_ (hy := by intro w hSw; have z0 := hSw.1; go_simp; (try with_reducible rfl)); (try simp only [Act.put, stA, st0, st1]))
                        (refine rtA 2 ?_ ?_
                         (try simp only [Act.put, stA, st0, st1]))
                        (refine rtA 3 ?_ ?_
                         (try simp only [Act.put, stA, st0, st1]))
                        (refine rtA 4 (.int .i64 un) ?_ (hy := by intro w hSw; have z0 := hSw.2.1; go_simp; (try with_reducible rfl)); (try simp only [Act.put, stA, st0, st1]))
                        (refine rtA 5 ?_ ?_
                         (try simp only [Act.put, stA, st0, st1]))
                        (refine rtA 6 (.slice (some ⟨g2, o2, none⟩) 2 yd) ?_ (hy := by intro w hSw; have z0 := hSw.1; go_simp; (try with_reducible rfl)); (try simp only [Act.put, stA, st0, st1]))
                        (refine rtA 7 ?_ ?_
                         (try simp only [Act.put, stA, st0, st1]))
                        (refine rtA 8 ?_ ?_
                         (try simp only [Act.put, stA, st0, st1]))
                        (refine rtA 9 (.int .i64 vn) ?_ (hy := by intro w hSw; have z0 := hSw.2.2; go_simp; (try with_reducible rfl)); (try simp only [Act.put, stA, st0, st1]))
                        (refine rtA 10 ?_ ?_
                         (try simp only [Act.put, stA, st0, st1]))
                        refine r1A 11 (fun K hK => ?_)
                        (try simp only [Act.put, List.getElem_toArray, List.getElem_cons_succ, List.getElem_cons_zero, stA, st0, st1])
                        refine if_go (by rfl) ?_
                        refine wp_stV (us := [.int .i64 un, .int .i64 vn, .slice none 0 0]) _ infoP _ _ rfl rfl rfl (P9.ab (w' := _) abA) rfl rfl rfl ?_
                        intro wA hA
                        have bA : Ab w8 wA := hA.ab w8 (HB9.out.trans abA) (by omega)
                        (refine hK.out _ _ ?_ (fun hHeld => ?_)
                         · (try dsimp only); exact ⟨hA.at_ ((show Ab w9 _ from abA).at y3') (by show tb ≠ pbx; omega), hA.at_ ((show Ab w9 _ from abA).at cu1) (by show g2 ≠ pbx; omega), hA.at_ ((show Ab w9 _ from abA).at cv1) (by show g2 ≠ pbx; omega)⟩
                         clear hK K
                         (try simp only [Act.put, stA, st0, st1]))
                        refine wpAnyH_done (by kernel_rfl) ?_ _
                        have PA := hA.v
                        have HVA := Lib.hid (HV8.out.keep bA)
                        have HBA := Lib.hid bA
                        clear bA hA P9 X9 y0' y3' cu0' cu1 cv0' cv1
                        go_upto_region 12 with fail
                        go_wp2_with (refine list_ldV (o := ⟨some 97, _, _, _, _, _⟩) _ infoP Try.underlying24 rfl rfl _ rfl rfl PA rfl ?_)
                        refine (TI _).mono ?_
                        rintro e w10 ⟨rfl, hb10'⟩
                        have hb10 : Ab wA w10 := Ab.trans (by exact abA) hb10'
                        have P10 := PA.ab hb10
                        have HV10 := Lib.hid (HVA.out.keep hb10)
                        have zA := HBA.out.size
                        clear hb10' TI
                        cases qi with
                        | true =>
                          have HOK2 := Lib.hid (HOK.out (HO3.out))
                          have XP : ∀ w', Ab w10 w' → PO w' (fun g => (w.heap.size ≤ g ∨ w4.heap.size ≤ g) ∧ B.map (·.block) ≠ some g) ⟨un, vn, none, [], 0⟩ := fun w' k => ⟨RS.nil, by simp, by simp, ru.out.1, ru.out.2, rv.out.1, rv.out.2⟩
                          have z10 := hb10.size
                          clear HOK HNk hb10
                          go_wp2_with (first
                            | (refine list_ldV (o := ⟨some 109, _, _, _, _, _⟩) _ infoP Try.underlying24 rfl rfl _ rfl rfl P10 rfl ?_)
                            | (at_builtin
                               refine listAppPp (x := ⟨un, vn, none, [], 0⟩) rfl _ _ rfl rfl rfl (HV10.out.o.ab (w' := _) abA) (by simp; omega) (by (repeat (first | exact new_plain wnA | with_reducible refine old_alloc ?_ | with_reducible refine old_drew ?_ | with_reducible refine old_set ?_ wnA | with_reducible refine old_ab (by assumption) ?_))) (XP _ abA) (by omega) ?_
                               intro g' c' w13 zs ez O13 hg13 hf13))
                          have v13 : Hid (zs.map PM.d = (xl.take (ps.length + 1)).map Dl.rp) := by
                            unfold Hid
                            rw [ez.out, List.map_append, HV10.out.v.out, HS.out, HRP.out]
                            rfl
                          have l13 : zs.length = ps.length + 1 := by rw [ez.out]; simp
                          have hV13 := Vq.app (HV10.out.keep abA) hg13 (by omega) (by omega) O13 v13
                          go_roundw
                          case rel => exact ⟨ps.length + 1, some ⟨g', 0, none⟩, c', zs, by omega, by rw [l13], by go_num, l13, hV13, HOK2⟩
                          case measure => simp [intOf] <;> omega
                        | false =>
                          have HE : Hid (db = ([], 12)) := Lib.hid (HNk.out HO3.out)
                          clear HNk HS HOK
                          go_wp2
                          go_ret2
                          exact ⟨none, 0, [], 12, rfl, HE, OwnPts.nil, HV10.out.ab.trans abA⟩
                      · have hun' := hun
                        have HE : Hid (db = ([], 12)) := Lib.hid (HNk.out (Dl.okp_f (Dl.lc_n1 (by show ¬ (yl.getD 1 V.zero).num ≤ 2000; rw [en1]; exact hvn)) (show ¬ (3 : Nat) = 2 from by decide)))
                        clear HNk HS HOK
                        go_wp2
                        go_ret2
                        exact ⟨none, 0, [], 12, rfl, HE, OwnPts.nil, HV9.out.ab.trans abA⟩
                    · have hu2 := hun
                      have HE : Hid (db = ([], 12)) := Lib.hid (HNk.out (Dl.okp_f (Dl.lc_n0 (by show ¬ (yl.getD 0 V.zero).num ≤ 2000; rw [en0]; exact hun)) (show ¬ (3 : Nat) = 2 from by decide)))
                      clear HNk HS HOK
                      go_wp2
                      go_ret2
                      exact ⟨none, 0, [], 12, rfl, HE, OwnPts.nil, HV9.out.ab.trans abA⟩
                  · have hv2 : ((vk : Int) == 1) = false := by simp; omega
                    have HE : Hid (db = ([], 12)) := Lib.hid (HNk.out (Dl.okp_f (Dl.lc_k1 (by show ¬ (yl.getD 1 V.zero).kind = 1; rw [ek1]; exact hv1)) (show ¬ (3 : Nat) = 2 from by decide)))
                    clear HNk HS HOK
                    go_wp2
                    go_ret2
                    exact ⟨none, 0, [], 12, rfl, HE, OwnPts.nil, HV9.out.ab.trans abA⟩
                · have hu2 : ((uk : Int) == 1) = false := by simp; omega
                  have HE : Hid (db = ([], 12)) := Lib.hid (HNk.out (Dl.okp_f (Dl.lc_k0 (by show ¬ (yl.getD 0 V.zero).kind = 1; rw [ek0]; exact hu1)) (show ¬ (3 : Nat) = 2 from by decide)))
                  clear HNk HS HOK
                  go_wp2
                  go_ret2
                  exact ⟨none, 0, [], 12, rfl, HE, OwnPts.nil, HV9.out.ab.trans abA⟩
              · have h2' : ((yl.length : Int) == 2) = false := by simp; omega
                have HN2 := h2
                clear h2
                have HE : Hid (db = ([], 12)) := Lib.hid (HNk.out (Dl.okp_f (Dl.lc_len (by show ¬ yl.length = 2; exact HN2)) (show ¬ (3 : Nat) = 2 from by decide)))
                clear HNk HS HOK
                go_wp2
                go_ret2
                exact ⟨none, 0, [], 12, rfl, HE, OwnPts.nil, HV9.out.ab.trans abA⟩
            · have h3' : ((yk : Int) == 3) = false := by simp; omega
              have HL3 : Hid (Dl.lc (VM.v ⟨yk, yn, yA, L1, yc, yL, yl, yd⟩) = false) := Lib.hid (Dl.lc_kind (by show ¬ yk = 3; exact hk3))
              by_cases hk2 : yk = 2
              · subst hk2
                have y0' : w9.cell? ⟨tb, 0, none⟩ = some (.int .u8 2) := by simpa using y0
                have HO2 := Dl.okp_b HL3.out rfl
                have TI := fun w' => rinserts_any ⟨0, 0, A1, L1, d1⟩ w'
                have HPD : PM.d ⟨0, 0, A1, L1, d1⟩ = ⟨0, 0, L1⟩ := rfl
                rw [HPD] at TI
                have HO3 : Hid (Dl.okp (VM.v ⟨2, yn, yA, L1, yc, yL, yl, yd⟩) = Dl.inserts ⟨0, 0, L1⟩) := Lib.hid HO2
                clear HO2 HPD y0 hk3 h3'
                generalize Dl.inserts ⟨0, 0, L1⟩ = qi at *
                go_upto_region 14 with fail
                go_wp2_with (refine list_ldGP (o := ⟨some 104, _, _, _, _, _⟩) _ infoP Try.underlying24 rfl (by kernel_rfl) _ rfl rfl P9 rfl ?_)
                refine (TI _).mono ?_
                rintro e w10 ⟨rfl, hb10'⟩
                have hb10 : Ab w9 w10 := Ab.trans (by exact abA) hb10'
                have P10 := P9.ab hb10
                have HV10 := Lib.hid (HV9.out.keep hb10)
                clear hb10' TI
                cases qi with
                | true =>
                  have HOK2 := Lib.hid (HOK.out (HO3.out))
                  have XP : ∀ w', Ab w10 w' → PO w' (fun g => (w.heap.size ≤ g ∨ w4.heap.size ≤ g) ∧ B.map (·.block) ≠ some g) ⟨0, 0, A1, L1, d1⟩ := fun w' k => ⟨RS.mono' (fun g' hg' => ⟨.inl (by omega), fun e => by have := (zB g' e).2; omega⟩) ((OA9.out.rb.rs (S := fun g => w6.heap.size ≤ g) (fun g h => h)).ab (hb10.trans k)), OA9.out.le, (show L1.length ≤ 9223372036854775807 by omega), by simp, by simp, by simp, by simp⟩
                  have z10 := hb10.size
                  clear HOK HNk
                  go_wp2_with (first
                    | (refine list_ldV (o := ⟨some 109, _, _, _, _, _⟩) _ infoP Try.underlying24 rfl rfl _ rfl rfl P10 rfl ?_)
                    | (at_builtin
                       refine listAppPp (x := ⟨0, 0, A1, L1, d1⟩) rfl _ _ rfl rfl rfl (HV10.out.o.ab (w' := _) abA) (by simp; omega) (by (repeat (first | exact new_plain wnA | with_reducible refine old_alloc ?_ | with_reducible refine old_drew ?_ | with_reducible refine old_set ?_ wnA | with_reducible refine old_ab (by assumption) ?_))) (XP _ abA) (by omega) ?_
                       intro g' c' w13 zs ez O13 hg13 hf13))
                  have v13 : Hid (zs.map PM.d = (xl.take (ps.length + 1)).map Dl.rp) := by
                    unfold Hid
                    rw [ez.out, List.map_append, HV10.out.v.out, HS.out, Dl.rp_b HL3.out]
                    rfl
                  have l13 : zs.length = ps.length + 1 := by rw [ez.out]; simp
                  have hV13 := Vq.app (HV10.out.keep abA) hg13 (by omega) (by omega) O13 v13
                  go_roundw
                  case rel => exact ⟨ps.length + 1, some ⟨g', 0, none⟩, c', zs, by omega, by rw [l13], by go_num, l13, hV13, HOK2⟩
                  case measure => simp [intOf] <;> omega
                | false =>
                  have HE : Hid (db = ([], 12)) := Lib.hid (HNk.out HO3.out)
                  clear HNk HS HOK
                  go_wp2
                  go_ret2
                  exact ⟨none, 0, [], 12, rfl, HE, OwnPts.nil, HV10.out.ab.trans abA⟩
              · have h2' : ((yk : Int) != 2) = true := by simp; omega
                have HN2 := hk2
                have HE : Hid (db = ([], 12)) := Lib.hid (HNk.out (Dl.okp_f (HL3.out) (show ¬ yk = 2 from HN2)))
                clear HNk HS HOK
                go_wp2
                go_ret2
                exact ⟨none, 0, [], 12, rfl, HE, OwnPts.nil, HV9.out.ab.trans abA⟩
          · have hke : ps.length = xl.length := by omega
            have hT : ¬ ((ps.length : Nat) : Int) < (xl.length : Int) := by omega
            have hdb : Hid (db = (ps.map PM.d, 0)) := by
              unfold Hid
              rw [HY.out (fun j h => hok.out j h (by omega)), hV.v.out, List.take_of_length_le (by omega)]
            have O5 := hV.o.own (lo' := w.heap.size) (by omega) (fun _ h => h)
            have b5 := hV.ab
            clear hke hV HY HN hok b4 E4 hv4
            go_wp2
            go_ret2
            exact ⟨B, cb_, ps, 0, rfl, hdb, O5.ab abA, b5.trans abA⟩
      · have q0' : w4.cell? ⟨xb_, 0, none⟩ = some (.int .u8 3) := by simpa using q0
        have k200 : (200 : Int) < (xl.length : Int) := by omega
        have HE : Hid (db = ([], 12)) := by unfold Hid; rw [HD.out, if_pos (by simp [VM.v, V.kind, V.l]; omega)]
        clear HD HBL q0
        go_wp2
        go_ret2
        exact ⟨none, 0, [], 12, rfl, HE, OwnPts.nil, b4.trans abA⟩
    · have h3' : ((xk : Int) != 3) = true := by simp; omega
      have HE : Hid (db = ([], 12)) := by unfold Hid; rw [HD.out, if_pos (.inr (.inl (by show ¬ xk = 3; exact h3)))]
      clear HD HBL
      go_wp2
      go_ret2
      exact ⟨none, 0, [], 12, rfl, HE, OwnPts.nil, b4.trans abA⟩
  · have hc' : (er != 0) = true := by rw [bne_iff_ne]; exact h0
    have HE : Hid (db = ([], 12)) := by unfold Hid; rw [HD.out, if_pos (.inl (by show ¬ er = 0; exact h0))]
    clear HD HBL
    go_wp2
    go_ret2
    exact ⟨none, 0, [], 12, rfl, HE, OwnPts.nil, b4.trans abA⟩
end Go.Proofs.Ytbhhjbmpcpjcnaa
