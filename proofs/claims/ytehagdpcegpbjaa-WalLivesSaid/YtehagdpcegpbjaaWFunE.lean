/- Records of package wal and of the reference, walked. Own work. -/
import Derived.Test.YtehagdpcegpbjaaWFunA
set_option linter.unusedVariables false
set_option linter.unusedSimpArgs false
namespace Go.Proofs.Ytehagdpcegpbjaa
open Go.RowKit

/-- The call's own list of records (where their bytes lie is told beside). -/
def OwnR (lo : Nat) (w : World) (A : Option Addr) (c : Nat) (xs : List RecM) : Prop := OV 72 2 lo w A xs.length c (cellsOf xs)
theorem OwnR.nil {lo : Nat} {w : World} : OwnR lo w none 0 [] := OV.nil
theorem OwnR.ab {lo c : Nat} {w w' : World} {A : Option Addr} {xs : List RecM} (h : OwnR lo w A c xs) (hb : Ab w w') : OwnR lo w' A c xs := OV.block h fun g _ hg => hb.out.block g hg
theorem OwnR.le {lo c : Nat} {w : World} {A : Option Addr} {xs : List RecM} (h : OwnR lo w A c xs) : xs.length ≤ c := by
  unfold OwnR OV at h
  rcases h.2 with ⟨hv, h0⟩ | ⟨g, cap, cur, hv, _, _, hn, _⟩
  · injection hv; omega
  · injection hv; omega
theorem OwnR.recs {lo lo' c : Nat} {w : World} {A : Option Addr} {xs : List RecM} (h : OwnR lo w A c xs) (hl : ∀ x ∈ xs, Laid w lo' x) (hlo : lo' ≤ lo) : Recs w lo' A xs := by
  intro hn
  unfold OwnR at h
  rcases h.2 with ⟨_, h0⟩ | ⟨g, cap, cur, hv, hb, _⟩
  · omega
  · have hA : A = some ⟨g, 0, none⟩ := by injection hv
    have hc := h
    unfold OV at hc
    refine ⟨_, hA, Nat.le_trans hlo hb, fun i hi => ?_⟩
    obtain ⟨c0, c1⟩ := cellsOf_at xs i hi
    exact ⟨hc.cells (g := g) (by rw [hA]; rfl) _ _ c0, hc.cells (g := g) (by rw [hA]; rfl) _ _ c1, hl _ (List.getElem_mem hi)⟩
theorem listAppOwn {lo : Nat} {w : World} {A : Option Addr} {c : Nat} {xs : List RecM} {x : RecM} {o : Oper} {a : Act} {g d : Nat} {fr : Nat × Nat} {ops : Array Oper} {rest : List Oper} {Q : Exit → Act → World → Prop} (hgd : o.guard = none) (s y : Operand) (ho : o.op = .call { callee := .builtin .append, args := #[s, y], argTypes := #[34, 34] })
    (hs : a.eval s = .slice A xs.length c) (hy : a.eval y = .slice (some ⟨g, 0, none⟩) 1 d) (h : OwnR lo w A c xs) (hlo : lo ≤ w.heap.size)
    (hg : w.heap[g]? = some (.cells #[.int .i64 x.num, .slice x.A x.b.length x.c] 72 fr)) (hlen : xs.length ≤ 1000000)
    (hK : ∀ A' c' w' ys, Hid (ys = xs ++ [x]) → OwnR lo w' A' c' ys → w.grownBy w' (A.map (·.block)) → (∀ W : World, Ab W w → W.heap.size ≤ lo → Ab W w') → wpList Try.prog ops Q rest (a.put o.dst (.slice A' ys.length c')) w') :
    wpList Try.prog ops Q (o :: rest) a w := by
  obtain ⟨i0, hi0, hz0, hz1, hz2⟩ := info_parts infoRec
  refine wpList_appV (ws := x.cells) hgd s y _ ho i0 _ Try.underlying34 hi0 hz0 hz1 hz2 rfl (by omega) hs hy h hlo rfl ?_ ?_ (by omega) (by unfold maxLen; omega) (by omega) ?_
  · intro j u hu
    have e : (⟨g, 0, none⟩ : Addr).add j = ⟨g, j, none⟩ := by unfold Addr.add; split <;> simp_all
    rw [e]
    unfold World.cell?
    rw [hg]
    simpa [RecM.cells] using hu
  · intro u hu
    have hu' : u = .int .i64 x.num ∨ u = .slice x.A x.b.length x.c := by simpa [RecM.cells] using hu
    rcases hu' with rfl | rfl <;> rfl
  · intro g' c' w' h4 h5 h6
    have h7 : OwnR lo w' (some ⟨g', 0, none⟩) c' (xs ++ [x]) := by
      unfold OwnR
      rw [cellsOf_append, cellsOf_one, List.length_append]; exact h4
    have := hK _ c' w' (xs ++ [x]) rfl h7 h5 (fun W hW hl => grown_ab hW h5 (fun k hk => by
      obtain ⟨a, ha, rfl⟩ := map_blk hk
      exact Nat.le_trans hl (OV.rng h a ha).1))
    rwa [List.length_append] at this

theorem Recs.laid {w : World} {lo : Nat} {A : Option Addr} {xs : List RecM} (h : Recs w lo A xs) : ∀ x ∈ xs, Laid w lo x := by
  intro x hx
  obtain ⟨i, hi, he⟩ := List.mem_iff_getElem.1 hx
  obtain ⟨_, _, _, _, _, l⟩ := h.at_ hi
  rw [he] at l
  exact l
theorem Ents.laid {w : World} {lo : Nat} {A : Option Addr} {ys : List EntM} (h : Ents w lo A ys) : ∀ y ∈ ys, Laid w lo y.x := by
  intro y hy
  obtain ⟨i, hi, he⟩ := List.mem_iff_getElem.1 hy
  obtain ⟨_, _, _, _, _, _, l⟩ := h.at_ hi
  rw [he] at l
  exact l

/-- How far the loop of Records has come. -/
def RecsRel (zs : List EntM) (w3 : World) (f i : Value) (wr : World) : Prop :=
  ∃ (k : Nat) (B : Option Addr) (c : Nat) (xs : List RecM), k ≤ zs.length ∧ i = .int .i64 (k : Int) ∧ f = .slice B xs.length c ∧ Hid (xs = (xsOf zs).take k) ∧ xs.length ≤ 20000 ∧ OwnR w3.heap.size wr B c xs ∧ Ab w3 wr

set_option maxHeartbeats 3200000 in
theorem wrecords_any (A B : Option Addr) (ca cb : Nat) (s t : List UInt8) (cap : Int) (dn : Bool) (f n : Int) (w : World) (hs : RB w 0 A s) (ht : RB w 0 B t) (hca : s.length ≤ ca) (hcb : t.length ≤ cb) (ls : s.length ≤ 1000000) (lt : t.length ≤ 1000000) (g : Option (List Frame.Rec)) (hi : Wal.Is ⟨⟨s, t, cap, dn⟩, f, n⟩ g) (m : Int) :
    Calls Try.prog 14 #[.agg #[.slice A s.length ca, .slice B t.length cb, .int .i64 cap, .bool dn, .int .i64 f, .int .i64 n], .int .i64 m] w (RetRecsE w (Wal.records ⟨⟨s, t, cap, dn⟩, f, n⟩ m g)) := by
  cases g with
  | none =>
    go_enter Try.func14, Try.ntmps14
    go_wp2_with fail
    refine (read_bad A B ca cb s t cap dn f n _ (hs.ab (by repeat (first | with_reducible exact Ab.refl _ | with_reducible assumption | with_reducible refine Ab.drew ?_ | with_reducible refine Ab.drewN ?_ _ | with_reducible refine Ab.alloc ?_ _ | with_reducible refine Ab.trans ?_ (by assumption) | with_reducible refine Ab.set ?_ (by first | (simp; done) | omega | (simp; omega)) _))) (ht.ab (by repeat (first | with_reducible exact Ab.refl _ | with_reducible assumption | with_reducible refine Ab.drew ?_ | with_reducible refine Ab.drewN ?_ _ | with_reducible refine Ab.alloc ?_ _ | with_reducible refine Ab.trans ?_ (by assumption) | with_reducible refine Ab.set ?_ (by first | (simp; done) | omega | (simp; omega)) _))) hca hcb ls lt hi).mono ?_
    rintro e w1 ⟨rfl, hb1⟩
    go_wp2
    go_ret2
    exact RetRecsE.zero rfl (by repeat (first | with_reducible exact Ab.refl _ | with_reducible assumption | with_reducible refine Ab.drew ?_ | with_reducible refine Ab.drewN ?_ _ | with_reducible refine Ab.alloc ?_ _ | with_reducible refine Ab.trans ?_ (by assumption) | with_reducible refine Ab.set ?_ (by first | (simp; done) | omega | (simp; omega)) _))
  | some rs =>
    obtain rfl : dn = false := hi.isUp
    by_cases hm : m < f ∨ n < m
    · have HM := Lib.hid (show Wal.records ⟨⟨s, t, cap, false⟩, f, n⟩ m (some rs) = ([], 2) from if_pos hm)
      rcases hm with hm | hm
      all_goals
        go_enter Try.func14, Try.ntmps14
        go_wp2_with fail
        refine (read_good A B ca cb s t cap f n _ (hs.ab (by repeat (first | with_reducible exact Ab.refl _ | with_reducible assumption | with_reducible refine Ab.drew ?_ | with_reducible refine Ab.drewN ?_ _ | with_reducible refine Ab.alloc ?_ _ | with_reducible refine Ab.trans ?_ (by assumption) | with_reducible refine Ab.set ?_ (by first | (simp; done) | omega | (simp; omega)) _))) (ht.ab (by repeat (first | with_reducible exact Ab.refl _ | with_reducible assumption | with_reducible refine Ab.drew ?_ | with_reducible refine Ab.drewN ?_ _ | with_reducible refine Ab.alloc ?_ _ | with_reducible refine Ab.trans ?_ (by assumption) | with_reducible refine Ab.set ?_ (by first | (simp; done) | omega | (simp; omega)) _))) hca hcb rs hi).mono ?_
        rintro e w1 ⟨E, d, ys, hR, hE, rfl, hEn, hd, hyl, hb1⟩
        go_wp2
        all_goals first | (exfalso; omega) | skip
        all_goals go_ret2
        all_goals exact RetRecsE.zero HM.out.symm (by repeat (first | with_reducible exact Ab.refl _ | with_reducible assumption | with_reducible refine Ab.drew ?_ | with_reducible refine Ab.drewN ?_ _ | with_reducible refine Ab.alloc ?_ _ | with_reducible refine Ab.trans ?_ (by assumption) | with_reducible refine Ab.set ?_ (by first | (simp; done) | omega | (simp; omega)) _))
    · have HM := Lib.hid (show Wal.records ⟨⟨s, t, cap, false⟩, f, n⟩ m (some rs) = (rs.drop (m - f).toNat, 0) from if_neg hm)
      have hrg := hi.rng
      simp only at hrg
      obtain ⟨j, hj⟩ : ∃ j : Nat, m - f = (j : Int) := ⟨(m - f).toNat, by omega⟩
      have hnl := hi.2.2.2.1
      simp only at hnl
      have HM := Lib.hid (show Wal.records ⟨⟨s, t, cap, false⟩, f, n⟩ m (some rs) = (rs.drop j, 0) by rw [HM.out, hj]; rfl)
      have HF := Lib.hid hi.2.1
      have hsub : IntKind.i64.wrap (m - f) = (j : Int) := by rw [IntWalk.i64_in _ (by omega)]; exact hj
      have hjl : j ≤ rs.length := by omega
      have h1 : ¬ m < f := by omega
      have h2 : ¬ n < m := by omega
      clear hm hnl
      have hj0 : (0 : Int) ≤ (j : Int) := by omega
      go_enter Try.func14, Try.ntmps14
      go_wp2_with fail
      refine (read_good A B ca cb s t cap f n _ (hs.ab (by repeat (first | with_reducible exact Ab.refl _ | with_reducible assumption | with_reducible refine Ab.drew ?_ | with_reducible refine Ab.drewN ?_ _ | with_reducible refine Ab.alloc ?_ _ | with_reducible refine Ab.trans ?_ (by assumption) | with_reducible refine Ab.set ?_ (by first | (simp; done) | omega | (simp; omega)) _))) (ht.ab (by repeat (first | with_reducible exact Ab.refl _ | with_reducible assumption | with_reducible refine Ab.drew ?_ | with_reducible refine Ab.drewN ?_ _ | with_reducible refine Ab.alloc ?_ _ | with_reducible refine Ab.trans ?_ (by assumption) | with_reducible refine Ab.set ?_ (by first | (simp; done) | omega | (simp; omega)) _))) hca hcb rs hi).mono ?_
      rintro e w1 ⟨E, d, ys, hR, hE, rfl, hEn, hd, hyl, hb1⟩
      have hjy : j ≤ ys.length := by rw [← erecs_length, hR.out]; exact hjl
      obtain ⟨zs, hzs⟩ : ∃ zs, ys.drop j = zs := ⟨_, rfl⟩
      have hzl : zs.length = ys.length - j := by rw [← hzs, List.length_drop]
      have hcut : ∀ w, (Instr.slice 77 (.slice E ys.length d) (some (.int .i64 (j : Int))) none none).run Try.prog w = .ok (.slice (cutE E d j) zs.length (d - j)) w := fun w => by
        rw [run_cutE j .i64 E ys.length d w hjy, hzl]
      have hZ0 := hEn.cut j d hd
      rw [hzs] at hZ0
      have HZ := Lib.hid (show recs (xsOf zs) = rs.drop j by rw [← hzs, ← hR.out]; exact erecs_drop ys j)
      have hz2 : zs.length ≤ 20000 := by omega
      have z1 := hb1.size
      simp at z1
      have hj1 : (j : Int) ≤ (ys.length : Int) := by omega
      clear hzs hzl
      go_wp2_with fail
      have hb2 : Ab w1 (w1.alloc (.cells #[.slice A s.length ca, .slice B t.length cb, .int .i64 cap, .bool false, .int .i64 f, .int .i64 n, .slice E ys.length d] 88)) := (by repeat (first | with_reducible exact Ab.refl _ | with_reducible assumption | with_reducible refine Ab.drew ?_ | with_reducible refine Ab.drewN ?_ _ | with_reducible refine Ab.alloc ?_ _ | with_reducible refine Ab.trans ?_ (by assumption) | with_reducible refine Ab.set ?_ (by first | (simp; done) | omega | (simp; omega)) _))
      have hZ := hZ0.ab hb2
      have bz : Ab w (w1.alloc (.cells #[.slice A s.length ca, .slice B t.length cb, .int .i64 cap, .bool false, .int .i64 f, .int .i64 n, .slice E ys.length d] 88)) := (by repeat (first | with_reducible exact Ab.refl _ | with_reducible assumption | with_reducible refine Ab.drew ?_ | with_reducible refine Ab.drewN ?_ _ | with_reducible refine Ab.alloc ?_ _ | with_reducible refine Ab.trans ?_ (by assumption) | with_reducible refine Ab.set ?_ (by first | (simp; done) | omega | (simp; omega)) _))
      generalize (w1.alloc (.cells #[.slice A s.length ca, .slice B t.length cb, .int .i64 cap, .bool false, .int .i64 f, .int .i64 n, .slice E ys.length d] 88)) = w3 at *
      generalize cutE E d j = Z at *
      clear hcut hsub hj
      have zw := bz.size
      go_loopw [8, 40] (fun f8 i wr => RecsRel zs w3 f8 i wr) (fun _ i _ => zs.length - (intOf i).toNat)
      case atStart => exact ⟨0, none, 0, [], Nat.zero_le _, rfl, rfl, Lib.hid rfl, Nat.zero_le _, OwnR.nil, Ab.refl _⟩
      case round =>
        obtain ⟨k, B8, c8, xs, hk, rfl, rfl, hX, hxl, hO, hbr⟩ := hrel
        by_cases hlt : k < zs.length
        · obtain ⟨a, hZa, -, c0, c1, c2, -⟩ := (hZ.ab hbr).at_ hlt
          have HX2 := Lib.hid (show (xsOf zs).take (k + 1) = (xsOf zs).take k ++ [zs[k].x] by
            rw [List.take_succ_eq_append_getElem (by simpa [xsOf] using hlt)]; simp [xsOf])
          have hxk : xs.length ≤ k := by rw [hX.out]; simp; omega
          subst hZa
          generalize zs[k] = y at *
          have hki : (k : Int) < (zs.length : Int) := by omega
          have hk0 : (0 : Int) ≤ (k : Int) := by omega
          have zr := hbr.size
          go_wp2_with ((at_builtin
                        refine listAppOwn (x := y.x) (fr := (0, 0)) rfl _ _ rfl rfl rfl (hO.ab (by repeat (first | with_reducible exact Ab.refl _ | with_reducible assumption | with_reducible refine Ab.drew ?_ | with_reducible refine Ab.drewN ?_ _ | with_reducible refine Ab.alloc ?_ _ | with_reducible refine Ab.trans ?_ (by assumption) | with_reducible refine Ab.set ?_ (by first | (simp; done) | omega | (simp; omega)) _))) (by first | (simp; done) | omega | (simp; omega)) (by (repeat (first | exact new_plain (by first | (simp; done) | omega | (simp; omega)) | with_reducible refine old_alloc ?_ | with_reducible refine old_drew ?_ | with_reducible refine old_set ?_ (by first | (simp; done) | omega | (simp; omega)) | with_reducible refine old_ab (by assumption) ?_))) (by omega) ?_
                        intro B9 c9 w9 vs hvs hO9 g9 f9
                        have b9 := f9 w3 (by repeat (first | with_reducible exact Ab.refl _ | with_reducible assumption | with_reducible refine Ab.drew ?_ | with_reducible refine Ab.drewN ?_ _ | with_reducible refine Ab.alloc ?_ _ | with_reducible refine Ab.trans ?_ (by assumption) | with_reducible refine Ab.set ?_ (by first | (simp; done) | omega | (simp; omega)) _)) (Nat.le_refl _)
                        clear f9))
          go_roundw
          case rel => exact ⟨k + 1, B9, c9, vs, by omega, by go_num, rfl, Lib.hid (by rw [hvs.out, HX2.out, hX.out]), by have := congrArg List.length hvs.out; simp at this; omega, hO9, b9⟩
          case measure => simp [intOf]; omega
        · obtain rfl : k = zs.length := by omega
          go_wp2
          go_ret2
          have e1 : xs = xsOf zs := by rw [hX.out]; exact List.take_of_length_le (by simp [xsOf])
          refine ⟨B8, c8, xs, 0, Lib.hid (by rw [HM.out, e1, HZ.out]), rfl, ?_, hO.le, hxl, Lib.hid (small_of (l := rs.drop j) (Wal.foll_drop HF.out j) (by rw [e1]; exact HZ.out)), (by repeat (first | with_reducible exact Ab.refl _ | with_reducible assumption | with_reducible refine Ab.drew ?_ | with_reducible refine Ab.drewN ?_ _ | with_reducible refine Ab.alloc ?_ _ | with_reducible refine Ab.trans ?_ (by assumption) | with_reducible refine Ab.set ?_ (by first | (simp; done) | omega | (simp; omega)) _))⟩
          refine hO.recs (fun x hx => ?_) zw
          rw [e1] at hx
          obtain ⟨y, hy, rfl⟩ := List.mem_map.1 hx
          exact (((hZ.laid y hy).mono (by first | (simp; done) | omega | (simp; omega))).ab hbr)
end Go.Proofs.Ytehagdpcegpbjaa
