/- Scan, walked. Own work. -/
import Derived.Test.YtehagdpcegpbjaaFrGet
import Derived.Test.YtehagdpcegpbjaaFrRec2
import Derived.Deep.DeepCutAuto
import Derived.IntWalk
set_option linter.unusedVariables false
set_option linter.unusedSimpArgs false
namespace Go.Proofs.Ytehagdpcegpbjaa
open Go.RowKit

/-- What a scan of b returns. -/
def ScanE (b : List UInt8) (l : List Frame.Rec) (u er : Int) : Prop := (20000 < b.length ∧ l = [] ∧ u = 0 ∧ er = 4) ∨ (b.length ≤ 20000 ∧ er = 0 ∧ ∃ n : Nat, u = n ∧ Frame.IsScan b l n)
theorem ScanE.unique {b : List UInt8} {l m : List Frame.Rec} {u v e f : Int} (h : ScanE b l u e) (k : ScanE b m v f) : l = m ∧ u = v ∧ e = f := by
  rcases h with ⟨h, rfl, rfl, rfl⟩ | ⟨h, rfl, n, rfl, hs⟩ <;> rcases k with ⟨k, rfl, rfl, rfl⟩ | ⟨k, rfl, m, rfl, ks⟩
  · exact ⟨rfl, rfl, rfl⟩
  · omega
  · omega
  · obtain ⟨rfl, rfl⟩ := Frame.scan_unique hs ks
    exact ⟨rfl, rfl, rfl⟩
/-- How far a scan has come. -/
def Along (b : List UInt8) (l : List Frame.Rec) (u : Nat) : Prop := Frame.Foll l ∧ u = (Frame.all l).length ∧ Frame.all l <+: b
theorem Along.nil (b : List UInt8) : Along b [] 0 := ⟨Frame.foll_nil, rfl, List.nil_prefix⟩
theorem Along.le {b : List UInt8} {l : List Frame.Rec} {u : Nat} (h : Along b l u) : u ≤ b.length := by rw [h.2.1]; exact h.2.2.length_le
theorem Along.snoc {b : List UInt8} {l : List Frame.Rec} {u : Nat} {r : Frame.Rec} (h : Along b l u) (hp : Frame.Pre r (b.drop u)) (hn : Frame.Next l r) : Along b (l ++ [r]) (u + (12 + r.data.length)) := by
  refine ⟨Frame.foll_snoc h.1 hp.1 hn, ?_, ?_⟩
  · rw [Frame.all_append, Frame.all_one, List.length_append, Frame.enc_length, ← h.2.1]
  · obtain ⟨t, rfl⟩ := h.2.2
    obtain ⟨s, hs⟩ := hp.2
    rw [h.2.1, List.drop_left' rfl] at hs
    exact ⟨s, by rw [Frame.all_append, Frame.all_one, List.append_assoc, hs]⟩
theorem Along.stop {b : List UInt8} {l : List Frame.Rec} {u : Nat} (h : Along b l u) (hs : ∀ r, Frame.Pre r (b.drop u) → ¬ Frame.Next l r) : Frame.IsScan b l u := ⟨h.1, h.2.1, h.2.2, hs⟩

theorem next_nil (r : Frame.Rec) : Frame.Next [] r := fun h => absurd h (by simp)
theorem next_iff (xs : List RecM) (k : Nat) (h : xs.length = k + 1) (r : Frame.Rec) : Frame.Next (recs xs) r ↔ r.num = (xs[k]'(by omega)).num + 1 := by
  have e : (recs xs)[(recs xs).length - 1]'(by rw [recs_length]; omega) = (xs[k]'(by omega)).r := by
    have : (recs xs).length - 1 = k := by rw [recs_length]; omega
    simp only [this]
    exact recs_get xs k (by omega)
  constructor
  · intro hn
    have := hn (by rw [recs_length]; omega)
    rw [e] at this; exact this
  · intro hr _
    rw [e]; exact hr

set_option maxHeartbeats 1600000 in
theorem scan_any (A : Option Addr) (b : List UInt8) (c : Nat) (w : World) (hb : RB w 0 A b) (hc : b.length ≤ c) (lb : b.length ≤ 9223372036854775807) :
    Calls Try.prog 65 #[.slice A b.length c] w fun e w' => ∃ B d xs u er, Hid (ScanE b (recs xs) u er) ∧ e = .returned (.tuple #[.slice B xs.length d, .int .i64 u, .int .i64 er]) ∧
      OwnRecs w.heap.size w' B d xs ∧ Ab w w' := by
  by_cases h20 : 20000 < b.length
  · go_enter Try.func65, Try.ntmps65
    go_wp2
    go_ret3
    exact ⟨none, 0, [], 0, 4, Lib.hid (.inl ⟨h20, rfl, rfl, rfl⟩), rfl, OwnRecs.nil, (by repeat (first | with_reducible exact Ab.refl _ | with_reducible assumption | with_reducible refine Ab.drew ?_ | with_reducible refine Ab.drewN ?_ _ | with_reducible refine Ab.alloc ?_ _ | with_reducible refine Ab.trans ?_ (by assumption) | with_reducible refine Ab.set ?_ (by first | (simp; done) | omega | (simp; omega)) _))⟩
  · have hle : b.length ≤ 20000 := by omega
    go_enter Try.func65, Try.ntmps65
    go_wp2
    go_loopw [5, 6] (fun f t wr => ∃ (B : Option Addr) (d : Nat) (xs : List RecM) (u : Nat), f = .slice B xs.length d ∧ t = .int .i64 u ∧ Hid (Along b (recs xs) u) ∧ OwnRecs w.heap.size wr B d xs ∧ Ab w wr ∧ 12 * xs.length ≤ u) (fun _ t _ => b.length - (intOf t).toNat)
    case atStart => exact ⟨none, 0, [], 0, rfl, rfl, Lib.hid (Along.nil b), OwnRecs.nil, Ab.refl _, Nat.le_refl _⟩
    case round =>
      obtain ⟨B, d, xs, u, rfl, rfl, hA, ho, hb', h12⟩ := hrel
      have hu := hA.out.le
      have hs := fun w => run_cut u .i64 A b.length c w hu
      have G0 : ∀ w', Ab w w' → Calls Try.prog 77 #[.slice (cutA A c u) (b.length - u) (c - u)] w' (GotRec w' (b.drop u)) := fun w' h => by
        have := get_any (cutA A c u) (b.drop u) (c - u) w' ((hb.ab h).cut u c hc) (by simp; omega) (by simp; omega)
        rw [List.length_drop] at this
        exact this
      go_wp2_with fail
      refine (G0 _ (by repeat (first | with_reducible exact Ab.refl _ | with_reducible assumption | with_reducible refine Ab.drew ?_ | with_reducible refine Ab.drewN ?_ _ | with_reducible refine Ab.alloc ?_ _ | with_reducible refine Ab.trans ?_ (by assumption) | with_reducible refine Ab.set ?_ (by first | (simp; done) | omega | (simp; omega)) _))).mono ?_
      rintro e w1 ⟨x, ok, rfl, hP, hN, hL, hb1, hx1⟩
      have HW := ho.ab hb1
      cases ok with
      | false =>
        go_wp2_with fail
        go_quiet (fail)
        go_wp2
        go_ret3
        exact ⟨B, d, xs, u, 0, Lib.hid (.inr ⟨hle, rfl, u, rfl, hA.out.stop (fun r hr => absurd hr (hN.out (by trivial) r))⟩), rfl, HW.ab (by repeat (first | with_reducible exact Ab.refl _ | with_reducible assumption | with_reducible refine Ab.drew ?_ | with_reducible refine Ab.drewN ?_ _ | with_reducible refine Ab.alloc ?_ _ | with_reducible refine Ab.trans ?_ (by assumption) | with_reducible refine Ab.set ?_ (by first | (simp; done) | omega | (simp; omega)) _)), (by repeat (first | with_reducible exact Ab.refl _ | with_reducible assumption | with_reducible refine Ab.drew ?_ | with_reducible refine Ab.drewN ?_ _ | with_reducible refine Ab.alloc ?_ _ | with_reducible refine Ab.trans ?_ (by assumption) | with_reducible refine Ab.set ?_ (by first | (simp; done) | omega | (simp; omega)) _))⟩
      | true =>
        have HP := Lib.hid (hP.out (by trivial))
        clear hP hN hs G0
        have hroom : u + (12 + x.b.length) ≤ b.length := by
          have h1 : 12 + x.b.length ≤ (b.drop u).length := (Frame.pre_facts HP.out).1
          rw [List.length_drop] at h1; omega
        have hrg := ho.1.rng
        have hxA : ∀ p q, B = some p → x.A = some q → 0 < x.b.length → q.block ≠ p.block := fun p q hp hq hl => by
          obtain ⟨ad, h1, h2, _⟩ := hL.1 hl
          rw [hq] at h1
          obtain rfl := Option.some.inj h1
          have := (hrg p hp).2
          omega
        have hsz := hb'.size
        have hsz1 := hb1.size
        have hL0 : Laid w1 w.heap.size x := hL.mono hsz
        have hrow : ∀ g, B.map (·.block) = some g → w.heap.size ≤ g := fun g hg => by
          obtain ⟨a, ha, rfl⟩ := map_blk hg
          exact (hrg a ha).1
        have hfar : ∀ a, B = some a → a.block ≠ w1.heap.size := fun a ha => by have := (hrg a ha).2; omega
        go_wp2_with fail
        have hb2 : Ab w1 (w1.alloc (.cells #[.int .i64 x.num, .slice x.A x.b.length x.c] 72)) := (by repeat (first | with_reducible exact Ab.refl _ | with_reducible assumption | with_reducible refine Ab.drew ?_ | with_reducible refine Ab.drewN ?_ _ | with_reducible refine Ab.alloc ?_ _ | with_reducible refine Ab.trans ?_ (by assumption) | with_reducible refine Ab.set ?_ (by first | (simp; done) | omega | (simp; omega)) _))
        have xq0 : (w1.alloc (.cells #[.int .i64 x.num, .slice x.A x.b.length x.c] 72)).cell? ⟨w1.heap.size, 0, none⟩ = some (.int .i64 x.num) := by simp [go_sem]
        have xq1 : (w1.alloc (.cells #[.int .i64 x.num, .slice x.A x.b.length x.c] 72)).cell? ⟨w1.heap.size, 1, none⟩ = some (.slice x.A x.b.length x.c) := by simp [go_sem]
        generalize (w1.alloc (.cells #[.int .i64 x.num, .slice x.A x.b.length x.c] 72)) = w2 at *
        by_cases hx0 : xs = []
        · have hnext := Lib.hid (show Frame.Next (recs xs) x.r by subst hx0; exact next_nil _)
          have hl0 : xs.length = 0 := by subst hx0; rfl
          go_quiet (fail)
          have hb3 : Ab w2 (w2.drewN nq) := (by repeat (first | with_reducible exact Ab.refl _ | with_reducible assumption | with_reducible refine Ab.drew ?_ | with_reducible refine Ab.drewN ?_ _ | with_reducible refine Ab.alloc ?_ _ | with_reducible refine Ab.trans ?_ (by assumption) | with_reducible refine Ab.set ?_ (by first | (simp; done) | omega | (simp; omega)) _))
          generalize (w2.drewN nq) = w3 at *
          replace xq0 := hb3.at xq0
          replace xq1 := hb3.at xq1
          have hHW := HW.ab (hb2.trans hb3)
          have hLW := hL0.ab (hb2.trans hb3)
          have hbW : Ab w w3 := (by repeat (first | with_reducible exact Ab.refl _ | with_reducible assumption | with_reducible refine Ab.drew ?_ | with_reducible refine Ab.drewN ?_ _ | with_reducible refine Ab.alloc ?_ _ | with_reducible refine Ab.trans ?_ (by assumption) | with_reducible refine Ab.set ?_ (by first | (simp; done) | omega | (simp; omega)) _))
          have hsz3 := (hb2.trans hb3).size
          go_wp2_with ((at_builtin
                        refine listAppR (x := x) (fr := (0, 0)) rfl _ _ rfl rfl rfl (hHW.ab (by repeat (first | with_reducible exact Ab.refl _ | with_reducible assumption | with_reducible refine Ab.drew ?_ | with_reducible refine Ab.drewN ?_ _ | with_reducible refine Ab.alloc ?_ _ | with_reducible refine Ab.trans ?_ (by assumption) | with_reducible refine Ab.set ?_ (by first | (simp; done) | omega | (simp; omega)) _))) (by first | (simp; done) | omega | (simp; omega)) (by (repeat (first | exact new_plain (by first | (simp; done) | omega | (simp; omega)) | with_reducible refine old_alloc ?_ | with_reducible refine old_drew ?_ | with_reducible refine old_set ?_ (by first | (simp; done) | omega | (simp; omega)) | with_reducible refine old_ab (by assumption) ?_))) (hLW.ab (by repeat (first | with_reducible exact Ab.refl _ | with_reducible assumption | with_reducible refine Ab.drew ?_ | with_reducible refine Ab.drewN ?_ _ | with_reducible refine Ab.alloc ?_ _ | with_reducible refine Ab.trans ?_ (by assumption) | with_reducible refine Ab.set ?_ (by first | (simp; done) | omega | (simp; omega)) _))) hxA (by omega) ?_
                        intro g' c' w4 ys hys hown hgr hgk
                        have xr1 := grown_cell (b := w1.heap.size) (o := 1) (v := .slice x.A x.b.length x.c) hgr (by (repeat (first | with_reducible assumption | (simp [go_sem]; done) | with_reducible apply cell_alloc | with_reducible apply cell_drew | with_reducible apply cell_drewN | (with_reducible apply Ab.at; with_reducible assumption) | (with_reducible refine cell_set ?_ ?_; rotate_left; focus (first | (simp; done) | (simp; omega))) | (with_reducible refine cell_setb ?_ ?_; rotate_left; focus (first | omega | (simp only; omega) | (simp; omega)))))) hfar
                        have hbZ : Ab w w4 := grown_ab (hbW.alloc _) hgr hrow))
          go_roundw
          case rel => exact ⟨some ⟨g', 0, none⟩, c', ys, u + (12 + x.b.length), rfl, by go_num, Lib.hid (by rw [hys.out, recs_append]; exact hA.out.snoc HP.out hnext.out), hown, hbZ, by rw [hys.out, List.length_append]; simp; omega⟩
          case measure => simp only [intOf]; omega
        · obtain ⟨k, hk⟩ : ∃ k, xs.length = k + 1 := ⟨xs.length - 1, by have := List.length_pos_iff.2 hx0; omega⟩
          have hk3 : k < xs.length := by omega
          have hni := Lib.hid (next_iff xs k hk x.r)
          have hvk := (hA.out.1 k (by rw [recs_length]; omega)).1
          rw [recs_get xs k (by omega)] at hvk
          obtain ⟨a, hBa, _, c0, _, _⟩ := (HW.ab hb2).recs.at_ hk3
          have hy1 := hvk.1
          have hy2 := hvk.2.1
          change 0 ≤ xs[k].num at hy1
          change xs[k].num ≤ 1000000000 at hy2
          clear hvk
          generalize xs[k].num = y at *
          have hsum : IntKind.i64.wrap (y + 1) = y + 1 := IntWalk.i64_in _ (by omega)
          have hidx : IntKind.i64.wrap ((xs.length : Int) - 1) = (k : Int) := by rw [IntWalk.i64_in _ (by omega)]; omega
          have hp0 : (0 : Int) < (xs.length : Int) := by omega
          have hp1 : 0 < xs.length := by omega
          have hk1 : (k : Int) < (xs.length : Int) := by omega
          have hk2 : (0 : Int) ≤ (k : Int) := by omega
          have hk' := Nat.le_of_eq hk
          have hkn := Lib.hid hk
          clear hk
          by_cases hnx : x.num = y + 1
          · have hnext := Lib.hid (hni.out.2 hnx)
            subst hBa
            go_quiet (fail)
            clear hsum hidx hnx
            have hb3 : Ab w2 (w2.drewN nq) := (by repeat (first | with_reducible exact Ab.refl _ | with_reducible assumption | with_reducible refine Ab.drew ?_ | with_reducible refine Ab.drewN ?_ _ | with_reducible refine Ab.alloc ?_ _ | with_reducible refine Ab.trans ?_ (by assumption) | with_reducible refine Ab.set ?_ (by first | (simp; done) | omega | (simp; omega)) _))
            generalize (w2.drewN nq) = w3 at *
            replace xq0 := hb3.at xq0
            replace xq1 := hb3.at xq1
            have hHW := HW.ab (hb2.trans hb3)
            have hLW := hL0.ab (hb2.trans hb3)
            have hbW : Ab w w3 := (by repeat (first | with_reducible exact Ab.refl _ | with_reducible assumption | with_reducible refine Ab.drew ?_ | with_reducible refine Ab.drewN ?_ _ | with_reducible refine Ab.alloc ?_ _ | with_reducible refine Ab.trans ?_ (by assumption) | with_reducible refine Ab.set ?_ (by first | (simp; done) | omega | (simp; omega)) _))
            have hsz3 := (hb2.trans hb3).size
            go_wp2_with ((at_builtin
                          refine listAppR (x := x) (fr := (0, 0)) rfl _ _ rfl rfl rfl (hHW.ab (by repeat (first | with_reducible exact Ab.refl _ | with_reducible assumption | with_reducible refine Ab.drew ?_ | with_reducible refine Ab.drewN ?_ _ | with_reducible refine Ab.alloc ?_ _ | with_reducible refine Ab.trans ?_ (by assumption) | with_reducible refine Ab.set ?_ (by first | (simp; done) | omega | (simp; omega)) _))) (by first | (simp; done) | omega | (simp; omega)) (by (repeat (first | exact new_plain (by first | (simp; done) | omega | (simp; omega)) | with_reducible refine old_alloc ?_ | with_reducible refine old_drew ?_ | with_reducible refine old_set ?_ (by first | (simp; done) | omega | (simp; omega)) | with_reducible refine old_ab (by assumption) ?_))) (hLW.ab (by repeat (first | with_reducible exact Ab.refl _ | with_reducible assumption | with_reducible refine Ab.drew ?_ | with_reducible refine Ab.drewN ?_ _ | with_reducible refine Ab.alloc ?_ _ | with_reducible refine Ab.trans ?_ (by assumption) | with_reducible refine Ab.set ?_ (by first | (simp; done) | omega | (simp; omega)) _))) hxA (by omega) ?_
                          intro g' c' w4 ys hys hown hgr hgk
                          have xr1 := grown_cell (b := w1.heap.size) (o := 1) (v := .slice x.A x.b.length x.c) hgr (by (repeat (first | with_reducible assumption | (simp [go_sem]; done) | with_reducible apply cell_alloc | with_reducible apply cell_drew | with_reducible apply cell_drewN | (with_reducible apply Ab.at; with_reducible assumption) | (with_reducible refine cell_set ?_ ?_; rotate_left; focus (first | (simp; done) | (simp; omega))) | (with_reducible refine cell_setb ?_ ?_; rotate_left; focus (first | omega | (simp only; omega) | (simp; omega)))))) hfar
                          have hbZ : Ab w w4 := grown_ab (hbW.alloc _) hgr hrow))
            go_roundw
            case rel => exact ⟨some ⟨g', 0, none⟩, c', ys, u + (12 + x.b.length), rfl, by go_num, Lib.hid (by rw [hys.out, recs_append]; exact hA.out.snoc HP.out hnext.out), hown, hbZ, by rw [hys.out, List.length_append]; simp; omega⟩
            case measure => simp only [intOf]; omega
          · have hnn : Hid (¬ Frame.Next (recs xs) x.r) := Lib.hid (fun h => hnx (hni.out.1 h))
            subst hBa
            go_quiet (fail)
            clear hsum hidx
            go_wp2
            go_ret3
            exact ⟨_, d, xs, u, 0, Lib.hid (.inr ⟨hle, rfl, u, rfl, hA.out.stop (fun r hr => by rw [← Frame.pre_unique HP.out hr]; exact hnn.out)⟩), rfl, HW.ab (by repeat (first | with_reducible exact Ab.refl _ | with_reducible assumption | with_reducible refine Ab.drew ?_ | with_reducible refine Ab.drewN ?_ _ | with_reducible refine Ab.alloc ?_ _ | with_reducible refine Ab.trans ?_ (by assumption) | with_reducible refine Ab.set ?_ (by first | (simp; done) | omega | (simp; omega)) _)), (by repeat (first | with_reducible exact Ab.refl _ | with_reducible assumption | with_reducible refine Ab.drew ?_ | with_reducible refine Ab.drewN ?_ _ | with_reducible refine Ab.alloc ?_ _ | with_reducible refine Ab.trans ?_ (by assumption) | with_reducible refine Ab.set ?_ (by first | (simp; done) | omega | (simp; omega)) _))⟩
end Go.Proofs.Ytehagdpcegpbjaa
