/- WalOpens, walked: its beginning. Own work. -/
import Derived.Test.YtehagdpcegpbjaaWFunD
import Derived.Test.YtehagdpcegpbjaaWFunA
import Derived.Test.YtehagdpcegpbjaaWRefE
import Derived.Test.YtehagdpcegpbjaaWRefB
set_option linter.unusedVariables false
set_option linter.unusedSimpArgs false
namespace Go.Proofs.Ytehagdpcegpbjaa
open Go.RowKit

theorem bcell {W w1 : World} (hb : Ab W w1) : (∀ b o, b < W.heap.size → w1.cell? ⟨b, o, none⟩ = W.cell? ⟨b, o, none⟩) ∧ (∀ b o, b < W.heap.size → w1.frozen? ⟨b, o, none⟩ = W.frozen? ⟨b, o, none⟩) :=
  ⟨fun b o h => hb.out.cell (p := ⟨b, o, none⟩) h, fun b o h => hb.out.frozen (p := ⟨b, o, none⟩) h⟩
theorem cells4 {W w' : World} {b : Nat} {v0 v1 v2 v3 : Value} (hb : Ab W w') (h : W.cell? ⟨b, 0, none⟩ = some v0 ∧ W.cell? ⟨b, 1, none⟩ = some v1 ∧ W.cell? ⟨b, 2, none⟩ = some v2 ∧ W.cell? ⟨b, 3, none⟩ = some v3) :
    w'.cell? ⟨b, 0, none⟩ = some v0 ∧ w'.cell? ⟨b, 1, none⟩ = some v1 ∧ w'.cell? ⟨b, 2, none⟩ = some v2 ∧ w'.cell? ⟨b, 3, none⟩ = some v3 :=
  ⟨hb.at h.1, hb.at h.2.1, hb.at h.2.2.1, hb.at h.2.2.2⟩
theorem RB.ne {w : World} {D : Option Addr} {l : List UInt8} (h : RB w 0 D l) {p : Addr} (hp : ∀ a, D = some a → a.block ≠ p.block) (u : Value) : RB (w.setCell p u) 0 D l := by
  intro hl
  obtain ⟨ad, h1, h2, h3⟩ := h hl
  refine ⟨ad, h1, h2, fun i hi => cell_setb (h3 i hi) ?_⟩
  rw [addr_add_block]
  exact hp ad h1

theorem RB.drewW {w : World} {D : Option Addr} {l : List UInt8} (h : RB w 0 D l) : RB w.drew 0 D l := h
theorem RB.allocW {w : World} {D : Option Addr} {l : List UInt8} (h : RB w 0 D l) (o : Obj) : RB (w.alloc o) 0 D l := h.ab ((Ab.refl w).alloc o)
theorem open_len {d : Disk.Dev} {m : Int} {rs : List Frame.Rec} {u : Nat} {r : Wal.Log} {er : Int} (h : (r, er) = Wal.open_ d m rs u) (h1 : d.s.length ≤ 2000) (h2 : d.t.length ≤ 2000) : r.dev.s.length ≤ 4000000 ∧ r.dev.t.length ≤ 4000000 := by
  have e := (congrArg Prod.fst h : r = _)
  subst e
  unfold Wal.open_
  split
  · simp [Wal.zero, Disk.zero]
  · split
    · simp [Wal.zero, Disk.zero]
    · split
      · simp
      · simp only [List.length_take, List.length_append, List.length_nil]; omega
theorem crash_len {l : Wal.Log} {k : Int} {g : Option (List Frame.Rec)} {r : Disk.Dev} {er : Int} (h : (r, er) = Wal.crash l k g) (h1 : l.dev.s.length ≤ 2000) (h2 : l.dev.t.length ≤ 2000) : r.s.length ≤ 4000000 ∧ r.t.length ≤ 4000000 := by
  have e := (congrArg Prod.fst h : r = _)
  subst e
  unfold Wal.crash
  cases g with
  | none => simp [Disk.zero]
  | some rs =>
    simp only
    unfold Disk.crash
    split
    · simp [Disk.zero]
    · split
      · simp [Disk.zero]
      · simp only [List.length_append, List.length_take, List.length_nil]; omega

/-- The copies of the log and of the device lie in two variables; w2 is the world before. -/
def TwCut (w2 : World) (s t : List UInt8) (cap : Int) (dn : Bool) (f n : Int) (s' t' : List UInt8) (cap' : Int) (dn' : Bool) (v9 v10 : Value) (wx : World) : Prop :=
  ∃ (P Q : Nat) (D E F G : Option Addr) (cd ce cf cg : Nat), v9 = .pointer (some ⟨P, 0, none⟩) ∧ v10 = .pointer (some ⟨Q, 0, none⟩) ∧
    (wx.cell? ⟨P, 0, none⟩ = some (.slice D s.length cd) ∧ wx.cell? ⟨P, 1, none⟩ = some (.slice E t.length ce) ∧ wx.cell? ⟨P, 2, none⟩ = some (.int .i64 cap) ∧ wx.cell? ⟨P, 3, none⟩ = some (.bool dn) ∧ wx.cell? ⟨P, 4, none⟩ = some (.int .i64 f) ∧ wx.cell? ⟨P, 5, none⟩ = some (.int .i64 n)) ∧
    (wx.cell? ⟨Q, 0, none⟩ = some (.slice F s'.length cf) ∧ wx.cell? ⟨Q, 1, none⟩ = some (.slice G t'.length cg) ∧ wx.cell? ⟨Q, 2, none⟩ = some (.int .i64 cap') ∧ wx.cell? ⟨Q, 3, none⟩ = some (.bool dn')) ∧
    (RB wx 0 D s ∧ RB wx 0 E t ∧ RB wx 0 F s' ∧ RB wx 0 G t') ∧ (s.length ≤ cd ∧ t.length ≤ ce ∧ s'.length ≤ cf ∧ t'.length ≤ cg) ∧ Ab w2 wx

set_option maxRecDepth 100000 in
set_option maxHeartbeats 6400000 in
theorem wopens_walk (A B : Option Addr) (ca cb : Nat) (s t : List UInt8) (cap : Int) (dn : Bool) (f n : Int) (w : World) (hs : RB w 0 A s) (ht : RB w 0 B t) (hca : s.length ≤ ca) (hcb : t.length ≤ cb) (ls : s.length ≤ 9223372036854775807) (lt : t.length ≤ 9223372036854775807) (A' B' : Option Addr) (ca' cb' : Nat) (s' t' : List UInt8) (cap' : Int) (dn' : Bool) (hs' : RB w 0 A' s') (ht' : RB w 0 B' t') (hca' : s'.length ≤ ca') (hcb' : t'.length ≤ cb')
    (ls' : s'.length ≤ 9223372036854775807) (lt' : t'.length ≤ 9223372036854775807) (m k : Int) :
    Calls Try.prog 4 #[.agg #[.slice A s.length ca, .slice B t.length cb, .int .i64 cap, .bool dn, .int .i64 f, .int .i64 n], .agg #[.slice A' s'.length ca', .slice B' t'.length cb', .int .i64 cap', .bool dn'], .int .i64 m, .int .i64 k] w fun e w' => e = .returned (.bool true) ∧ Ab w w' := by
  cases hg : great4B s.length t.length
  · obtain ⟨hl1, hl2⟩ := great4B_false hg
    have HG := Lib.hid hg; clear hg
    cases hg' : great4B s'.length t'.length
    · obtain ⟨hl1', hl2'⟩ := great4B_false hg'
      have HG' := Lib.hid hg'; clear hg'
      obtain ⟨g, hi⟩ := Wal.is_exists ⟨⟨s, t, cap, dn⟩, f, n⟩
      obtain ⟨rs, u, hsc⟩ := Wal.scan_exists (s' ++ t')
      have HI := Lib.hid hi
      have HSC := Lib.hid hsc
      clear hi hsc
      go_enter Try.func4, Try.ntmps4
      go_wp2_with fail
      refine (great4_any A B ca cb s t cap dn _ ls lt).mono ?_
      rintro e w1 ⟨rfl, hb1⟩
      rw [HG.out]
      obtain ⟨bq0, bq1, bq2, bq3, bq4, bq5⟩ := cells6 hb1 (b := w.heap.size) (v0 := .slice A s.length ca) (v1 := .slice B t.length cb) (v2 := .int .i64 cap) (v3 := .bool dn) (v4 := .int .i64 f) (v5 := .int .i64 n) (by first | (simp [go_sem]; done) | (refine ⟨?_, ?_, ?_, ?_, ?_, ?_⟩ <;> assumption))
      have dq0 := hb1.at (p := ⟨w.heap.size + 1, 0, none⟩) (v := .slice A' s'.length ca') (by (repeat (first | with_reducible assumption | (simp [go_sem]; done) | with_reducible apply cell_alloc | with_reducible apply cell_drew | with_reducible apply cell_drewN | (with_reducible apply Ab.at; with_reducible assumption) | (with_reducible refine cell_set ?_ ?_; rotate_left; focus (first | (simp; done) | (simp; omega))) | (with_reducible refine cell_setb ?_ ?_; rotate_left; focus (first | omega | (simp only; omega) | (simp; omega)))))); have dq1 := hb1.at (p := ⟨w.heap.size + 1, 1, none⟩) (v := .slice B' t'.length cb') (by (repeat (first | with_reducible assumption | (simp [go_sem]; done) | with_reducible apply cell_alloc | with_reducible apply cell_drew | with_reducible apply cell_drewN | (with_reducible apply Ab.at; with_reducible assumption) | (with_reducible refine cell_set ?_ ?_; rotate_left; focus (first | (simp; done) | (simp; omega))) | (with_reducible refine cell_setb ?_ ?_; rotate_left; focus (first | omega | (simp only; omega) | (simp; omega)))))); have dq2 := hb1.at (p := ⟨w.heap.size + 1, 2, none⟩) (v := .int .i64 cap') (by (repeat (first | with_reducible assumption | (simp [go_sem]; done) | with_reducible apply cell_alloc | with_reducible apply cell_drew | with_reducible apply cell_drewN | (with_reducible apply Ab.at; with_reducible assumption) | (with_reducible refine cell_set ?_ ?_; rotate_left; focus (first | (simp; done) | (simp; omega))) | (with_reducible refine cell_setb ?_ ?_; rotate_left; focus (first | omega | (simp only; omega) | (simp; omega)))))); have dq3 := hb1.at (p := ⟨w.heap.size + 1, 3, none⟩) (v := .bool dn') (by (repeat (first | with_reducible assumption | (simp [go_sem]; done) | with_reducible apply cell_alloc | with_reducible apply cell_drew | with_reducible apply cell_drewN | (with_reducible apply Ab.at; with_reducible assumption) | (with_reducible refine cell_set ?_ ?_; rotate_left; focus (first | (simp; done) | (simp; omega))) | (with_reducible refine cell_setb ?_ ?_; rotate_left; focus (first | omega | (simp only; omega) | (simp; omega))))))
      go_wp2_with fail
      refine (great4_any A' B' ca' cb' s' t' cap' dn' _ ls' lt').mono ?_
      rintro e w2 ⟨rfl, hb2⟩
      rw [HG'.out]
      have hz2 : Ab ((w.alloc (.cells #[.slice A s.length ca, .slice B t.length cb, .int .i64 cap, .bool dn, .int .i64 f, .int .i64 n] 26)).alloc (.cells #[.slice A' s'.length ca', .slice B' t'.length cb', .int .i64 cap', .bool dn'] 24)) w2 := (by repeat (first | with_reducible exact Ab.refl _ | with_reducible assumption | with_reducible refine Ab.drew ?_ | with_reducible refine Ab.drewN ?_ _ | with_reducible refine Ab.alloc ?_ _ | with_reducible refine Ab.trans ?_ (by assumption) | with_reducible refine Ab.set ?_ (by first | (simp; done) | omega | (simp; omega)) _))
      obtain ⟨bq0, bq1, bq2, bq3, bq4, bq5⟩ := cells6 hz2 (b := w.heap.size) (v0 := .slice A s.length ca) (v1 := .slice B t.length cb) (v2 := .int .i64 cap) (v3 := .bool dn) (v4 := .int .i64 f) (v5 := .int .i64 n) (by first | (simp [go_sem]; done) | (refine ⟨?_, ?_, ?_, ?_, ?_, ?_⟩ <;> assumption))
      have dq0 := hz2.at (p := ⟨w.heap.size + 1, 0, none⟩) (v := .slice A' s'.length ca') (by (repeat (first | with_reducible assumption | (simp [go_sem]; done) | with_reducible apply cell_alloc | with_reducible apply cell_drew | with_reducible apply cell_drewN | (with_reducible apply Ab.at; with_reducible assumption) | (with_reducible refine cell_set ?_ ?_; rotate_left; focus (first | (simp; done) | (simp; omega))) | (with_reducible refine cell_setb ?_ ?_; rotate_left; focus (first | omega | (simp only; omega) | (simp; omega)))))); have dq1 := hz2.at (p := ⟨w.heap.size + 1, 1, none⟩) (v := .slice B' t'.length cb') (by (repeat (first | with_reducible assumption | (simp [go_sem]; done) | with_reducible apply cell_alloc | with_reducible apply cell_drew | with_reducible apply cell_drewN | (with_reducible apply Ab.at; with_reducible assumption) | (with_reducible refine cell_set ?_ ?_; rotate_left; focus (first | (simp; done) | (simp; omega))) | (with_reducible refine cell_setb ?_ ?_; rotate_left; focus (first | omega | (simp only; omega) | (simp; omega)))))); have dq2 := hz2.at (p := ⟨w.heap.size + 1, 2, none⟩) (v := .int .i64 cap') (by (repeat (first | with_reducible assumption | (simp [go_sem]; done) | with_reducible apply cell_alloc | with_reducible apply cell_drew | with_reducible apply cell_drewN | (with_reducible apply Ab.at; with_reducible assumption) | (with_reducible refine cell_set ?_ ?_; rotate_left; focus (first | (simp; done) | (simp; omega))) | (with_reducible refine cell_setb ?_ ?_; rotate_left; focus (first | omega | (simp only; omega) | (simp; omega)))))); have dq3 := hz2.at (p := ⟨w.heap.size + 1, 3, none⟩) (v := .bool dn') (by (repeat (first | with_reducible assumption | (simp [go_sem]; done) | with_reducible apply cell_alloc | with_reducible apply cell_drew | with_reducible apply cell_drewN | (with_reducible apply Ab.at; with_reducible assumption) | (with_reducible refine cell_set ?_ ?_; rotate_left; focus (first | (simp; done) | (simp; omega))) | (with_reducible refine cell_setb ?_ ?_; rotate_left; focus (first | omega | (simp only; omega) | (simp; omega))))))
      have z2 := hz2.size
      simp at z2
      go_upto_region 3 with fail
      go_cut [9, 10] (fun v9 v10 wx => TwCut w2 s t cap dn f n s' t' cap' dn' v9 v10 wx)
      case first =>
        refine wp_region_held_drew (by kernel_rfl) (S := fun w' => (w'.cell? ⟨w.heap.size, 0, none⟩ = some (.slice A s.length ca) ∧ w'.cell? ⟨w.heap.size, 1, none⟩ = some (.slice B t.length cb) ∧ w'.cell? ⟨w.heap.size, 2, none⟩ = some (.int .i64 cap) ∧ w'.cell? ⟨w.heap.size, 3, none⟩ = some (.bool dn) ∧ w'.cell? ⟨w.heap.size, 4, none⟩ = some (.int .i64 f) ∧ w'.cell? ⟨w.heap.size, 5, none⟩ = some (.int .i64 n)) ∧ w'.cell? ⟨w.heap.size + 1, 0, none⟩ = some (.slice A' s'.length ca') ∧ w'.cell? ⟨w.heap.size + 1, 1, none⟩ = some (.slice B' t'.length cb') ∧ w'.cell? ⟨w.heap.size + 1, 2, none⟩ = some (.int .i64 cap') ∧ w'.cell? ⟨w.heap.size + 1, 3, none⟩ = some (.bool dn')) ?_ (fun hHeld => ?_)
        · ((refine ⟨⟨?_, ?_, ?_, ?_, ?_, ?_⟩, ?_, ?_, ?_, ?_⟩ <;> (repeat (first | with_reducible assumption | (simp [go_sem]; done) | with_reducible apply cell_alloc | with_reducible apply cell_drew | with_reducible apply cell_drewN | (with_reducible apply Ab.at; with_reducible assumption) | (with_reducible refine cell_set ?_ ?_; rotate_left; focus (first | (simp; done) | (simp; omega))) | (with_reducible refine cell_setb ?_ ?_; rotate_left; focus (first | omega | (simp only; omega) | (simp; omega)))))))
        (refine wpAnyH_take (i := 0) (v := ?_) rfl (by kernel_rfl) (by kernel_rfl) (by kernel_rfl) (fun _ _ _ h => h) (Or.inl ⟨by kernel_rfl, ?_⟩) (by assumption) ?_
         rotate_left
         · (intro w hSw; (try dsimp only at hSw); go_simp; (try with_reducible rfl))
         (try simp only [Act.put, List.setIfInBounds_toArray, List.set_cons_zero, List.set_cons_succ]))
        (refine wpAnyH_take (i := 2) (v := ?_) rfl (by kernel_rfl) (by kernel_rfl) (by kernel_rfl) (fun _ _ _ h => h) (Or.inl ⟨by kernel_rfl, ?_⟩) (by assumption) ?_
         rotate_left
         · (intro w hSw; (try dsimp only at hSw); go_simp; (try with_reducible rfl))
         (try simp only [Act.put, List.setIfInBounds_toArray, List.set_cons_zero, List.set_cons_succ]))
        (refine wpAnyH_ready (rs := [1, 4, 5]) (by kernel_rfl) (by simp) ?_)
        refine AllReadyH.cons rfl (fun K hK => ?_) (AllReadyH.cons rfl (fun K hK => ?_) (AllReadyH.cons rfl (fun K hK => ?_) (AllReadyH.nil)))
        · (go_simp
           ((go_at_call 22)
            refine (ltwin_any A B ca cb s t cap dn f n _ (hs.ab (by repeat (first | with_reducible exact Ab.refl _ | with_reducible assumption | with_reducible refine Ab.drew ?_ | with_reducible refine Ab.drewN ?_ _ | with_reducible refine Ab.alloc ?_ _ | with_reducible refine Ab.trans ?_ (by assumption) | with_reducible refine Ab.set ?_ (by first | (simp; done) | omega | (simp; omega)) _))) (ht.ab (by repeat (first | with_reducible exact Ab.refl _ | with_reducible assumption | with_reducible refine Ab.drew ?_ | with_reducible refine Ab.drewN ?_ _ | with_reducible refine Ab.alloc ?_ _ | with_reducible refine Ab.trans ?_ (by assumption) | with_reducible refine Ab.set ?_ (by first | (simp; done) | omega | (simp; omega)) _))) hca hcb (by omega) (by omega)).mono ?_
            rintro e wt ⟨r, D, E, cd, ce, er, rfl, o1, o2, hbt⟩
            obtain rfl : r = ⟨⟨s, t, cap, dn⟩, f, n⟩ := er.out
            clear er
            simp only at o1 o2
            (try simp only)
            have lD := o1.le
            have lE := o2.le
            have rD : ∀ a, D = some a → w2.heap.size ≤ a.block ∧ a.block < wt.heap.size := fun a ha => by have h := o1.rng a ha; (try simp at h); exact h
            have rE : ∀ a, E = some a → w2.heap.size ≤ a.block ∧ a.block < wt.heap.size := fun a ha => by have h := o2.rng a ha; (try simp at h); exact h
            have zt := hbt.size
            (try simp at zt)
            skip)
           (try go_wp2_with fail)
           (refine hK.out _ _ ?_ (fun hHeld => ?_)
            · (try dsimp only); ((refine ⟨⟨?_, ?_, ?_, ?_, ?_, ?_⟩, ?_, ?_, ?_, ?_⟩ <;> (repeat (first | with_reducible assumption | (simp [go_sem]; done) | with_reducible apply cell_alloc | with_reducible apply cell_drew | with_reducible apply cell_drewN | (with_reducible apply Ab.at; with_reducible assumption) | (with_reducible refine cell_set ?_ ?_; rotate_left; focus (first | (simp; done) | (simp; omega))) | (with_reducible refine cell_setb ?_ ?_; rotate_left; focus (first | omega | (simp only; omega) | (simp; omega)))))))
            clear hK K
            (try simp only [Act.put, List.setIfInBounds_toArray, List.set_cons_zero, List.set_cons_succ])))
          (refine wpAnyH_ready (rs := [3, 4, 5]) (by kernel_rfl) (by simp) ?_)
          refine AllReadyH.cons rfl (fun K hK => ?_) (AllReadyH.cons rfl (fun K hK => ?_) (AllReadyH.cons rfl (fun K hK => ?_) (AllReadyH.nil)))
          · (go_simp
             ((go_at_call 23)
              refine (twin_any A' B' ca' cb' s' t' cap' dn' _ (hs'.ab (by repeat (first | with_reducible exact Ab.refl _ | with_reducible assumption | with_reducible refine Ab.drew ?_ | with_reducible refine Ab.drewN ?_ _ | with_reducible refine Ab.alloc ?_ _ | with_reducible refine Ab.trans ?_ (by assumption) | with_reducible refine Ab.set ?_ (by first | (simp; done) | omega | (simp; omega)) _))) (ht'.ab (by repeat (first | with_reducible exact Ab.refl _ | with_reducible assumption | with_reducible refine Ab.drew ?_ | with_reducible refine Ab.drewN ?_ _ | with_reducible refine Ab.alloc ?_ _ | with_reducible refine Ab.trans ?_ (by assumption) | with_reducible refine Ab.set ?_ (by first | (simp; done) | omega | (simp; omega)) _))) hca' hcb' (by omega) (by omega)).mono ?_
              rintro e wu ⟨r', F, G, cf, cg, er', rfl, o3, o4, hbu⟩
              obtain rfl : r' = ⟨s', t', cap', dn'⟩ := er'.out
              clear er'
              simp only at o3 o4
              (try simp only)
              have lF := o3.le
              have lG := o4.le
              have rF : ∀ a, F = some a → wt.heap.size ≤ a.block ∧ a.block < wu.heap.size := fun a ha => by have h := o3.rng a ha; (try simp at h); exact h
              have rG : ∀ a, G = some a → wt.heap.size ≤ a.block ∧ a.block < wu.heap.size := fun a ha => by have h := o4.rng a ha; (try simp at h); exact h
              have zu := hbu.size
              (try simp at zu)
              have hbtu : Ab wt wu := (by repeat (first | with_reducible exact Ab.refl _ | with_reducible assumption | with_reducible refine Ab.drew ?_ | with_reducible refine Ab.drewN ?_ _ | with_reducible refine Ab.alloc ?_ _ | with_reducible refine Ab.trans ?_ (by assumption) | with_reducible refine Ab.set ?_ (by first | (simp; done) | omega | (simp; omega)) _))
              have c1 : RB wu 0 D s := o1.rb.zero.ab hbtu
              have c2 : RB wu 0 E t := o2.rb.zero.ab hbtu
              have c3 : RB wu 0 F s' := o3.rb.zero
              have c4 : RB wu 0 G t' := o4.rb.zero
              skip)
             (try go_wp2_with fail)
             (refine hK.out _ _ ?_ (fun hHeld => ?_)
              · (try dsimp only); ((refine ⟨⟨?_, ?_, ?_, ?_, ?_, ?_⟩, ?_, ?_, ?_, ?_⟩ <;> (repeat (first | with_reducible assumption | (simp [go_sem]; done) | with_reducible apply cell_alloc | with_reducible apply cell_drew | with_reducible apply cell_drewN | (with_reducible apply Ab.at; with_reducible assumption) | (with_reducible refine cell_set ?_ ?_; rotate_left; focus (first | (simp; done) | (simp; omega))) | (with_reducible refine cell_setb ?_ ?_; rotate_left; focus (first | omega | (simp only; omega) | (simp; omega)))))))
              clear hK K
              (try simp only [Act.put, List.setIfInBounds_toArray, List.set_cons_zero, List.set_cons_succ])))
            (refine wpAnyH_ready (rs := [4, 5]) (by kernel_rfl) (by simp) ?_)
            refine AllReadyH.cons rfl (fun K hK => ?_) (AllReadyH.cons rfl (fun K hK => ?_) (AllReadyH.nil))
            · (go_simp
               (refine hK.out _ _ ?_ (fun hHeld => ?_)
                · (try dsimp only); ((refine ⟨⟨?_, ?_, ?_, ?_, ?_, ?_⟩, ?_, ?_, ?_, ?_⟩ <;> (repeat (first | with_reducible assumption | (simp [go_sem]; done) | with_reducible apply cell_alloc | with_reducible apply cell_drew | with_reducible apply cell_drewN | (with_reducible apply Ab.at; with_reducible assumption) | (with_reducible refine cell_set ?_ ?_; rotate_left; focus (first | (simp; done) | (simp; omega))) | (with_reducible refine cell_setb ?_ ?_; rotate_left; focus (first | omega | (simp only; omega) | (simp; omega)))))))
                clear hK K
                (try simp only [Act.put, List.setIfInBounds_toArray, List.set_cons_zero, List.set_cons_succ])))
              (refine wpAnyH_ready (rs := [5]) (by kernel_rfl) (by simp) ?_)
              refine AllReadyH.cons rfl (fun K hK => ?_) AllReadyH.nil
              (go_simp
               (refine hK.out _ _ ?_ (fun hHeld => ?_)
                · (try dsimp only); ((refine ⟨⟨?_, ?_, ?_, ?_, ?_, ?_⟩, ?_, ?_, ?_, ?_⟩ <;> (repeat (first | with_reducible assumption | (simp [go_sem]; done) | with_reducible apply cell_alloc | with_reducible apply cell_drew | with_reducible apply cell_drewN | (with_reducible apply Ab.at; with_reducible assumption) | (with_reducible refine cell_set ?_ ?_; rotate_left; focus (first | (simp; done) | (simp; omega))) | (with_reducible refine cell_setb ?_ ?_; rotate_left; focus (first | omega | (simp only; omega) | (simp; omega)))))))
                clear hK K
                (try simp only [Act.put, List.setIfInBounds_toArray, List.set_cons_zero, List.set_cons_succ])))
              (refine wpAnyH_ready (rs := [6]) (by kernel_rfl) (by simp) ?_)
              refine AllReadyH.cons rfl (fun K hK => ?_) AllReadyH.nil
              (go_simp
               (refine hK.out _ _ ?_ (fun hHeld => ?_)
                · (try dsimp only); ((refine ⟨⟨?_, ?_, ?_, ?_, ?_, ?_⟩, ?_, ?_, ?_, ?_⟩ <;> (repeat (first | with_reducible assumption | (simp [go_sem]; done) | with_reducible apply cell_alloc | with_reducible apply cell_drew | with_reducible apply cell_drewN | (with_reducible apply Ab.at; with_reducible assumption) | (with_reducible refine cell_set ?_ ?_; rotate_left; focus (first | (simp; done) | (simp; omega))) | (with_reducible refine cell_setb ?_ ?_; rotate_left; focus (first | omega | (simp only; omega) | (simp; omega)))))))
                clear hK K
                (try simp only [Act.put, List.setIfInBounds_toArray, List.set_cons_zero, List.set_cons_succ])))
              (refine wpAnyH_ready (rs := [7]) (by kernel_rfl) (by simp) ?_)
              refine AllReadyH.cons rfl (fun K hK => ?_) AllReadyH.nil
              (go_simp
               (refine hK.out _ _ ?_ (fun hHeld => ?_)
                · (try dsimp only); ((refine ⟨⟨?_, ?_, ?_, ?_, ?_, ?_⟩, ?_, ?_, ?_, ?_⟩ <;> (repeat (first | with_reducible assumption | (simp [go_sem]; done) | with_reducible apply cell_alloc | with_reducible apply cell_drew | with_reducible apply cell_drewN | (with_reducible apply Ab.at; with_reducible assumption) | (with_reducible refine cell_set ?_ ?_; rotate_left; focus (first | (simp; done) | (simp; omega))) | (with_reducible refine cell_setb ?_ ?_; rotate_left; focus (first | omega | (simp only; omega) | (simp; omega)))))))
                clear hK K
                (try simp only [Act.put, List.setIfInBounds_toArray, List.set_cons_zero, List.set_cons_succ])))
              refine wpAnyH_done (by kernel_rfl) ?_ _
              go_wp2_with fail
              go_meet
              exact ⟨_, _, D, E, F, G, cd, ce, cf, cg, rfl, rfl, ⟨(by first | (simp [go_sem]; done) | (simp [go_sem, *]; done)), (by first | (simp [go_sem]; done) | (simp [go_sem, *]; done)), (by first | (simp [go_sem]; done) | (simp [go_sem, *]; done)), (by first | (simp [go_sem]; done) | (simp [go_sem, *]; done)), (by first | (simp [go_sem]; done) | (simp [go_sem, *]; done)), (by first | (simp [go_sem]; done) | (simp [go_sem, *]; done))⟩, ⟨(by first | (simp [go_sem]; done) | (simp [go_sem, *]; done)), (by first | (simp [go_sem]; done) | (simp [go_sem, *]; done)), (by first | (simp [go_sem]; done) | (simp [go_sem, *]; done)), (by first | (simp [go_sem]; done) | (simp [go_sem, *]; done))⟩, ⟨(by repeat (first | with_reducible assumption | with_reducible refine RB.drewW ?_ | with_reducible refine RB.allocW ?_ _ | with_reducible refine RB.ne ?_ (fun a ha => by have h1 := rD a ha; first | omega | (simp; omega)) _)), (by repeat (first | with_reducible assumption | with_reducible refine RB.drewW ?_ | with_reducible refine RB.allocW ?_ _ | with_reducible refine RB.ne ?_ (fun a ha => by have h1 := rE a ha; first | omega | (simp; omega)) _)), (by repeat (first | with_reducible assumption | with_reducible refine RB.drewW ?_ | with_reducible refine RB.allocW ?_ _ | with_reducible refine RB.ne ?_ (fun a ha => by have h1 := rF a ha; first | omega | (simp; omega)) _)), (by repeat (first | with_reducible assumption | with_reducible refine RB.drewW ?_ | with_reducible refine RB.allocW ?_ _ | with_reducible refine RB.ne ?_ (fun a ha => by have h1 := rG a ha; first | omega | (simp; omega)) _))⟩, ⟨lD, lE, lF, lG⟩, (by repeat (first | with_reducible exact Ab.refl _ | with_reducible assumption | with_reducible refine Ab.drew ?_ | with_reducible refine Ab.drewN ?_ _ | with_reducible refine Ab.alloc ?_ _ | with_reducible refine Ab.trans ?_ (by assumption) | with_reducible refine Ab.set ?_ (by first | (simp; done) | omega | (simp; omega)) _))⟩
            · (go_simp
               (refine hK.out _ _ ?_ (fun hHeld => ?_)
                · (try dsimp only); ((refine ⟨⟨?_, ?_, ?_, ?_, ?_, ?_⟩, ?_, ?_, ?_, ?_⟩ <;> (repeat (first | with_reducible assumption | (simp [go_sem]; done) | with_reducible apply cell_alloc | with_reducible apply cell_drew | with_reducible apply cell_drewN | (with_reducible apply Ab.at; with_reducible assumption) | (with_reducible refine cell_set ?_ ?_; rotate_left; focus (first | (simp; done) | (simp; omega))) | (with_reducible refine cell_setb ?_ ?_; rotate_left; focus (first | omega | (simp only; omega) | (simp; omega)))))))
                clear hK K
                (try simp only [Act.put, List.setIfInBounds_toArray, List.set_cons_zero, List.set_cons_succ])))
              (refine wpAnyH_ready (rs := [4]) (by kernel_rfl) (by simp) ?_)
              refine AllReadyH.cons rfl (fun K hK => ?_) AllReadyH.nil
              (go_simp
               (refine hK.out _ _ ?_ (fun hHeld => ?_)
                · (try dsimp only); ((refine ⟨⟨?_, ?_, ?_, ?_, ?_, ?_⟩, ?_, ?_, ?_, ?_⟩ <;> (repeat (first | with_reducible assumption | (simp [go_sem]; done) | with_reducible apply cell_alloc | with_reducible apply cell_drew | with_reducible apply cell_drewN | (with_reducible apply Ab.at; with_reducible assumption) | (with_reducible refine cell_set ?_ ?_; rotate_left; focus (first | (simp; done) | (simp; omega))) | (with_reducible refine cell_setb ?_ ?_; rotate_left; focus (first | omega | (simp only; omega) | (simp; omega)))))))
                clear hK K
                (try simp only [Act.put, List.setIfInBounds_toArray, List.set_cons_zero, List.set_cons_succ])))
              (refine wpAnyH_ready (rs := [6]) (by kernel_rfl) (by simp) ?_)
              refine AllReadyH.cons rfl (fun K hK => ?_) AllReadyH.nil
              (go_simp
               (refine hK.out _ _ ?_ (fun hHeld => ?_)
                · (try dsimp only); ((refine ⟨⟨?_, ?_, ?_, ?_, ?_, ?_⟩, ?_, ?_, ?_, ?_⟩ <;> (repeat (first | with_reducible assumption | (simp [go_sem]; done) | with_reducible apply cell_alloc | with_reducible apply cell_drew | with_reducible apply cell_drewN | (with_reducible apply Ab.at; with_reducible assumption) | (with_reducible refine cell_set ?_ ?_; rotate_left; focus (first | (simp; done) | (simp; omega))) | (with_reducible refine cell_setb ?_ ?_; rotate_left; focus (first | omega | (simp only; omega) | (simp; omega)))))))
                clear hK K
                (try simp only [Act.put, List.setIfInBounds_toArray, List.set_cons_zero, List.set_cons_succ])))
              (refine wpAnyH_ready (rs := [7]) (by kernel_rfl) (by simp) ?_)
              refine AllReadyH.cons rfl (fun K hK => ?_) AllReadyH.nil
              (go_simp
               (refine hK.out _ _ ?_ (fun hHeld => ?_)
                · (try dsimp only); ((refine ⟨⟨?_, ?_, ?_, ?_, ?_, ?_⟩, ?_, ?_, ?_, ?_⟩ <;> (repeat (first | with_reducible assumption | (simp [go_sem]; done) | with_reducible apply cell_alloc | with_reducible apply cell_drew | with_reducible apply cell_drewN | (with_reducible apply Ab.at; with_reducible assumption) | (with_reducible refine cell_set ?_ ?_; rotate_left; focus (first | (simp; done) | (simp; omega))) | (with_reducible refine cell_setb ?_ ?_; rotate_left; focus (first | omega | (simp only; omega) | (simp; omega)))))))
                clear hK K
                (try simp only [Act.put, List.setIfInBounds_toArray, List.set_cons_zero, List.set_cons_succ])))
              refine wpAnyH_done (by kernel_rfl) ?_ _
              go_wp2_with fail
              go_meet
              exact ⟨_, _, D, E, F, G, cd, ce, cf, cg, rfl, rfl, ⟨(by first | (simp [go_sem]; done) | (simp [go_sem, *]; done)), (by first | (simp [go_sem]; done) | (simp [go_sem, *]; done)), (by first | (simp [go_sem]; done) | (simp [go_sem, *]; done)), (by first | (simp [go_sem]; done) | (simp [go_sem, *]; done)), (by first | (simp [go_sem]; done) | (simp [go_sem, *]; done)), (by first | (simp [go_sem]; done) | (simp [go_sem, *]; done))⟩, ⟨(by first | (simp [go_sem]; done) | (simp [go_sem, *]; done)), (by first | (simp [go_sem]; done) | (simp [go_sem, *]; done)), (by first | (simp [go_sem]; done) | (simp [go_sem, *]; done)), (by first | (simp [go_sem]; done) | (simp [go_sem, *]; done))⟩, ⟨(by repeat (first | with_reducible assumption | with_reducible refine RB.drewW ?_ | with_reducible refine RB.allocW ?_ _ | with_reducible refine RB.ne ?_ (fun a ha => by have h1 := rD a ha; first | omega | (simp; omega)) _)), (by repeat (first | with_reducible assumption | with_reducible refine RB.drewW ?_ | with_reducible refine RB.allocW ?_ _ | with_reducible refine RB.ne ?_ (fun a ha => by have h1 := rE a ha; first | omega | (simp; omega)) _)), (by repeat (first | with_reducible assumption | with_reducible refine RB.drewW ?_ | with_reducible refine RB.allocW ?_ _ | with_reducible refine RB.ne ?_ (fun a ha => by have h1 := rF a ha; first | omega | (simp; omega)) _)), (by repeat (first | with_reducible assumption | with_reducible refine RB.drewW ?_ | with_reducible refine RB.allocW ?_ _ | with_reducible refine RB.ne ?_ (fun a ha => by have h1 := rG a ha; first | omega | (simp; omega)) _))⟩, ⟨lD, lE, lF, lG⟩, (by repeat (first | with_reducible exact Ab.refl _ | with_reducible assumption | with_reducible refine Ab.drew ?_ | with_reducible refine Ab.drewN ?_ _ | with_reducible refine Ab.alloc ?_ _ | with_reducible refine Ab.trans ?_ (by assumption) | with_reducible refine Ab.set ?_ (by first | (simp; done) | omega | (simp; omega)) _))⟩
          · (go_simp
             (refine hK.out _ _ ?_ (fun hHeld => ?_)
              · (try dsimp only); ((refine ⟨⟨?_, ?_, ?_, ?_, ?_, ?_⟩, ?_, ?_, ?_, ?_⟩ <;> (repeat (first | with_reducible assumption | (simp [go_sem]; done) | with_reducible apply cell_alloc | with_reducible apply cell_drew | with_reducible apply cell_drewN | (with_reducible apply Ab.at; with_reducible assumption) | (with_reducible refine cell_set ?_ ?_; rotate_left; focus (first | (simp; done) | (simp; omega))) | (with_reducible refine cell_setb ?_ ?_; rotate_left; focus (first | omega | (simp only; omega) | (simp; omega)))))))
              clear hK K
              (try simp only [Act.put, List.setIfInBounds_toArray, List.set_cons_zero, List.set_cons_succ])))
            (refine wpAnyH_ready (rs := [3, 5]) (by kernel_rfl) (by simp) ?_)
            refine AllReadyH.cons rfl (fun K hK => ?_) (AllReadyH.cons rfl (fun K hK => ?_) (AllReadyH.nil))
            · (go_simp
               ((go_at_call 23)
                refine (twin_any A' B' ca' cb' s' t' cap' dn' _ (hs'.ab (by repeat (first | with_reducible exact Ab.refl _ | with_reducible assumption | with_reducible refine Ab.drew ?_ | with_reducible refine Ab.drewN ?_ _ | with_reducible refine Ab.alloc ?_ _ | with_reducible refine Ab.trans ?_ (by assumption) | with_reducible refine Ab.set ?_ (by first | (simp; done) | omega | (simp; omega)) _))) (ht'.ab (by repeat (first | with_reducible exact Ab.refl _ | with_reducible assumption | with_reducible refine Ab.drew ?_ | with_reducible refine Ab.drewN ?_ _ | with_reducible refine Ab.alloc ?_ _ | with_reducible refine Ab.trans ?_ (by assumption) | with_reducible refine Ab.set ?_ (by first | (simp; done) | omega | (simp; omega)) _))) hca' hcb' (by omega) (by omega)).mono ?_
                rintro e wu ⟨r', F, G, cf, cg, er', rfl, o3, o4, hbu⟩
                obtain rfl : r' = ⟨s', t', cap', dn'⟩ := er'.out
                clear er'
                simp only at o3 o4
                (try simp only)
                have lF := o3.le
                have lG := o4.le
                have rF : ∀ a, F = some a → wt.heap.size + 1 ≤ a.block ∧ a.block < wu.heap.size := fun a ha => by have h := o3.rng a ha; (try simp at h); exact h
                have rG : ∀ a, G = some a → wt.heap.size + 1 ≤ a.block ∧ a.block < wu.heap.size := fun a ha => by have h := o4.rng a ha; (try simp at h); exact h
                have zu := hbu.size
                (try simp at zu)
                have hbtu : Ab wt wu := (by repeat (first | with_reducible exact Ab.refl _ | with_reducible assumption | with_reducible refine Ab.drew ?_ | with_reducible refine Ab.drewN ?_ _ | with_reducible refine Ab.alloc ?_ _ | with_reducible refine Ab.trans ?_ (by assumption) | with_reducible refine Ab.set ?_ (by first | (simp; done) | omega | (simp; omega)) _))
                have c1 : RB wu 0 D s := o1.rb.zero.ab hbtu
                have c2 : RB wu 0 E t := o2.rb.zero.ab hbtu
                have c3 : RB wu 0 F s' := o3.rb.zero
                have c4 : RB wu 0 G t' := o4.rb.zero
                have y9q0 := hbu.at (p := ⟨wt.heap.size, 0, none⟩) (v := .slice none 0 0) (by simp [go_sem]); have y9q1 := hbu.at (p := ⟨wt.heap.size, 1, none⟩) (v := .slice none 0 0) (by simp [go_sem]); have y9q2 := hbu.at (p := ⟨wt.heap.size, 2, none⟩) (v := .int .i64 0) (by simp [go_sem]); have y9q3 := hbu.at (p := ⟨wt.heap.size, 3, none⟩) (v := .bool false) (by simp [go_sem]); have y9q4 := hbu.at (p := ⟨wt.heap.size, 4, none⟩) (v := .int .i64 0) (by simp [go_sem]); have y9q5 := hbu.at (p := ⟨wt.heap.size, 5, none⟩) (v := .int .i64 0) (by simp [go_sem])
                have y9r0 : wu.frozen? ⟨wt.heap.size, 0, none⟩ = false := (hbu.frozen (p := ⟨wt.heap.size, 0, none⟩) (by first | (simp; done) | omega | (simp; omega))).trans (by simp [go_sem]); have y9r1 : wu.frozen? ⟨wt.heap.size, 1, none⟩ = false := (hbu.frozen (p := ⟨wt.heap.size, 1, none⟩) (by first | (simp; done) | omega | (simp; omega))).trans (by simp [go_sem]); have y9r2 : wu.frozen? ⟨wt.heap.size, 2, none⟩ = false := (hbu.frozen (p := ⟨wt.heap.size, 2, none⟩) (by first | (simp; done) | omega | (simp; omega))).trans (by simp [go_sem]); have y9r3 : wu.frozen? ⟨wt.heap.size, 3, none⟩ = false := (hbu.frozen (p := ⟨wt.heap.size, 3, none⟩) (by first | (simp; done) | omega | (simp; omega))).trans (by simp [go_sem]); have y9r4 : wu.frozen? ⟨wt.heap.size, 4, none⟩ = false := (hbu.frozen (p := ⟨wt.heap.size, 4, none⟩) (by first | (simp; done) | omega | (simp; omega))).trans (by simp [go_sem]); have y9r5 : wu.frozen? ⟨wt.heap.size, 5, none⟩ = false := (hbu.frozen (p := ⟨wt.heap.size, 5, none⟩) (by first | (simp; done) | omega | (simp; omega))).trans (by simp [go_sem])
                have y9na := fun (o : Obj) (j : Nat) => World.cell?_alloc_lt wu o ⟨wt.heap.size, j, none⟩ (by first | (simp; done) | omega | (simp; omega))
                have y9nb := fun (o : Obj) (j : Nat) => ((Ab.refl wu).alloc o).frozen (p := ⟨wt.heap.size, j, none⟩) (by first | (simp; done) | omega | (simp; omega))
                skip)
               (try go_wp2_with fail)
               (refine hK.out _ _ ?_ (fun hHeld => ?_)
                · (try dsimp only); ((refine ⟨⟨?_, ?_, ?_, ?_, ?_, ?_⟩, ?_, ?_, ?_, ?_⟩ <;> (repeat (first | with_reducible assumption | (simp [go_sem]; done) | with_reducible apply cell_alloc | with_reducible apply cell_drew | with_reducible apply cell_drewN | (with_reducible apply Ab.at; with_reducible assumption) | (with_reducible refine cell_set ?_ ?_; rotate_left; focus (first | (simp; done) | (simp; omega))) | (with_reducible refine cell_setb ?_ ?_; rotate_left; focus (first | omega | (simp only; omega) | (simp; omega)))))))
                clear hK K
                (try simp only [Act.put, List.setIfInBounds_toArray, List.set_cons_zero, List.set_cons_succ])))
              (refine wpAnyH_ready (rs := [5]) (by kernel_rfl) (by simp) ?_)
              refine AllReadyH.cons rfl (fun K hK => ?_) AllReadyH.nil
              (go_simp
               (refine hK.out _ _ ?_ (fun hHeld => ?_)
                · (try dsimp only); ((refine ⟨⟨?_, ?_, ?_, ?_, ?_, ?_⟩, ?_, ?_, ?_, ?_⟩ <;> (repeat (first | with_reducible assumption | (simp [go_sem]; done) | with_reducible apply cell_alloc | with_reducible apply cell_drew | with_reducible apply cell_drewN | (with_reducible apply Ab.at; with_reducible assumption) | (with_reducible refine cell_set ?_ ?_; rotate_left; focus (first | (simp; done) | (simp; omega))) | (with_reducible refine cell_setb ?_ ?_; rotate_left; focus (first | omega | (simp only; omega) | (simp; omega)))))))
                clear hK K
                (try simp only [Act.put, List.setIfInBounds_toArray, List.set_cons_zero, List.set_cons_succ])))
              (refine wpAnyH_ready (rs := [6]) (by kernel_rfl) (by simp) ?_)
              refine AllReadyH.cons rfl (fun K hK => ?_) AllReadyH.nil
              (go_simp
               (refine hK.out _ _ ?_ (fun hHeld => ?_)
                · (try dsimp only); ((refine ⟨⟨?_, ?_, ?_, ?_, ?_, ?_⟩, ?_, ?_, ?_, ?_⟩ <;> (repeat (first | with_reducible assumption | (simp [go_sem]; done) | with_reducible apply cell_alloc | with_reducible apply cell_drew | with_reducible apply cell_drewN | (with_reducible apply Ab.at; with_reducible assumption) | (with_reducible refine cell_set ?_ ?_; rotate_left; focus (first | (simp; done) | (simp; omega))) | (with_reducible refine cell_setb ?_ ?_; rotate_left; focus (first | omega | (simp only; omega) | (simp; omega)))))))
                clear hK K
                (try simp only [Act.put, List.setIfInBounds_toArray, List.set_cons_zero, List.set_cons_succ])))
              (refine wpAnyH_ready (rs := [7]) (by kernel_rfl) (by simp) ?_)
              refine AllReadyH.cons rfl (fun K hK => ?_) AllReadyH.nil
              (go_simp
               (refine hK.out _ _ ?_ (fun hHeld => ?_)
                · (try dsimp only); ((refine ⟨⟨?_, ?_, ?_, ?_, ?_, ?_⟩, ?_, ?_, ?_, ?_⟩ <;> (repeat (first | with_reducible assumption | (simp [go_sem]; done) | with_reducible apply cell_alloc | with_reducible apply cell_drew | with_reducible apply cell_drewN | (with_reducible apply Ab.at; with_reducible assumption) | (with_reducible refine cell_set ?_ ?_; rotate_left; focus (first | (simp; done) | (simp; omega))) | (with_reducible refine cell_setb ?_ ?_; rotate_left; focus (first | omega | (simp only; omega) | (simp; omega)))))))
                clear hK K
                (try simp only [Act.put, List.setIfInBounds_toArray, List.set_cons_zero, List.set_cons_succ])))
              refine wpAnyH_done (by kernel_rfl) ?_ _
              go_wp2_with fail
              go_meet
              exact ⟨_, _, D, E, F, G, cd, ce, cf, cg, rfl, rfl, ⟨(by first | (simp [go_sem]; done) | (simp [go_sem, *]; done)), (by first | (simp [go_sem]; done) | (simp [go_sem, *]; done)), (by first | (simp [go_sem]; done) | (simp [go_sem, *]; done)), (by first | (simp [go_sem]; done) | (simp [go_sem, *]; done)), (by first | (simp [go_sem]; done) | (simp [go_sem, *]; done)), (by first | (simp [go_sem]; done) | (simp [go_sem, *]; done))⟩, ⟨(by first | (simp [go_sem]; done) | (simp [go_sem, *]; done)), (by first | (simp [go_sem]; done) | (simp [go_sem, *]; done)), (by first | (simp [go_sem]; done) | (simp [go_sem, *]; done)), (by first | (simp [go_sem]; done) | (simp [go_sem, *]; done))⟩, ⟨(by repeat (first | with_reducible assumption | with_reducible refine RB.drewW ?_ | with_reducible refine RB.allocW ?_ _ | with_reducible refine RB.ne ?_ (fun a ha => by have h1 := rD a ha; first | omega | (simp; omega)) _)), (by repeat (first | with_reducible assumption | with_reducible refine RB.drewW ?_ | with_reducible refine RB.allocW ?_ _ | with_reducible refine RB.ne ?_ (fun a ha => by have h1 := rE a ha; first | omega | (simp; omega)) _)), (by repeat (first | with_reducible assumption | with_reducible refine RB.drewW ?_ | with_reducible refine RB.allocW ?_ _ | with_reducible refine RB.ne ?_ (fun a ha => by have h1 := rF a ha; first | omega | (simp; omega)) _)), (by repeat (first | with_reducible assumption | with_reducible refine RB.drewW ?_ | with_reducible refine RB.allocW ?_ _ | with_reducible refine RB.ne ?_ (fun a ha => by have h1 := rG a ha; first | omega | (simp; omega)) _))⟩, ⟨lD, lE, lF, lG⟩, (by repeat (first | with_reducible exact Ab.refl _ | with_reducible assumption | with_reducible refine Ab.drew ?_ | with_reducible refine Ab.drewN ?_ _ | with_reducible refine Ab.alloc ?_ _ | with_reducible refine Ab.trans ?_ (by assumption) | with_reducible refine Ab.set ?_ (by first | (simp; done) | omega | (simp; omega)) _))⟩
            · (go_simp
               (refine hK.out _ _ ?_ (fun hHeld => ?_)
                · (try dsimp only); ((refine ⟨⟨?_, ?_, ?_, ?_, ?_, ?_⟩, ?_, ?_, ?_, ?_⟩ <;> (repeat (first | with_reducible assumption | (simp [go_sem]; done) | with_reducible apply cell_alloc | with_reducible apply cell_drew | with_reducible apply cell_drewN | (with_reducible apply Ab.at; with_reducible assumption) | (with_reducible refine cell_set ?_ ?_; rotate_left; focus (first | (simp; done) | (simp; omega))) | (with_reducible refine cell_setb ?_ ?_; rotate_left; focus (first | omega | (simp only; omega) | (simp; omega)))))))
                clear hK K
                (try simp only [Act.put, List.setIfInBounds_toArray, List.set_cons_zero, List.set_cons_succ])))
              (refine wpAnyH_ready (rs := [3]) (by kernel_rfl) (by simp) ?_)
              refine AllReadyH.cons rfl (fun K hK => ?_) AllReadyH.nil
              (go_simp
               ((go_at_call 23)
                refine (twin_any A' B' ca' cb' s' t' cap' dn' _ (hs'.ab (by repeat (first | with_reducible exact Ab.refl _ | with_reducible assumption | with_reducible refine Ab.drew ?_ | with_reducible refine Ab.drewN ?_ _ | with_reducible refine Ab.alloc ?_ _ | with_reducible refine Ab.trans ?_ (by assumption) | with_reducible refine Ab.set ?_ (by first | (simp; done) | omega | (simp; omega)) _))) (ht'.ab (by repeat (first | with_reducible exact Ab.refl _ | with_reducible assumption | with_reducible refine Ab.drew ?_ | with_reducible refine Ab.drewN ?_ _ | with_reducible refine Ab.alloc ?_ _ | with_reducible refine Ab.trans ?_ (by assumption) | with_reducible refine Ab.set ?_ (by first | (simp; done) | omega | (simp; omega)) _))) hca' hcb' (by omega) (by omega)).mono ?_
                rintro e wu ⟨r', F, G, cf, cg, er', rfl, o3, o4, hbu⟩
                obtain rfl : r' = ⟨s', t', cap', dn'⟩ := er'.out
                clear er'
                simp only at o3 o4
                (try simp only)
                have lF := o3.le
                have lG := o4.le
                have rF : ∀ a, F = some a → wt.heap.size + 1 + 1 ≤ a.block ∧ a.block < wu.heap.size := fun a ha => by have h := o3.rng a ha; (try simp at h); exact h
                have rG : ∀ a, G = some a → wt.heap.size + 1 + 1 ≤ a.block ∧ a.block < wu.heap.size := fun a ha => by have h := o4.rng a ha; (try simp at h); exact h
                have zu := hbu.size
                (try simp at zu)
                have hbtu : Ab wt wu := (by repeat (first | with_reducible exact Ab.refl _ | with_reducible assumption | with_reducible refine Ab.drew ?_ | with_reducible refine Ab.drewN ?_ _ | with_reducible refine Ab.alloc ?_ _ | with_reducible refine Ab.trans ?_ (by assumption) | with_reducible refine Ab.set ?_ (by first | (simp; done) | omega | (simp; omega)) _))
                have c1 : RB wu 0 D s := o1.rb.zero.ab hbtu
                have c2 : RB wu 0 E t := o2.rb.zero.ab hbtu
                have c3 : RB wu 0 F s' := o3.rb.zero
                have c4 : RB wu 0 G t' := o4.rb.zero
                have y9q0 := hbu.at (p := ⟨wt.heap.size, 0, none⟩) (v := .slice none 0 0) (by simp [go_sem]); have y9q1 := hbu.at (p := ⟨wt.heap.size, 1, none⟩) (v := .slice none 0 0) (by simp [go_sem]); have y9q2 := hbu.at (p := ⟨wt.heap.size, 2, none⟩) (v := .int .i64 0) (by simp [go_sem]); have y9q3 := hbu.at (p := ⟨wt.heap.size, 3, none⟩) (v := .bool false) (by simp [go_sem]); have y9q4 := hbu.at (p := ⟨wt.heap.size, 4, none⟩) (v := .int .i64 0) (by simp [go_sem]); have y9q5 := hbu.at (p := ⟨wt.heap.size, 5, none⟩) (v := .int .i64 0) (by simp [go_sem])
                have y9r0 : wu.frozen? ⟨wt.heap.size, 0, none⟩ = false := (hbu.frozen (p := ⟨wt.heap.size, 0, none⟩) (by first | (simp; done) | omega | (simp; omega))).trans (by simp [go_sem]); have y9r1 : wu.frozen? ⟨wt.heap.size, 1, none⟩ = false := (hbu.frozen (p := ⟨wt.heap.size, 1, none⟩) (by first | (simp; done) | omega | (simp; omega))).trans (by simp [go_sem]); have y9r2 : wu.frozen? ⟨wt.heap.size, 2, none⟩ = false := (hbu.frozen (p := ⟨wt.heap.size, 2, none⟩) (by first | (simp; done) | omega | (simp; omega))).trans (by simp [go_sem]); have y9r3 : wu.frozen? ⟨wt.heap.size, 3, none⟩ = false := (hbu.frozen (p := ⟨wt.heap.size, 3, none⟩) (by first | (simp; done) | omega | (simp; omega))).trans (by simp [go_sem]); have y9r4 : wu.frozen? ⟨wt.heap.size, 4, none⟩ = false := (hbu.frozen (p := ⟨wt.heap.size, 4, none⟩) (by first | (simp; done) | omega | (simp; omega))).trans (by simp [go_sem]); have y9r5 : wu.frozen? ⟨wt.heap.size, 5, none⟩ = false := (hbu.frozen (p := ⟨wt.heap.size, 5, none⟩) (by first | (simp; done) | omega | (simp; omega))).trans (by simp [go_sem])
                have y9na := fun (o : Obj) (j : Nat) => World.cell?_alloc_lt wu o ⟨wt.heap.size, j, none⟩ (by first | (simp; done) | omega | (simp; omega))
                have y9nb := fun (o : Obj) (j : Nat) => ((Ab.refl wu).alloc o).frozen (p := ⟨wt.heap.size, j, none⟩) (by first | (simp; done) | omega | (simp; omega))
                have y10q0 := hbu.at (p := ⟨wt.heap.size + 1, 0, none⟩) (v := .slice none 0 0) (by simp [go_sem]); have y10q1 := hbu.at (p := ⟨wt.heap.size + 1, 1, none⟩) (v := .slice none 0 0) (by simp [go_sem]); have y10q2 := hbu.at (p := ⟨wt.heap.size + 1, 2, none⟩) (v := .int .i64 0) (by simp [go_sem]); have y10q3 := hbu.at (p := ⟨wt.heap.size + 1, 3, none⟩) (v := .bool false) (by simp [go_sem])
                have y10r0 : wu.frozen? ⟨wt.heap.size + 1, 0, none⟩ = false := (hbu.frozen (p := ⟨wt.heap.size + 1, 0, none⟩) (by first | (simp; done) | omega | (simp; omega))).trans (by simp [go_sem]); have y10r1 : wu.frozen? ⟨wt.heap.size + 1, 1, none⟩ = false := (hbu.frozen (p := ⟨wt.heap.size + 1, 1, none⟩) (by first | (simp; done) | omega | (simp; omega))).trans (by simp [go_sem]); have y10r2 : wu.frozen? ⟨wt.heap.size + 1, 2, none⟩ = false := (hbu.frozen (p := ⟨wt.heap.size + 1, 2, none⟩) (by first | (simp; done) | omega | (simp; omega))).trans (by simp [go_sem]); have y10r3 : wu.frozen? ⟨wt.heap.size + 1, 3, none⟩ = false := (hbu.frozen (p := ⟨wt.heap.size + 1, 3, none⟩) (by first | (simp; done) | omega | (simp; omega))).trans (by simp [go_sem])
                have y10na := fun (o : Obj) (j : Nat) => World.cell?_alloc_lt wu o ⟨wt.heap.size + 1, j, none⟩ (by first | (simp; done) | omega | (simp; omega))
                have y10nb := fun (o : Obj) (j : Nat) => ((Ab.refl wu).alloc o).frozen (p := ⟨wt.heap.size + 1, j, none⟩) (by first | (simp; done) | omega | (simp; omega))
                skip)
               (try go_wp2_with fail)
               (refine hK.out _ _ ?_ (fun hHeld => ?_)
                · (try dsimp only); ((refine ⟨⟨?_, ?_, ?_, ?_, ?_, ?_⟩, ?_, ?_, ?_, ?_⟩ <;> (repeat (first | with_reducible assumption | (simp [go_sem]; done) | with_reducible apply cell_alloc | with_reducible apply cell_drew | with_reducible apply cell_drewN | (with_reducible apply Ab.at; with_reducible assumption) | (with_reducible refine cell_set ?_ ?_; rotate_left; focus (first | (simp; done) | (simp; omega))) | (with_reducible refine cell_setb ?_ ?_; rotate_left; focus (first | omega | (simp only; omega) | (simp; omega)))))))
                clear hK K
                (try simp only [Act.put, List.setIfInBounds_toArray, List.set_cons_zero, List.set_cons_succ])))
              (refine wpAnyH_ready (rs := [6]) (by kernel_rfl) (by simp) ?_)
              refine AllReadyH.cons rfl (fun K hK => ?_) AllReadyH.nil
              (go_simp
               (refine hK.out _ _ ?_ (fun hHeld => ?_)
                · (try dsimp only); ((refine ⟨⟨?_, ?_, ?_, ?_, ?_, ?_⟩, ?_, ?_, ?_, ?_⟩ <;> (repeat (first | with_reducible assumption | (simp [go_sem]; done) | with_reducible apply cell_alloc | with_reducible apply cell_drew | with_reducible apply cell_drewN | (with_reducible apply Ab.at; with_reducible assumption) | (with_reducible refine cell_set ?_ ?_; rotate_left; focus (first | (simp; done) | (simp; omega))) | (with_reducible refine cell_setb ?_ ?_; rotate_left; focus (first | omega | (simp only; omega) | (simp; omega)))))))
                clear hK K
                (try simp only [Act.put, List.setIfInBounds_toArray, List.set_cons_zero, List.set_cons_succ])))
              (refine wpAnyH_ready (rs := [7]) (by kernel_rfl) (by simp) ?_)
              refine AllReadyH.cons rfl (fun K hK => ?_) AllReadyH.nil
              (go_simp
               (refine hK.out _ _ ?_ (fun hHeld => ?_)
                · (try dsimp only); ((refine ⟨⟨?_, ?_, ?_, ?_, ?_, ?_⟩, ?_, ?_, ?_, ?_⟩ <;> (repeat (first | with_reducible assumption | (simp [go_sem]; done) | with_reducible apply cell_alloc | with_reducible apply cell_drew | with_reducible apply cell_drewN | (with_reducible apply Ab.at; with_reducible assumption) | (with_reducible refine cell_set ?_ ?_; rotate_left; focus (first | (simp; done) | (simp; omega))) | (with_reducible refine cell_setb ?_ ?_; rotate_left; focus (first | omega | (simp only; omega) | (simp; omega)))))))
                clear hK K
                (try simp only [Act.put, List.setIfInBounds_toArray, List.set_cons_zero, List.set_cons_succ])))
              refine wpAnyH_done (by kernel_rfl) ?_ _
              go_wp2_with fail
              go_meet
              exact ⟨_, _, D, E, F, G, cd, ce, cf, cg, rfl, rfl, ⟨(by first | (simp [go_sem]; done) | (simp [go_sem, *]; done)), (by first | (simp [go_sem]; done) | (simp [go_sem, *]; done)), (by first | (simp [go_sem]; done) | (simp [go_sem, *]; done)), (by first | (simp [go_sem]; done) | (simp [go_sem, *]; done)), (by first | (simp [go_sem]; done) | (simp [go_sem, *]; done)), (by first | (simp [go_sem]; done) | (simp [go_sem, *]; done))⟩, ⟨(by first | (simp [go_sem]; done) | (simp [go_sem, *]; done)), (by first | (simp [go_sem]; done) | (simp [go_sem, *]; done)), (by first | (simp [go_sem]; done) | (simp [go_sem, *]; done)), (by first | (simp [go_sem]; done) | (simp [go_sem, *]; done))⟩, ⟨(by repeat (first | with_reducible assumption | with_reducible refine RB.drewW ?_ | with_reducible refine RB.allocW ?_ _ | with_reducible refine RB.ne ?_ (fun a ha => by have h1 := rD a ha; first | omega | (simp; omega)) _)), (by repeat (first | with_reducible assumption | with_reducible refine RB.drewW ?_ | with_reducible refine RB.allocW ?_ _ | with_reducible refine RB.ne ?_ (fun a ha => by have h1 := rE a ha; first | omega | (simp; omega)) _)), (by repeat (first | with_reducible assumption | with_reducible refine RB.drewW ?_ | with_reducible refine RB.allocW ?_ _ | with_reducible refine RB.ne ?_ (fun a ha => by have h1 := rF a ha; first | omega | (simp; omega)) _)), (by repeat (first | with_reducible assumption | with_reducible refine RB.drewW ?_ | with_reducible refine RB.allocW ?_ _ | with_reducible refine RB.ne ?_ (fun a ha => by have h1 := rG a ha; first | omega | (simp; omega)) _))⟩, ⟨lD, lE, lF, lG⟩, (by repeat (first | with_reducible exact Ab.refl _ | with_reducible assumption | with_reducible refine Ab.drew ?_ | with_reducible refine Ab.drewN ?_ _ | with_reducible refine Ab.alloc ?_ _ | with_reducible refine Ab.trans ?_ (by assumption) | with_reducible refine Ab.set ?_ (by first | (simp; done) | omega | (simp; omega)) _))⟩
          · (go_simp
             (refine hK.out _ _ ?_ (fun hHeld => ?_)
              · (try dsimp only); ((refine ⟨⟨?_, ?_, ?_, ?_, ?_, ?_⟩, ?_, ?_, ?_, ?_⟩ <;> (repeat (first | with_reducible assumption | (simp [go_sem]; done) | with_reducible apply cell_alloc | with_reducible apply cell_drew | with_reducible apply cell_drewN | (with_reducible apply Ab.at; with_reducible assumption) | (with_reducible refine cell_set ?_ ?_; rotate_left; focus (first | (simp; done) | (simp; omega))) | (with_reducible refine cell_setb ?_ ?_; rotate_left; focus (first | omega | (simp only; omega) | (simp; omega)))))))
              clear hK K
              (try simp only [Act.put, List.setIfInBounds_toArray, List.set_cons_zero, List.set_cons_succ])))
            (refine wpAnyH_ready (rs := [3, 4]) (by kernel_rfl) (by simp) ?_)
            refine AllReadyH.cons rfl (fun K hK => ?_) (AllReadyH.cons rfl (fun K hK => ?_) (AllReadyH.nil))
            · (go_simp
               ((go_at_call 23)
                refine (twin_any A' B' ca' cb' s' t' cap' dn' _ (hs'.ab (by repeat (first | with_reducible exact Ab.refl _ | with_reducible assumption | with_reducible refine Ab.drew ?_ | with_reducible refine Ab.drewN ?_ _ | with_reducible refine Ab.alloc ?_ _ | with_reducible refine Ab.trans ?_ (by assumption) | with_reducible refine Ab.set ?_ (by first | (simp; done) | omega | (simp; omega)) _))) (ht'.ab (by repeat (first | with_reducible exact Ab.refl _ | with_reducible assumption | with_reducible refine Ab.drew ?_ | with_reducible refine Ab.drewN ?_ _ | with_reducible refine Ab.alloc ?_ _ | with_reducible refine Ab.trans ?_ (by assumption) | with_reducible refine Ab.set ?_ (by first | (simp; done) | omega | (simp; omega)) _))) hca' hcb' (by omega) (by omega)).mono ?_
                rintro e wu ⟨r', F, G, cf, cg, er', rfl, o3, o4, hbu⟩
                obtain rfl : r' = ⟨s', t', cap', dn'⟩ := er'.out
                clear er'
                simp only at o3 o4
                (try simp only)
                have lF := o3.le
                have lG := o4.le
                have rF : ∀ a, F = some a → wt.heap.size + 1 ≤ a.block ∧ a.block < wu.heap.size := fun a ha => by have h := o3.rng a ha; (try simp at h); exact h
                have rG : ∀ a, G = some a → wt.heap.size + 1 ≤ a.block ∧ a.block < wu.heap.size := fun a ha => by have h := o4.rng a ha; (try simp at h); exact h
                have zu := hbu.size
                (try simp at zu)
                have hbtu : Ab wt wu := (by repeat (first | with_reducible exact Ab.refl _ | with_reducible assumption | with_reducible refine Ab.drew ?_ | with_reducible refine Ab.drewN ?_ _ | with_reducible refine Ab.alloc ?_ _ | with_reducible refine Ab.trans ?_ (by assumption) | with_reducible refine Ab.set ?_ (by first | (simp; done) | omega | (simp; omega)) _))
                have c1 : RB wu 0 D s := o1.rb.zero.ab hbtu
                have c2 : RB wu 0 E t := o2.rb.zero.ab hbtu
                have c3 : RB wu 0 F s' := o3.rb.zero
                have c4 : RB wu 0 G t' := o4.rb.zero
                have y10q0 := hbu.at (p := ⟨wt.heap.size, 0, none⟩) (v := .slice none 0 0) (by simp [go_sem]); have y10q1 := hbu.at (p := ⟨wt.heap.size, 1, none⟩) (v := .slice none 0 0) (by simp [go_sem]); have y10q2 := hbu.at (p := ⟨wt.heap.size, 2, none⟩) (v := .int .i64 0) (by simp [go_sem]); have y10q3 := hbu.at (p := ⟨wt.heap.size, 3, none⟩) (v := .bool false) (by simp [go_sem])
                have y10r0 : wu.frozen? ⟨wt.heap.size, 0, none⟩ = false := (hbu.frozen (p := ⟨wt.heap.size, 0, none⟩) (by first | (simp; done) | omega | (simp; omega))).trans (by simp [go_sem]); have y10r1 : wu.frozen? ⟨wt.heap.size, 1, none⟩ = false := (hbu.frozen (p := ⟨wt.heap.size, 1, none⟩) (by first | (simp; done) | omega | (simp; omega))).trans (by simp [go_sem]); have y10r2 : wu.frozen? ⟨wt.heap.size, 2, none⟩ = false := (hbu.frozen (p := ⟨wt.heap.size, 2, none⟩) (by first | (simp; done) | omega | (simp; omega))).trans (by simp [go_sem]); have y10r3 : wu.frozen? ⟨wt.heap.size, 3, none⟩ = false := (hbu.frozen (p := ⟨wt.heap.size, 3, none⟩) (by first | (simp; done) | omega | (simp; omega))).trans (by simp [go_sem])
                have y10na := fun (o : Obj) (j : Nat) => World.cell?_alloc_lt wu o ⟨wt.heap.size, j, none⟩ (by first | (simp; done) | omega | (simp; omega))
                have y10nb := fun (o : Obj) (j : Nat) => ((Ab.refl wu).alloc o).frozen (p := ⟨wt.heap.size, j, none⟩) (by first | (simp; done) | omega | (simp; omega))
                skip)
               (try go_wp2_with fail)
               (refine hK.out _ _ ?_ (fun hHeld => ?_)
                · (try dsimp only); ((refine ⟨⟨?_, ?_, ?_, ?_, ?_, ?_⟩, ?_, ?_, ?_, ?_⟩ <;> (repeat (first | with_reducible assumption | (simp [go_sem]; done) | with_reducible apply cell_alloc | with_reducible apply cell_drew | with_reducible apply cell_drewN | (with_reducible apply Ab.at; with_reducible assumption) | (with_reducible refine cell_set ?_ ?_; rotate_left; focus (first | (simp; done) | (simp; omega))) | (with_reducible refine cell_setb ?_ ?_; rotate_left; focus (first | omega | (simp only; omega) | (simp; omega)))))))
                clear hK K
                (try simp only [Act.put, List.setIfInBounds_toArray, List.set_cons_zero, List.set_cons_succ])))
              (refine wpAnyH_ready (rs := [4]) (by kernel_rfl) (by simp) ?_)
              refine AllReadyH.cons rfl (fun K hK => ?_) AllReadyH.nil
              (go_simp
               (refine hK.out _ _ ?_ (fun hHeld => ?_)
                · (try dsimp only); ((refine ⟨⟨?_, ?_, ?_, ?_, ?_, ?_⟩, ?_, ?_, ?_, ?_⟩ <;> (repeat (first | with_reducible assumption | (simp [go_sem]; done) | with_reducible apply cell_alloc | with_reducible apply cell_drew | with_reducible apply cell_drewN | (with_reducible apply Ab.at; with_reducible assumption) | (with_reducible refine cell_set ?_ ?_; rotate_left; focus (first | (simp; done) | (simp; omega))) | (with_reducible refine cell_setb ?_ ?_; rotate_left; focus (first | omega | (simp only; omega) | (simp; omega)))))))
                clear hK K
                (try simp only [Act.put, List.setIfInBounds_toArray, List.set_cons_zero, List.set_cons_succ])))
              (refine wpAnyH_ready (rs := [6]) (by kernel_rfl) (by simp) ?_)
              refine AllReadyH.cons rfl (fun K hK => ?_) AllReadyH.nil
              (go_simp
               (refine hK.out _ _ ?_ (fun hHeld => ?_)
                · (try dsimp only); ((refine ⟨⟨?_, ?_, ?_, ?_, ?_, ?_⟩, ?_, ?_, ?_, ?_⟩ <;> (repeat (first | with_reducible assumption | (simp [go_sem]; done) | with_reducible apply cell_alloc | with_reducible apply cell_drew | with_reducible apply cell_drewN | (with_reducible apply Ab.at; with_reducible assumption) | (with_reducible refine cell_set ?_ ?_; rotate_left; focus (first | (simp; done) | (simp; omega))) | (with_reducible refine cell_setb ?_ ?_; rotate_left; focus (first | omega | (simp only; omega) | (simp; omega)))))))
                clear hK K
                (try simp only [Act.put, List.setIfInBounds_toArray, List.set_cons_zero, List.set_cons_succ])))
              (refine wpAnyH_ready (rs := [7]) (by kernel_rfl) (by simp) ?_)
              refine AllReadyH.cons rfl (fun K hK => ?_) AllReadyH.nil
              (go_simp
               (refine hK.out _ _ ?_ (fun hHeld => ?_)
                · (try dsimp only); ((refine ⟨⟨?_, ?_, ?_, ?_, ?_, ?_⟩, ?_, ?_, ?_, ?_⟩ <;> (repeat (first | with_reducible assumption | (simp [go_sem]; done) | with_reducible apply cell_alloc | with_reducible apply cell_drew | with_reducible apply cell_drewN | (with_reducible apply Ab.at; with_reducible assumption) | (with_reducible refine cell_set ?_ ?_; rotate_left; focus (first | (simp; done) | (simp; omega))) | (with_reducible refine cell_setb ?_ ?_; rotate_left; focus (first | omega | (simp only; omega) | (simp; omega)))))))
                clear hK K
                (try simp only [Act.put, List.setIfInBounds_toArray, List.set_cons_zero, List.set_cons_succ])))
              refine wpAnyH_done (by kernel_rfl) ?_ _
              go_wp2_with fail
              go_meet
              exact ⟨_, _, D, E, F, G, cd, ce, cf, cg, rfl, rfl, ⟨(by first | (simp [go_sem]; done) | (simp [go_sem, *]; done)), (by first | (simp [go_sem]; done) | (simp [go_sem, *]; done)), (by first | (simp [go_sem]; done) | (simp [go_sem, *]; done)), (by first | (simp [go_sem]; done) | (simp [go_sem, *]; done)), (by first | (simp [go_sem]; done) | (simp [go_sem, *]; done)), (by first | (simp [go_sem]; done) | (simp [go_sem, *]; done))⟩, ⟨(by first | (simp [go_sem]; done) | (simp [go_sem, *]; done)), (by first | (simp [go_sem]; done) | (simp [go_sem, *]; done)), (by first | (simp [go_sem]; done) | (simp [go_sem, *]; done)), (by first | (simp [go_sem]; done) | (simp [go_sem, *]; done))⟩, ⟨(by repeat (first | with_reducible assumption | with_reducible refine RB.drewW ?_ | with_reducible refine RB.allocW ?_ _ | with_reducible refine RB.ne ?_ (fun a ha => by have h1 := rD a ha; first | omega | (simp; omega)) _)), (by repeat (first | with_reducible assumption | with_reducible refine RB.drewW ?_ | with_reducible refine RB.allocW ?_ _ | with_reducible refine RB.ne ?_ (fun a ha => by have h1 := rE a ha; first | omega | (simp; omega)) _)), (by repeat (first | with_reducible assumption | with_reducible refine RB.drewW ?_ | with_reducible refine RB.allocW ?_ _ | with_reducible refine RB.ne ?_ (fun a ha => by have h1 := rF a ha; first | omega | (simp; omega)) _)), (by repeat (first | with_reducible assumption | with_reducible refine RB.drewW ?_ | with_reducible refine RB.allocW ?_ _ | with_reducible refine RB.ne ?_ (fun a ha => by have h1 := rG a ha; first | omega | (simp; omega)) _))⟩, ⟨lD, lE, lF, lG⟩, (by repeat (first | with_reducible exact Ab.refl _ | with_reducible assumption | with_reducible refine Ab.drew ?_ | with_reducible refine Ab.drewN ?_ _ | with_reducible refine Ab.alloc ?_ _ | with_reducible refine Ab.trans ?_ (by assumption) | with_reducible refine Ab.set ?_ (by first | (simp; done) | omega | (simp; omega)) _))⟩
            · (go_simp
               (refine hK.out _ _ ?_ (fun hHeld => ?_)
                · (try dsimp only); ((refine ⟨⟨?_, ?_, ?_, ?_, ?_, ?_⟩, ?_, ?_, ?_, ?_⟩ <;> (repeat (first | with_reducible assumption | (simp [go_sem]; done) | with_reducible apply cell_alloc | with_reducible apply cell_drew | with_reducible apply cell_drewN | (with_reducible apply Ab.at; with_reducible assumption) | (with_reducible refine cell_set ?_ ?_; rotate_left; focus (first | (simp; done) | (simp; omega))) | (with_reducible refine cell_setb ?_ ?_; rotate_left; focus (first | omega | (simp only; omega) | (simp; omega)))))))
                clear hK K
                (try simp only [Act.put, List.setIfInBounds_toArray, List.set_cons_zero, List.set_cons_succ])))
              (refine wpAnyH_ready (rs := [3]) (by kernel_rfl) (by simp) ?_)
              refine AllReadyH.cons rfl (fun K hK => ?_) AllReadyH.nil
              (go_simp
               ((go_at_call 23)
                refine (twin_any A' B' ca' cb' s' t' cap' dn' _ (hs'.ab (by repeat (first | with_reducible exact Ab.refl _ | with_reducible assumption | with_reducible refine Ab.drew ?_ | with_reducible refine Ab.drewN ?_ _ | with_reducible refine Ab.alloc ?_ _ | with_reducible refine Ab.trans ?_ (by assumption) | with_reducible refine Ab.set ?_ (by first | (simp; done) | omega | (simp; omega)) _))) (ht'.ab (by repeat (first | with_reducible exact Ab.refl _ | with_reducible assumption | with_reducible refine Ab.drew ?_ | with_reducible refine Ab.drewN ?_ _ | with_reducible refine Ab.alloc ?_ _ | with_reducible refine Ab.trans ?_ (by assumption) | with_reducible refine Ab.set ?_ (by first | (simp; done) | omega | (simp; omega)) _))) hca' hcb' (by omega) (by omega)).mono ?_
                rintro e wu ⟨r', F, G, cf, cg, er', rfl, o3, o4, hbu⟩
                obtain rfl : r' = ⟨s', t', cap', dn'⟩ := er'.out
                clear er'
                simp only at o3 o4
                (try simp only)
                have lF := o3.le
                have lG := o4.le
                have rF : ∀ a, F = some a → wt.heap.size + 1 + 1 ≤ a.block ∧ a.block < wu.heap.size := fun a ha => by have h := o3.rng a ha; (try simp at h); exact h
                have rG : ∀ a, G = some a → wt.heap.size + 1 + 1 ≤ a.block ∧ a.block < wu.heap.size := fun a ha => by have h := o4.rng a ha; (try simp at h); exact h
                have zu := hbu.size
                (try simp at zu)
                have hbtu : Ab wt wu := (by repeat (first | with_reducible exact Ab.refl _ | with_reducible assumption | with_reducible refine Ab.drew ?_ | with_reducible refine Ab.drewN ?_ _ | with_reducible refine Ab.alloc ?_ _ | with_reducible refine Ab.trans ?_ (by assumption) | with_reducible refine Ab.set ?_ (by first | (simp; done) | omega | (simp; omega)) _))
                have c1 : RB wu 0 D s := o1.rb.zero.ab hbtu
                have c2 : RB wu 0 E t := o2.rb.zero.ab hbtu
                have c3 : RB wu 0 F s' := o3.rb.zero
                have c4 : RB wu 0 G t' := o4.rb.zero
                have y10q0 := hbu.at (p := ⟨wt.heap.size, 0, none⟩) (v := .slice none 0 0) (by simp [go_sem]); have y10q1 := hbu.at (p := ⟨wt.heap.size, 1, none⟩) (v := .slice none 0 0) (by simp [go_sem]); have y10q2 := hbu.at (p := ⟨wt.heap.size, 2, none⟩) (v := .int .i64 0) (by simp [go_sem]); have y10q3 := hbu.at (p := ⟨wt.heap.size, 3, none⟩) (v := .bool false) (by simp [go_sem])
                have y10r0 : wu.frozen? ⟨wt.heap.size, 0, none⟩ = false := (hbu.frozen (p := ⟨wt.heap.size, 0, none⟩) (by first | (simp; done) | omega | (simp; omega))).trans (by simp [go_sem]); have y10r1 : wu.frozen? ⟨wt.heap.size, 1, none⟩ = false := (hbu.frozen (p := ⟨wt.heap.size, 1, none⟩) (by first | (simp; done) | omega | (simp; omega))).trans (by simp [go_sem]); have y10r2 : wu.frozen? ⟨wt.heap.size, 2, none⟩ = false := (hbu.frozen (p := ⟨wt.heap.size, 2, none⟩) (by first | (simp; done) | omega | (simp; omega))).trans (by simp [go_sem]); have y10r3 : wu.frozen? ⟨wt.heap.size, 3, none⟩ = false := (hbu.frozen (p := ⟨wt.heap.size, 3, none⟩) (by first | (simp; done) | omega | (simp; omega))).trans (by simp [go_sem])
                have y10na := fun (o : Obj) (j : Nat) => World.cell?_alloc_lt wu o ⟨wt.heap.size, j, none⟩ (by first | (simp; done) | omega | (simp; omega))
                have y10nb := fun (o : Obj) (j : Nat) => ((Ab.refl wu).alloc o).frozen (p := ⟨wt.heap.size, j, none⟩) (by first | (simp; done) | omega | (simp; omega))
                have y9q0 := hbu.at (p := ⟨wt.heap.size + 1, 0, none⟩) (v := .slice none 0 0) (by simp [go_sem]); have y9q1 := hbu.at (p := ⟨wt.heap.size + 1, 1, none⟩) (v := .slice none 0 0) (by simp [go_sem]); have y9q2 := hbu.at (p := ⟨wt.heap.size + 1, 2, none⟩) (v := .int .i64 0) (by simp [go_sem]); have y9q3 := hbu.at (p := ⟨wt.heap.size + 1, 3, none⟩) (v := .bool false) (by simp [go_sem]); have y9q4 := hbu.at (p := ⟨wt.heap.size + 1, 4, none⟩) (v := .int .i64 0) (by simp [go_sem]); have y9q5 := hbu.at (p := ⟨wt.heap.size + 1, 5, none⟩) (v := .int .i64 0) (by simp [go_sem])
                have y9r0 : wu.frozen? ⟨wt.heap.size + 1, 0, none⟩ = false := (hbu.frozen (p := ⟨wt.heap.size + 1, 0, none⟩) (by first | (simp; done) | omega | (simp; omega))).trans (by simp [go_sem]); have y9r1 : wu.frozen? ⟨wt.heap.size + 1, 1, none⟩ = false := (hbu.frozen (p := ⟨wt.heap.size + 1, 1, none⟩) (by first | (simp; done) | omega | (simp; omega))).trans (by simp [go_sem]); have y9r2 : wu.frozen? ⟨wt.heap.size + 1, 2, none⟩ = false := (hbu.frozen (p := ⟨wt.heap.size + 1, 2, none⟩) (by first | (simp; done) | omega | (simp; omega))).trans (by simp [go_sem]); have y9r3 : wu.frozen? ⟨wt.heap.size + 1, 3, none⟩ = false := (hbu.frozen (p := ⟨wt.heap.size + 1, 3, none⟩) (by first | (simp; done) | omega | (simp; omega))).trans (by simp [go_sem]); have y9r4 : wu.frozen? ⟨wt.heap.size + 1, 4, none⟩ = false := (hbu.frozen (p := ⟨wt.heap.size + 1, 4, none⟩) (by first | (simp; done) | omega | (simp; omega))).trans (by simp [go_sem]); have y9r5 : wu.frozen? ⟨wt.heap.size + 1, 5, none⟩ = false := (hbu.frozen (p := ⟨wt.heap.size + 1, 5, none⟩) (by first | (simp; done) | omega | (simp; omega))).trans (by simp [go_sem])
                have y9na := fun (o : Obj) (j : Nat) => World.cell?_alloc_lt wu o ⟨wt.heap.size + 1, j, none⟩ (by first | (simp; done) | omega | (simp; omega))
                have y9nb := fun (o : Obj) (j : Nat) => ((Ab.refl wu).alloc o).frozen (p := ⟨wt.heap.size + 1, j, none⟩) (by first | (simp; done) | omega | (simp; omega))
                skip)
               (try go_wp2_with fail)
               (refine hK.out _ _ ?_ (fun hHeld => ?_)
                · (try dsimp only); ((refine ⟨⟨?_, ?_, ?_, ?_, ?_, ?_⟩, ?_, ?_, ?_, ?_⟩ <;> (repeat (first | with_reducible assumption | (simp [go_sem]; done) | with_reducible apply cell_alloc | with_reducible apply cell_drew | with_reducible apply cell_drewN | (with_reducible apply Ab.at; with_reducible assumption) | (with_reducible refine cell_set ?_ ?_; rotate_left; focus (first | (simp; done) | (simp; omega))) | (with_reducible refine cell_setb ?_ ?_; rotate_left; focus (first | omega | (simp only; omega) | (simp; omega)))))))
                clear hK K
                (try simp only [Act.put, List.setIfInBounds_toArray, List.set_cons_zero, List.set_cons_succ])))
              (refine wpAnyH_ready (rs := [6]) (by kernel_rfl) (by simp) ?_)
              refine AllReadyH.cons rfl (fun K hK => ?_) AllReadyH.nil
              (go_simp
               (refine hK.out _ _ ?_ (fun hHeld => ?_)
                · (try dsimp only); ((refine ⟨⟨?_, ?_, ?_, ?_, ?_, ?_⟩, ?_, ?_, ?_, ?_⟩ <;> (repeat (first | with_reducible assumption | (simp [go_sem]; done) | with_reducible apply cell_alloc | with_reducible apply cell_drew | with_reducible apply cell_drewN | (with_reducible apply Ab.at; with_reducible assumption) | (with_reducible refine cell_set ?_ ?_; rotate_left; focus (first | (simp; done) | (simp; omega))) | (with_reducible refine cell_setb ?_ ?_; rotate_left; focus (first | omega | (simp only; omega) | (simp; omega)))))))
                clear hK K
                (try simp only [Act.put, List.setIfInBounds_toArray, List.set_cons_zero, List.set_cons_succ])))
              (refine wpAnyH_ready (rs := [7]) (by kernel_rfl) (by simp) ?_)
              refine AllReadyH.cons rfl (fun K hK => ?_) AllReadyH.nil
              (go_simp
               (refine hK.out _ _ ?_ (fun hHeld => ?_)
                · (try dsimp only); ((refine ⟨⟨?_, ?_, ?_, ?_, ?_, ?_⟩, ?_, ?_, ?_, ?_⟩ <;> (repeat (first | with_reducible assumption | (simp [go_sem]; done) | with_reducible apply cell_alloc | with_reducible apply cell_drew | with_reducible apply cell_drewN | (with_reducible apply Ab.at; with_reducible assumption) | (with_reducible refine cell_set ?_ ?_; rotate_left; focus (first | (simp; done) | (simp; omega))) | (with_reducible refine cell_setb ?_ ?_; rotate_left; focus (first | omega | (simp only; omega) | (simp; omega)))))))
                clear hK K
                (try simp only [Act.put, List.setIfInBounds_toArray, List.set_cons_zero, List.set_cons_succ])))
              refine wpAnyH_done (by kernel_rfl) ?_ _
              go_wp2_with fail
              go_meet
              exact ⟨_, _, D, E, F, G, cd, ce, cf, cg, rfl, rfl, ⟨(by first | (simp [go_sem]; done) | (simp [go_sem, *]; done)), (by first | (simp [go_sem]; done) | (simp [go_sem, *]; done)), (by first | (simp [go_sem]; done) | (simp [go_sem, *]; done)), (by first | (simp [go_sem]; done) | (simp [go_sem, *]; done)), (by first | (simp [go_sem]; done) | (simp [go_sem, *]; done)), (by first | (simp [go_sem]; done) | (simp [go_sem, *]; done))⟩, ⟨(by first | (simp [go_sem]; done) | (simp [go_sem, *]; done)), (by first | (simp [go_sem]; done) | (simp [go_sem, *]; done)), (by first | (simp [go_sem]; done) | (simp [go_sem, *]; done)), (by first | (simp [go_sem]; done) | (simp [go_sem, *]; done))⟩, ⟨(by repeat (first | with_reducible assumption | with_reducible refine RB.drewW ?_ | with_reducible refine RB.allocW ?_ _ | with_reducible refine RB.ne ?_ (fun a ha => by have h1 := rD a ha; first | omega | (simp; omega)) _)), (by repeat (first | with_reducible assumption | with_reducible refine RB.drewW ?_ | with_reducible refine RB.allocW ?_ _ | with_reducible refine RB.ne ?_ (fun a ha => by have h1 := rE a ha; first | omega | (simp; omega)) _)), (by repeat (first | with_reducible assumption | with_reducible refine RB.drewW ?_ | with_reducible refine RB.allocW ?_ _ | with_reducible refine RB.ne ?_ (fun a ha => by have h1 := rF a ha; first | omega | (simp; omega)) _)), (by repeat (first | with_reducible assumption | with_reducible refine RB.drewW ?_ | with_reducible refine RB.allocW ?_ _ | with_reducible refine RB.ne ?_ (fun a ha => by have h1 := rG a ha; first | omega | (simp; omega)) _))⟩, ⟨lD, lE, lF, lG⟩, (by repeat (first | with_reducible exact Ab.refl _ | with_reducible assumption | with_reducible refine Ab.drew ?_ | with_reducible refine Ab.drewN ?_ _ | with_reducible refine Ab.alloc ?_ _ | with_reducible refine Ab.trans ?_ (by assumption) | with_reducible refine Ab.set ?_ (by first | (simp; done) | omega | (simp; omega)) _))⟩
        · (go_simp
           (refine hK.out _ _ ?_ (fun hHeld => ?_)
            · (try dsimp only); ((refine ⟨⟨?_, ?_, ?_, ?_, ?_, ?_⟩, ?_, ?_, ?_, ?_⟩ <;> (repeat (first | with_reducible assumption | (simp [go_sem]; done) | with_reducible apply cell_alloc | with_reducible apply cell_drew | with_reducible apply cell_drewN | (with_reducible apply Ab.at; with_reducible assumption) | (with_reducible refine cell_set ?_ ?_; rotate_left; focus (first | (simp; done) | (simp; omega))) | (with_reducible refine cell_setb ?_ ?_; rotate_left; focus (first | omega | (simp only; omega) | (simp; omega)))))))
            clear hK K
            (try simp only [Act.put, List.setIfInBounds_toArray, List.set_cons_zero, List.set_cons_succ])))
          (refine wpAnyH_ready (rs := [1, 5]) (by kernel_rfl) (by simp) ?_)
          refine AllReadyH.cons rfl (fun K hK => ?_) (AllReadyH.cons rfl (fun K hK => ?_) (AllReadyH.nil))
          · (go_simp
             ((go_at_call 22)
              refine (ltwin_any A B ca cb s t cap dn f n _ (hs.ab (by repeat (first | with_reducible exact Ab.refl _ | with_reducible assumption | with_reducible refine Ab.drew ?_ | with_reducible refine Ab.drewN ?_ _ | with_reducible refine Ab.alloc ?_ _ | with_reducible refine Ab.trans ?_ (by assumption) | with_reducible refine Ab.set ?_ (by first | (simp; done) | omega | (simp; omega)) _))) (ht.ab (by repeat (first | with_reducible exact Ab.refl _ | with_reducible assumption | with_reducible refine Ab.drew ?_ | with_reducible refine Ab.drewN ?_ _ | with_reducible refine Ab.alloc ?_ _ | with_reducible refine Ab.trans ?_ (by assumption) | with_reducible refine Ab.set ?_ (by first | (simp; done) | omega | (simp; omega)) _))) hca hcb (by omega) (by omega)).mono ?_
              rintro e wt ⟨r, D, E, cd, ce, er, rfl, o1, o2, hbt⟩
              obtain rfl : r = ⟨⟨s, t, cap, dn⟩, f, n⟩ := er.out
              clear er
              simp only at o1 o2
              (try simp only)
              have lD := o1.le
              have lE := o2.le
              have rD : ∀ a, D = some a → w2.heap.size + 1 ≤ a.block ∧ a.block < wt.heap.size := fun a ha => by have h := o1.rng a ha; (try simp at h); exact h
              have rE : ∀ a, E = some a → w2.heap.size + 1 ≤ a.block ∧ a.block < wt.heap.size := fun a ha => by have h := o2.rng a ha; (try simp at h); exact h
              have zt := hbt.size
              (try simp at zt)
              have y9q0 := hbt.at (p := ⟨w2.heap.size, 0, none⟩) (v := .slice none 0 0) (by simp [go_sem]); have y9q1 := hbt.at (p := ⟨w2.heap.size, 1, none⟩) (v := .slice none 0 0) (by simp [go_sem]); have y9q2 := hbt.at (p := ⟨w2.heap.size, 2, none⟩) (v := .int .i64 0) (by simp [go_sem]); have y9q3 := hbt.at (p := ⟨w2.heap.size, 3, none⟩) (v := .bool false) (by simp [go_sem]); have y9q4 := hbt.at (p := ⟨w2.heap.size, 4, none⟩) (v := .int .i64 0) (by simp [go_sem]); have y9q5 := hbt.at (p := ⟨w2.heap.size, 5, none⟩) (v := .int .i64 0) (by simp [go_sem])
              have y9r0 : wt.frozen? ⟨w2.heap.size, 0, none⟩ = false := (hbt.frozen (p := ⟨w2.heap.size, 0, none⟩) (by first | (simp; done) | omega | (simp; omega))).trans (by simp [go_sem]); have y9r1 : wt.frozen? ⟨w2.heap.size, 1, none⟩ = false := (hbt.frozen (p := ⟨w2.heap.size, 1, none⟩) (by first | (simp; done) | omega | (simp; omega))).trans (by simp [go_sem]); have y9r2 : wt.frozen? ⟨w2.heap.size, 2, none⟩ = false := (hbt.frozen (p := ⟨w2.heap.size, 2, none⟩) (by first | (simp; done) | omega | (simp; omega))).trans (by simp [go_sem]); have y9r3 : wt.frozen? ⟨w2.heap.size, 3, none⟩ = false := (hbt.frozen (p := ⟨w2.heap.size, 3, none⟩) (by first | (simp; done) | omega | (simp; omega))).trans (by simp [go_sem]); have y9r4 : wt.frozen? ⟨w2.heap.size, 4, none⟩ = false := (hbt.frozen (p := ⟨w2.heap.size, 4, none⟩) (by first | (simp; done) | omega | (simp; omega))).trans (by simp [go_sem]); have y9r5 : wt.frozen? ⟨w2.heap.size, 5, none⟩ = false := (hbt.frozen (p := ⟨w2.heap.size, 5, none⟩) (by first | (simp; done) | omega | (simp; omega))).trans (by simp [go_sem])
              have y9na := fun (o : Obj) (j : Nat) => World.cell?_alloc_lt wt o ⟨w2.heap.size, j, none⟩ (by first | (simp; done) | omega | (simp; omega))
              have y9nb := fun (o : Obj) (j : Nat) => ((Ab.refl wt).alloc o).frozen (p := ⟨w2.heap.size, j, none⟩) (by first | (simp; done) | omega | (simp; omega))
              skip)
             (try go_wp2_with fail)
             (refine hK.out _ _ ?_ (fun hHeld => ?_)
              · (try dsimp only); ((refine ⟨⟨?_, ?_, ?_, ?_, ?_, ?_⟩, ?_, ?_, ?_, ?_⟩ <;> (repeat (first | with_reducible assumption | (simp [go_sem]; done) | with_reducible apply cell_alloc | with_reducible apply cell_drew | with_reducible apply cell_drewN | (with_reducible apply Ab.at; with_reducible assumption) | (with_reducible refine cell_set ?_ ?_; rotate_left; focus (first | (simp; done) | (simp; omega))) | (with_reducible refine cell_setb ?_ ?_; rotate_left; focus (first | omega | (simp only; omega) | (simp; omega)))))))
              clear hK K
              (try simp only [Act.put, List.setIfInBounds_toArray, List.set_cons_zero, List.set_cons_succ])))
            (refine wpAnyH_ready (rs := [3, 5]) (by kernel_rfl) (by simp) ?_)
            refine AllReadyH.cons rfl (fun K hK => ?_) (AllReadyH.cons rfl (fun K hK => ?_) (AllReadyH.nil))
            · (go_simp
               ((go_at_call 23)
                refine (twin_any A' B' ca' cb' s' t' cap' dn' _ (hs'.ab (by repeat (first | with_reducible exact Ab.refl _ | with_reducible assumption | with_reducible refine Ab.drew ?_ | with_reducible refine Ab.drewN ?_ _ | with_reducible refine Ab.alloc ?_ _ | with_reducible refine Ab.trans ?_ (by assumption) | with_reducible refine Ab.set ?_ (by first | (simp; done) | omega | (simp; omega)) _))) (ht'.ab (by repeat (first | with_reducible exact Ab.refl _ | with_reducible assumption | with_reducible refine Ab.drew ?_ | with_reducible refine Ab.drewN ?_ _ | with_reducible refine Ab.alloc ?_ _ | with_reducible refine Ab.trans ?_ (by assumption) | with_reducible refine Ab.set ?_ (by first | (simp; done) | omega | (simp; omega)) _))) hca' hcb' (by omega) (by omega)).mono ?_
                rintro e wu ⟨r', F, G, cf, cg, er', rfl, o3, o4, hbu⟩
                obtain rfl : r' = ⟨s', t', cap', dn'⟩ := er'.out
                clear er'
                simp only at o3 o4
                (try simp only)
                have lF := o3.le
                have lG := o4.le
                have rF : ∀ a, F = some a → wt.heap.size ≤ a.block ∧ a.block < wu.heap.size := fun a ha => by have h := o3.rng a ha; (try simp at h); exact h
                have rG : ∀ a, G = some a → wt.heap.size ≤ a.block ∧ a.block < wu.heap.size := fun a ha => by have h := o4.rng a ha; (try simp at h); exact h
                have zu := hbu.size
                (try simp at zu)
                have hbtu : Ab wt wu := (by repeat (first | with_reducible exact Ab.refl _ | with_reducible assumption | with_reducible refine Ab.drew ?_ | with_reducible refine Ab.drewN ?_ _ | with_reducible refine Ab.alloc ?_ _ | with_reducible refine Ab.trans ?_ (by assumption) | with_reducible refine Ab.set ?_ (by first | (simp; done) | omega | (simp; omega)) _))
                have c1 : RB wu 0 D s := o1.rb.zero.ab hbtu
                have c2 : RB wu 0 E t := o2.rb.zero.ab hbtu
                have c3 : RB wu 0 F s' := o3.rb.zero
                have c4 : RB wu 0 G t' := o4.rb.zero
                have hbb := hbt.trans hbtu
                have y9q0 := hbb.at (p := ⟨w2.heap.size, 0, none⟩) (v := .slice none 0 0) (by simp [go_sem]); have y9q1 := hbb.at (p := ⟨w2.heap.size, 1, none⟩) (v := .slice none 0 0) (by simp [go_sem]); have y9q2 := hbb.at (p := ⟨w2.heap.size, 2, none⟩) (v := .int .i64 0) (by simp [go_sem]); have y9q3 := hbb.at (p := ⟨w2.heap.size, 3, none⟩) (v := .bool false) (by simp [go_sem]); have y9q4 := hbb.at (p := ⟨w2.heap.size, 4, none⟩) (v := .int .i64 0) (by simp [go_sem]); have y9q5 := hbb.at (p := ⟨w2.heap.size, 5, none⟩) (v := .int .i64 0) (by simp [go_sem])
                have y9r0 : wu.frozen? ⟨w2.heap.size, 0, none⟩ = false := (hbb.frozen (p := ⟨w2.heap.size, 0, none⟩) (by first | (simp; done) | omega | (simp; omega))).trans (by simp [go_sem]); have y9r1 : wu.frozen? ⟨w2.heap.size, 1, none⟩ = false := (hbb.frozen (p := ⟨w2.heap.size, 1, none⟩) (by first | (simp; done) | omega | (simp; omega))).trans (by simp [go_sem]); have y9r2 : wu.frozen? ⟨w2.heap.size, 2, none⟩ = false := (hbb.frozen (p := ⟨w2.heap.size, 2, none⟩) (by first | (simp; done) | omega | (simp; omega))).trans (by simp [go_sem]); have y9r3 : wu.frozen? ⟨w2.heap.size, 3, none⟩ = false := (hbb.frozen (p := ⟨w2.heap.size, 3, none⟩) (by first | (simp; done) | omega | (simp; omega))).trans (by simp [go_sem]); have y9r4 : wu.frozen? ⟨w2.heap.size, 4, none⟩ = false := (hbb.frozen (p := ⟨w2.heap.size, 4, none⟩) (by first | (simp; done) | omega | (simp; omega))).trans (by simp [go_sem]); have y9r5 : wu.frozen? ⟨w2.heap.size, 5, none⟩ = false := (hbb.frozen (p := ⟨w2.heap.size, 5, none⟩) (by first | (simp; done) | omega | (simp; omega))).trans (by simp [go_sem])
                have y9na := fun (o : Obj) (j : Nat) => World.cell?_alloc_lt wu o ⟨w2.heap.size, j, none⟩ (by first | (simp; done) | omega | (simp; omega))
                have y9nb := fun (o : Obj) (j : Nat) => ((Ab.refl wu).alloc o).frozen (p := ⟨w2.heap.size, j, none⟩) (by first | (simp; done) | omega | (simp; omega))
                skip)
               (try go_wp2_with fail)
               (refine hK.out _ _ ?_ (fun hHeld => ?_)
                · (try dsimp only); ((refine ⟨⟨?_, ?_, ?_, ?_, ?_, ?_⟩, ?_, ?_, ?_, ?_⟩ <;> (repeat (first | with_reducible assumption | (simp [go_sem]; done) | with_reducible apply cell_alloc | with_reducible apply cell_drew | with_reducible apply cell_drewN | (with_reducible apply Ab.at; with_reducible assumption) | (with_reducible refine cell_set ?_ ?_; rotate_left; focus (first | (simp; done) | (simp; omega))) | (with_reducible refine cell_setb ?_ ?_; rotate_left; focus (first | omega | (simp only; omega) | (simp; omega)))))))
                clear hK K
                (try simp only [Act.put, List.setIfInBounds_toArray, List.set_cons_zero, List.set_cons_succ])))
              (refine wpAnyH_ready (rs := [5]) (by kernel_rfl) (by simp) ?_)
              refine AllReadyH.cons rfl (fun K hK => ?_) AllReadyH.nil
              (go_simp
               (refine hK.out _ _ ?_ (fun hHeld => ?_)
                · (try dsimp only); ((refine ⟨⟨?_, ?_, ?_, ?_, ?_, ?_⟩, ?_, ?_, ?_, ?_⟩ <;> (repeat (first | with_reducible assumption | (simp [go_sem]; done) | with_reducible apply cell_alloc | with_reducible apply cell_drew | with_reducible apply cell_drewN | (with_reducible apply Ab.at; with_reducible assumption) | (with_reducible refine cell_set ?_ ?_; rotate_left; focus (first | (simp; done) | (simp; omega))) | (with_reducible refine cell_setb ?_ ?_; rotate_left; focus (first | omega | (simp only; omega) | (simp; omega)))))))
                clear hK K
                (try simp only [Act.put, List.setIfInBounds_toArray, List.set_cons_zero, List.set_cons_succ])))
              (refine wpAnyH_ready (rs := [6]) (by kernel_rfl) (by simp) ?_)
              refine AllReadyH.cons rfl (fun K hK => ?_) AllReadyH.nil
              (go_simp
               (refine hK.out _ _ ?_ (fun hHeld => ?_)
                · (try dsimp only); ((refine ⟨⟨?_, ?_, ?_, ?_, ?_, ?_⟩, ?_, ?_, ?_, ?_⟩ <;> (repeat (first | with_reducible assumption | (simp [go_sem]; done) | with_reducible apply cell_alloc | with_reducible apply cell_drew | with_reducible apply cell_drewN | (with_reducible apply Ab.at; with_reducible assumption) | (with_reducible refine cell_set ?_ ?_; rotate_left; focus (first | (simp; done) | (simp; omega))) | (with_reducible refine cell_setb ?_ ?_; rotate_left; focus (first | omega | (simp only; omega) | (simp; omega)))))))
                clear hK K
                (try simp only [Act.put, List.setIfInBounds_toArray, List.set_cons_zero, List.set_cons_succ])))
              (refine wpAnyH_ready (rs := [7]) (by kernel_rfl) (by simp) ?_)
              refine AllReadyH.cons rfl (fun K hK => ?_) AllReadyH.nil
              (go_simp
               (refine hK.out _ _ ?_ (fun hHeld => ?_)
                · (try dsimp only); ((refine ⟨⟨?_, ?_, ?_, ?_, ?_, ?_⟩, ?_, ?_, ?_, ?_⟩ <;> (repeat (first | with_reducible assumption | (simp [go_sem]; done) | with_reducible apply cell_alloc | with_reducible apply cell_drew | with_reducible apply cell_drewN | (with_reducible apply Ab.at; with_reducible assumption) | (with_reducible refine cell_set ?_ ?_; rotate_left; focus (first | (simp; done) | (simp; omega))) | (with_reducible refine cell_setb ?_ ?_; rotate_left; focus (first | omega | (simp only; omega) | (simp; omega)))))))
                clear hK K
                (try simp only [Act.put, List.setIfInBounds_toArray, List.set_cons_zero, List.set_cons_succ])))
              refine wpAnyH_done (by kernel_rfl) ?_ _
              go_wp2_with fail
              go_meet
              exact ⟨_, _, D, E, F, G, cd, ce, cf, cg, rfl, rfl, ⟨(by first | (simp [go_sem]; done) | (simp [go_sem, *]; done)), (by first | (simp [go_sem]; done) | (simp [go_sem, *]; done)), (by first | (simp [go_sem]; done) | (simp [go_sem, *]; done)), (by first | (simp [go_sem]; done) | (simp [go_sem, *]; done)), (by first | (simp [go_sem]; done) | (simp [go_sem, *]; done)), (by first | (simp [go_sem]; done) | (simp [go_sem, *]; done))⟩, ⟨(by first | (simp [go_sem]; done) | (simp [go_sem, *]; done)), (by first | (simp [go_sem]; done) | (simp [go_sem, *]; done)), (by first | (simp [go_sem]; done) | (simp [go_sem, *]; done)), (by first | (simp [go_sem]; done) | (simp [go_sem, *]; done))⟩, ⟨(by repeat (first | with_reducible assumption | with_reducible refine RB.drewW ?_ | with_reducible refine RB.allocW ?_ _ | with_reducible refine RB.ne ?_ (fun a ha => by have h1 := rD a ha; first | omega | (simp; omega)) _)), (by repeat (first | with_reducible assumption | with_reducible refine RB.drewW ?_ | with_reducible refine RB.allocW ?_ _ | with_reducible refine RB.ne ?_ (fun a ha => by have h1 := rE a ha; first | omega | (simp; omega)) _)), (by repeat (first | with_reducible assumption | with_reducible refine RB.drewW ?_ | with_reducible refine RB.allocW ?_ _ | with_reducible refine RB.ne ?_ (fun a ha => by have h1 := rF a ha; first | omega | (simp; omega)) _)), (by repeat (first | with_reducible assumption | with_reducible refine RB.drewW ?_ | with_reducible refine RB.allocW ?_ _ | with_reducible refine RB.ne ?_ (fun a ha => by have h1 := rG a ha; first | omega | (simp; omega)) _))⟩, ⟨lD, lE, lF, lG⟩, (by repeat (first | with_reducible exact Ab.refl _ | with_reducible assumption | with_reducible refine Ab.drew ?_ | with_reducible refine Ab.drewN ?_ _ | with_reducible refine Ab.alloc ?_ _ | with_reducible refine Ab.trans ?_ (by assumption) | with_reducible refine Ab.set ?_ (by first | (simp; done) | omega | (simp; omega)) _))⟩
            · (go_simp
               (refine hK.out _ _ ?_ (fun hHeld => ?_)
                · (try dsimp only); ((refine ⟨⟨?_, ?_, ?_, ?_, ?_, ?_⟩, ?_, ?_, ?_, ?_⟩ <;> (repeat (first | with_reducible assumption | (simp [go_sem]; done) | with_reducible apply cell_alloc | with_reducible apply cell_drew | with_reducible apply cell_drewN | (with_reducible apply Ab.at; with_reducible assumption) | (with_reducible refine cell_set ?_ ?_; rotate_left; focus (first | (simp; done) | (simp; omega))) | (with_reducible refine cell_setb ?_ ?_; rotate_left; focus (first | omega | (simp only; omega) | (simp; omega)))))))
                clear hK K
                (try simp only [Act.put, List.setIfInBounds_toArray, List.set_cons_zero, List.set_cons_succ])))
              (refine wpAnyH_ready (rs := [3]) (by kernel_rfl) (by simp) ?_)
              refine AllReadyH.cons rfl (fun K hK => ?_) AllReadyH.nil
              (go_simp
               ((go_at_call 23)
                refine (twin_any A' B' ca' cb' s' t' cap' dn' _ (hs'.ab (by repeat (first | with_reducible exact Ab.refl _ | with_reducible assumption | with_reducible refine Ab.drew ?_ | with_reducible refine Ab.drewN ?_ _ | with_reducible refine Ab.alloc ?_ _ | with_reducible refine Ab.trans ?_ (by assumption) | with_reducible refine Ab.set ?_ (by first | (simp; done) | omega | (simp; omega)) _))) (ht'.ab (by repeat (first | with_reducible exact Ab.refl _ | with_reducible assumption | with_reducible refine Ab.drew ?_ | with_reducible refine Ab.drewN ?_ _ | with_reducible refine Ab.alloc ?_ _ | with_reducible refine Ab.trans ?_ (by assumption) | with_reducible refine Ab.set ?_ (by first | (simp; done) | omega | (simp; omega)) _))) hca' hcb' (by omega) (by omega)).mono ?_
                rintro e wu ⟨r', F, G, cf, cg, er', rfl, o3, o4, hbu⟩
                obtain rfl : r' = ⟨s', t', cap', dn'⟩ := er'.out
                clear er'
                simp only at o3 o4
                (try simp only)
                have lF := o3.le
                have lG := o4.le
                have rF : ∀ a, F = some a → wt.heap.size + 1 ≤ a.block ∧ a.block < wu.heap.size := fun a ha => by have h := o3.rng a ha; (try simp at h); exact h
                have rG : ∀ a, G = some a → wt.heap.size + 1 ≤ a.block ∧ a.block < wu.heap.size := fun a ha => by have h := o4.rng a ha; (try simp at h); exact h
                have zu := hbu.size
                (try simp at zu)
                have hbtu : Ab wt wu := (by repeat (first | with_reducible exact Ab.refl _ | with_reducible assumption | with_reducible refine Ab.drew ?_ | with_reducible refine Ab.drewN ?_ _ | with_reducible refine Ab.alloc ?_ _ | with_reducible refine Ab.trans ?_ (by assumption) | with_reducible refine Ab.set ?_ (by first | (simp; done) | omega | (simp; omega)) _))
                have c1 : RB wu 0 D s := o1.rb.zero.ab hbtu
                have c2 : RB wu 0 E t := o2.rb.zero.ab hbtu
                have c3 : RB wu 0 F s' := o3.rb.zero
                have c4 : RB wu 0 G t' := o4.rb.zero
                have y10q0 := hbu.at (p := ⟨wt.heap.size, 0, none⟩) (v := .slice none 0 0) (by simp [go_sem]); have y10q1 := hbu.at (p := ⟨wt.heap.size, 1, none⟩) (v := .slice none 0 0) (by simp [go_sem]); have y10q2 := hbu.at (p := ⟨wt.heap.size, 2, none⟩) (v := .int .i64 0) (by simp [go_sem]); have y10q3 := hbu.at (p := ⟨wt.heap.size, 3, none⟩) (v := .bool false) (by simp [go_sem])
                have y10r0 : wu.frozen? ⟨wt.heap.size, 0, none⟩ = false := (hbu.frozen (p := ⟨wt.heap.size, 0, none⟩) (by first | (simp; done) | omega | (simp; omega))).trans (by simp [go_sem]); have y10r1 : wu.frozen? ⟨wt.heap.size, 1, none⟩ = false := (hbu.frozen (p := ⟨wt.heap.size, 1, none⟩) (by first | (simp; done) | omega | (simp; omega))).trans (by simp [go_sem]); have y10r2 : wu.frozen? ⟨wt.heap.size, 2, none⟩ = false := (hbu.frozen (p := ⟨wt.heap.size, 2, none⟩) (by first | (simp; done) | omega | (simp; omega))).trans (by simp [go_sem]); have y10r3 : wu.frozen? ⟨wt.heap.size, 3, none⟩ = false := (hbu.frozen (p := ⟨wt.heap.size, 3, none⟩) (by first | (simp; done) | omega | (simp; omega))).trans (by simp [go_sem])
                have y10na := fun (o : Obj) (j : Nat) => World.cell?_alloc_lt wu o ⟨wt.heap.size, j, none⟩ (by first | (simp; done) | omega | (simp; omega))
                have y10nb := fun (o : Obj) (j : Nat) => ((Ab.refl wu).alloc o).frozen (p := ⟨wt.heap.size, j, none⟩) (by first | (simp; done) | omega | (simp; omega))
                have hbb := hbt.trans hbtu
                have y9q0 := hbb.at (p := ⟨w2.heap.size, 0, none⟩) (v := .slice none 0 0) (by simp [go_sem]); have y9q1 := hbb.at (p := ⟨w2.heap.size, 1, none⟩) (v := .slice none 0 0) (by simp [go_sem]); have y9q2 := hbb.at (p := ⟨w2.heap.size, 2, none⟩) (v := .int .i64 0) (by simp [go_sem]); have y9q3 := hbb.at (p := ⟨w2.heap.size, 3, none⟩) (v := .bool false) (by simp [go_sem]); have y9q4 := hbb.at (p := ⟨w2.heap.size, 4, none⟩) (v := .int .i64 0) (by simp [go_sem]); have y9q5 := hbb.at (p := ⟨w2.heap.size, 5, none⟩) (v := .int .i64 0) (by simp [go_sem])
                have y9r0 : wu.frozen? ⟨w2.heap.size, 0, none⟩ = false := (hbb.frozen (p := ⟨w2.heap.size, 0, none⟩) (by first | (simp; done) | omega | (simp; omega))).trans (by simp [go_sem]); have y9r1 : wu.frozen? ⟨w2.heap.size, 1, none⟩ = false := (hbb.frozen (p := ⟨w2.heap.size, 1, none⟩) (by first | (simp; done) | omega | (simp; omega))).trans (by simp [go_sem]); have y9r2 : wu.frozen? ⟨w2.heap.size, 2, none⟩ = false := (hbb.frozen (p := ⟨w2.heap.size, 2, none⟩) (by first | (simp; done) | omega | (simp; omega))).trans (by simp [go_sem]); have y9r3 : wu.frozen? ⟨w2.heap.size, 3, none⟩ = false := (hbb.frozen (p := ⟨w2.heap.size, 3, none⟩) (by first | (simp; done) | omega | (simp; omega))).trans (by simp [go_sem]); have y9r4 : wu.frozen? ⟨w2.heap.size, 4, none⟩ = false := (hbb.frozen (p := ⟨w2.heap.size, 4, none⟩) (by first | (simp; done) | omega | (simp; omega))).trans (by simp [go_sem]); have y9r5 : wu.frozen? ⟨w2.heap.size, 5, none⟩ = false := (hbb.frozen (p := ⟨w2.heap.size, 5, none⟩) (by first | (simp; done) | omega | (simp; omega))).trans (by simp [go_sem])
                have y9na := fun (o : Obj) (j : Nat) => World.cell?_alloc_lt wu o ⟨w2.heap.size, j, none⟩ (by first | (simp; done) | omega | (simp; omega))
                have y9nb := fun (o : Obj) (j : Nat) => ((Ab.refl wu).alloc o).frozen (p := ⟨w2.heap.size, j, none⟩) (by first | (simp; done) | omega | (simp; omega))
                skip)
               (try go_wp2_with fail)
               (refine hK.out _ _ ?_ (fun hHeld => ?_)
                · (try dsimp only); ((refine ⟨⟨?_, ?_, ?_, ?_, ?_, ?_⟩, ?_, ?_, ?_, ?_⟩ <;> (repeat (first | with_reducible assumption | (simp [go_sem]; done) | with_reducible apply cell_alloc | with_reducible apply cell_drew | with_reducible apply cell_drewN | (with_reducible apply Ab.at; with_reducible assumption) | (with_reducible refine cell_set ?_ ?_; rotate_left; focus (first | (simp; done) | (simp; omega))) | (with_reducible refine cell_setb ?_ ?_; rotate_left; focus (first | omega | (simp only; omega) | (simp; omega)))))))
                clear hK K
                (try simp only [Act.put, List.setIfInBounds_toArray, List.set_cons_zero, List.set_cons_succ])))
              (refine wpAnyH_ready (rs := [6]) (by kernel_rfl) (by simp) ?_)
              refine AllReadyH.cons rfl (fun K hK => ?_) AllReadyH.nil
              (go_simp
               (refine hK.out _ _ ?_ (fun hHeld => ?_)
                · (try dsimp only); ((refine ⟨⟨?_, ?_, ?_, ?_, ?_, ?_⟩, ?_, ?_, ?_, ?_⟩ <;> (repeat (first | with_reducible assumption | (simp [go_sem]; done) | with_reducible apply cell_alloc | with_reducible apply cell_drew | with_reducible apply cell_drewN | (with_reducible apply Ab.at; with_reducible assumption) | (with_reducible refine cell_set ?_ ?_; rotate_left; focus (first | (simp; done) | (simp; omega))) | (with_reducible refine cell_setb ?_ ?_; rotate_left; focus (first | omega | (simp only; omega) | (simp; omega)))))))
                clear hK K
                (try simp only [Act.put, List.setIfInBounds_toArray, List.set_cons_zero, List.set_cons_succ])))
              (refine wpAnyH_ready (rs := [7]) (by kernel_rfl) (by simp) ?_)
              refine AllReadyH.cons rfl (fun K hK => ?_) AllReadyH.nil
              (go_simp
               (refine hK.out _ _ ?_ (fun hHeld => ?_)
                · (try dsimp only); ((refine ⟨⟨?_, ?_, ?_, ?_, ?_, ?_⟩, ?_, ?_, ?_, ?_⟩ <;> (repeat (first | with_reducible assumption | (simp [go_sem]; done) | with_reducible apply cell_alloc | with_reducible apply cell_drew | with_reducible apply cell_drewN | (with_reducible apply Ab.at; with_reducible assumption) | (with_reducible refine cell_set ?_ ?_; rotate_left; focus (first | (simp; done) | (simp; omega))) | (with_reducible refine cell_setb ?_ ?_; rotate_left; focus (first | omega | (simp only; omega) | (simp; omega)))))))
                clear hK K
                (try simp only [Act.put, List.setIfInBounds_toArray, List.set_cons_zero, List.set_cons_succ])))
              refine wpAnyH_done (by kernel_rfl) ?_ _
              go_wp2_with fail
              go_meet
              exact ⟨_, _, D, E, F, G, cd, ce, cf, cg, rfl, rfl, ⟨(by first | (simp [go_sem]; done) | (simp [go_sem, *]; done)), (by first | (simp [go_sem]; done) | (simp [go_sem, *]; done)), (by first | (simp [go_sem]; done) | (simp [go_sem, *]; done)), (by first | (simp [go_sem]; done) | (simp [go_sem, *]; done)), (by first | (simp [go_sem]; done) | (simp [go_sem, *]; done)), (by first | (simp [go_sem]; done) | (simp [go_sem, *]; done))⟩, ⟨(by first | (simp [go_sem]; done) | (simp [go_sem, *]; done)), (by first | (simp [go_sem]; done) | (simp [go_sem, *]; done)), (by first | (simp [go_sem]; done) | (simp [go_sem, *]; done)), (by first | (simp [go_sem]; done) | (simp [go_sem, *]; done))⟩, ⟨(by repeat (first | with_reducible assumption | with_reducible refine RB.drewW ?_ | with_reducible refine RB.allocW ?_ _ | with_reducible refine RB.ne ?_ (fun a ha => by have h1 := rD a ha; first | omega | (simp; omega)) _)), (by repeat (first | with_reducible assumption | with_reducible refine RB.drewW ?_ | with_reducible refine RB.allocW ?_ _ | with_reducible refine RB.ne ?_ (fun a ha => by have h1 := rE a ha; first | omega | (simp; omega)) _)), (by repeat (first | with_reducible assumption | with_reducible refine RB.drewW ?_ | with_reducible refine RB.allocW ?_ _ | with_reducible refine RB.ne ?_ (fun a ha => by have h1 := rF a ha; first | omega | (simp; omega)) _)), (by repeat (first | with_reducible assumption | with_reducible refine RB.drewW ?_ | with_reducible refine RB.allocW ?_ _ | with_reducible refine RB.ne ?_ (fun a ha => by have h1 := rG a ha; first | omega | (simp; omega)) _))⟩, ⟨lD, lE, lF, lG⟩, (by repeat (first | with_reducible exact Ab.refl _ | with_reducible assumption | with_reducible refine Ab.drew ?_ | with_reducible refine Ab.drewN ?_ _ | with_reducible refine Ab.alloc ?_ _ | with_reducible refine Ab.trans ?_ (by assumption) | with_reducible refine Ab.set ?_ (by first | (simp; done) | omega | (simp; omega)) _))⟩
          · (go_simp
             (refine hK.out _ _ ?_ (fun hHeld => ?_)
              · (try dsimp only); ((refine ⟨⟨?_, ?_, ?_, ?_, ?_, ?_⟩, ?_, ?_, ?_, ?_⟩ <;> (repeat (first | with_reducible assumption | (simp [go_sem]; done) | with_reducible apply cell_alloc | with_reducible apply cell_drew | with_reducible apply cell_drewN | (with_reducible apply Ab.at; with_reducible assumption) | (with_reducible refine cell_set ?_ ?_; rotate_left; focus (first | (simp; done) | (simp; omega))) | (with_reducible refine cell_setb ?_ ?_; rotate_left; focus (first | omega | (simp only; omega) | (simp; omega)))))))
              clear hK K
              (try simp only [Act.put, List.setIfInBounds_toArray, List.set_cons_zero, List.set_cons_succ])))
            (refine wpAnyH_ready (rs := [1]) (by kernel_rfl) (by simp) ?_)
            refine AllReadyH.cons rfl (fun K hK => ?_) AllReadyH.nil
            (go_simp
             ((go_at_call 22)
              refine (ltwin_any A B ca cb s t cap dn f n _ (hs.ab (by repeat (first | with_reducible exact Ab.refl _ | with_reducible assumption | with_reducible refine Ab.drew ?_ | with_reducible refine Ab.drewN ?_ _ | with_reducible refine Ab.alloc ?_ _ | with_reducible refine Ab.trans ?_ (by assumption) | with_reducible refine Ab.set ?_ (by first | (simp; done) | omega | (simp; omega)) _))) (ht.ab (by repeat (first | with_reducible exact Ab.refl _ | with_reducible assumption | with_reducible refine Ab.drew ?_ | with_reducible refine Ab.drewN ?_ _ | with_reducible refine Ab.alloc ?_ _ | with_reducible refine Ab.trans ?_ (by assumption) | with_reducible refine Ab.set ?_ (by first | (simp; done) | omega | (simp; omega)) _))) hca hcb (by omega) (by omega)).mono ?_
              rintro e wt ⟨r, D, E, cd, ce, er, rfl, o1, o2, hbt⟩
              obtain rfl : r = ⟨⟨s, t, cap, dn⟩, f, n⟩ := er.out
              clear er
              simp only at o1 o2
              (try simp only)
              have lD := o1.le
              have lE := o2.le
              have rD : ∀ a, D = some a → w2.heap.size + 1 + 1 ≤ a.block ∧ a.block < wt.heap.size := fun a ha => by have h := o1.rng a ha; (try simp at h); exact h
              have rE : ∀ a, E = some a → w2.heap.size + 1 + 1 ≤ a.block ∧ a.block < wt.heap.size := fun a ha => by have h := o2.rng a ha; (try simp at h); exact h
              have zt := hbt.size
              (try simp at zt)
              have y9q0 := hbt.at (p := ⟨w2.heap.size, 0, none⟩) (v := .slice none 0 0) (by simp [go_sem]); have y9q1 := hbt.at (p := ⟨w2.heap.size, 1, none⟩) (v := .slice none 0 0) (by simp [go_sem]); have y9q2 := hbt.at (p := ⟨w2.heap.size, 2, none⟩) (v := .int .i64 0) (by simp [go_sem]); have y9q3 := hbt.at (p := ⟨w2.heap.size, 3, none⟩) (v := .bool false) (by simp [go_sem]); have y9q4 := hbt.at (p := ⟨w2.heap.size, 4, none⟩) (v := .int .i64 0) (by simp [go_sem]); have y9q5 := hbt.at (p := ⟨w2.heap.size, 5, none⟩) (v := .int .i64 0) (by simp [go_sem])
              have y9r0 : wt.frozen? ⟨w2.heap.size, 0, none⟩ = false := (hbt.frozen (p := ⟨w2.heap.size, 0, none⟩) (by first | (simp; done) | omega | (simp; omega))).trans (by simp [go_sem]); have y9r1 : wt.frozen? ⟨w2.heap.size, 1, none⟩ = false := (hbt.frozen (p := ⟨w2.heap.size, 1, none⟩) (by first | (simp; done) | omega | (simp; omega))).trans (by simp [go_sem]); have y9r2 : wt.frozen? ⟨w2.heap.size, 2, none⟩ = false := (hbt.frozen (p := ⟨w2.heap.size, 2, none⟩) (by first | (simp; done) | omega | (simp; omega))).trans (by simp [go_sem]); have y9r3 : wt.frozen? ⟨w2.heap.size, 3, none⟩ = false := (hbt.frozen (p := ⟨w2.heap.size, 3, none⟩) (by first | (simp; done) | omega | (simp; omega))).trans (by simp [go_sem]); have y9r4 : wt.frozen? ⟨w2.heap.size, 4, none⟩ = false := (hbt.frozen (p := ⟨w2.heap.size, 4, none⟩) (by first | (simp; done) | omega | (simp; omega))).trans (by simp [go_sem]); have y9r5 : wt.frozen? ⟨w2.heap.size, 5, none⟩ = false := (hbt.frozen (p := ⟨w2.heap.size, 5, none⟩) (by first | (simp; done) | omega | (simp; omega))).trans (by simp [go_sem])
              have y9na := fun (o : Obj) (j : Nat) => World.cell?_alloc_lt wt o ⟨w2.heap.size, j, none⟩ (by first | (simp; done) | omega | (simp; omega))
              have y9nb := fun (o : Obj) (j : Nat) => ((Ab.refl wt).alloc o).frozen (p := ⟨w2.heap.size, j, none⟩) (by first | (simp; done) | omega | (simp; omega))
              have y10q0 := hbt.at (p := ⟨w2.heap.size + 1, 0, none⟩) (v := .slice none 0 0) (by simp [go_sem]); have y10q1 := hbt.at (p := ⟨w2.heap.size + 1, 1, none⟩) (v := .slice none 0 0) (by simp [go_sem]); have y10q2 := hbt.at (p := ⟨w2.heap.size + 1, 2, none⟩) (v := .int .i64 0) (by simp [go_sem]); have y10q3 := hbt.at (p := ⟨w2.heap.size + 1, 3, none⟩) (v := .bool false) (by simp [go_sem])
              have y10r0 : wt.frozen? ⟨w2.heap.size + 1, 0, none⟩ = false := (hbt.frozen (p := ⟨w2.heap.size + 1, 0, none⟩) (by first | (simp; done) | omega | (simp; omega))).trans (by simp [go_sem]); have y10r1 : wt.frozen? ⟨w2.heap.size + 1, 1, none⟩ = false := (hbt.frozen (p := ⟨w2.heap.size + 1, 1, none⟩) (by first | (simp; done) | omega | (simp; omega))).trans (by simp [go_sem]); have y10r2 : wt.frozen? ⟨w2.heap.size + 1, 2, none⟩ = false := (hbt.frozen (p := ⟨w2.heap.size + 1, 2, none⟩) (by first | (simp; done) | omega | (simp; omega))).trans (by simp [go_sem]); have y10r3 : wt.frozen? ⟨w2.heap.size + 1, 3, none⟩ = false := (hbt.frozen (p := ⟨w2.heap.size + 1, 3, none⟩) (by first | (simp; done) | omega | (simp; omega))).trans (by simp [go_sem])
              have y10na := fun (o : Obj) (j : Nat) => World.cell?_alloc_lt wt o ⟨w2.heap.size + 1, j, none⟩ (by first | (simp; done) | omega | (simp; omega))
              have y10nb := fun (o : Obj) (j : Nat) => ((Ab.refl wt).alloc o).frozen (p := ⟨w2.heap.size + 1, j, none⟩) (by first | (simp; done) | omega | (simp; omega))
              skip)
             (try go_wp2_with fail)
             (refine hK.out _ _ ?_ (fun hHeld => ?_)
              · (try dsimp only); ((refine ⟨⟨?_, ?_, ?_, ?_, ?_, ?_⟩, ?_, ?_, ?_, ?_⟩ <;> (repeat (first | with_reducible assumption | (simp [go_sem]; done) | with_reducible apply cell_alloc | with_reducible apply cell_drew | with_reducible apply cell_drewN | (with_reducible apply Ab.at; with_reducible assumption) | (with_reducible refine cell_set ?_ ?_; rotate_left; focus (first | (simp; done) | (simp; omega))) | (with_reducible refine cell_setb ?_ ?_; rotate_left; focus (first | omega | (simp only; omega) | (simp; omega)))))))
              clear hK K
              (try simp only [Act.put, List.setIfInBounds_toArray, List.set_cons_zero, List.set_cons_succ])))
            (refine wpAnyH_ready (rs := [3]) (by kernel_rfl) (by simp) ?_)
            refine AllReadyH.cons rfl (fun K hK => ?_) AllReadyH.nil
            (go_simp
             ((go_at_call 23)
              refine (twin_any A' B' ca' cb' s' t' cap' dn' _ (hs'.ab (by repeat (first | with_reducible exact Ab.refl _ | with_reducible assumption | with_reducible refine Ab.drew ?_ | with_reducible refine Ab.drewN ?_ _ | with_reducible refine Ab.alloc ?_ _ | with_reducible refine Ab.trans ?_ (by assumption) | with_reducible refine Ab.set ?_ (by first | (simp; done) | omega | (simp; omega)) _))) (ht'.ab (by repeat (first | with_reducible exact Ab.refl _ | with_reducible assumption | with_reducible refine Ab.drew ?_ | with_reducible refine Ab.drewN ?_ _ | with_reducible refine Ab.alloc ?_ _ | with_reducible refine Ab.trans ?_ (by assumption) | with_reducible refine Ab.set ?_ (by first | (simp; done) | omega | (simp; omega)) _))) hca' hcb' (by omega) (by omega)).mono ?_
              rintro e wu ⟨r', F, G, cf, cg, er', rfl, o3, o4, hbu⟩
              obtain rfl : r' = ⟨s', t', cap', dn'⟩ := er'.out
              clear er'
              simp only at o3 o4
              (try simp only)
              have lF := o3.le
              have lG := o4.le
              have rF : ∀ a, F = some a → wt.heap.size ≤ a.block ∧ a.block < wu.heap.size := fun a ha => by have h := o3.rng a ha; (try simp at h); exact h
              have rG : ∀ a, G = some a → wt.heap.size ≤ a.block ∧ a.block < wu.heap.size := fun a ha => by have h := o4.rng a ha; (try simp at h); exact h
              have zu := hbu.size
              (try simp at zu)
              have hbtu : Ab wt wu := (by repeat (first | with_reducible exact Ab.refl _ | with_reducible assumption | with_reducible refine Ab.drew ?_ | with_reducible refine Ab.drewN ?_ _ | with_reducible refine Ab.alloc ?_ _ | with_reducible refine Ab.trans ?_ (by assumption) | with_reducible refine Ab.set ?_ (by first | (simp; done) | omega | (simp; omega)) _))
              have c1 : RB wu 0 D s := o1.rb.zero.ab hbtu
              have c2 : RB wu 0 E t := o2.rb.zero.ab hbtu
              have c3 : RB wu 0 F s' := o3.rb.zero
              have c4 : RB wu 0 G t' := o4.rb.zero
              have hbb := hbt.trans hbtu
              have y9q0 := hbb.at (p := ⟨w2.heap.size, 0, none⟩) (v := .slice none 0 0) (by simp [go_sem]); have y9q1 := hbb.at (p := ⟨w2.heap.size, 1, none⟩) (v := .slice none 0 0) (by simp [go_sem]); have y9q2 := hbb.at (p := ⟨w2.heap.size, 2, none⟩) (v := .int .i64 0) (by simp [go_sem]); have y9q3 := hbb.at (p := ⟨w2.heap.size, 3, none⟩) (v := .bool false) (by simp [go_sem]); have y9q4 := hbb.at (p := ⟨w2.heap.size, 4, none⟩) (v := .int .i64 0) (by simp [go_sem]); have y9q5 := hbb.at (p := ⟨w2.heap.size, 5, none⟩) (v := .int .i64 0) (by simp [go_sem])
              have y9r0 : wu.frozen? ⟨w2.heap.size, 0, none⟩ = false := (hbb.frozen (p := ⟨w2.heap.size, 0, none⟩) (by first | (simp; done) | omega | (simp; omega))).trans (by simp [go_sem]); have y9r1 : wu.frozen? ⟨w2.heap.size, 1, none⟩ = false := (hbb.frozen (p := ⟨w2.heap.size, 1, none⟩) (by first | (simp; done) | omega | (simp; omega))).trans (by simp [go_sem]); have y9r2 : wu.frozen? ⟨w2.heap.size, 2, none⟩ = false := (hbb.frozen (p := ⟨w2.heap.size, 2, none⟩) (by first | (simp; done) | omega | (simp; omega))).trans (by simp [go_sem]); have y9r3 : wu.frozen? ⟨w2.heap.size, 3, none⟩ = false := (hbb.frozen (p := ⟨w2.heap.size, 3, none⟩) (by first | (simp; done) | omega | (simp; omega))).trans (by simp [go_sem]); have y9r4 : wu.frozen? ⟨w2.heap.size, 4, none⟩ = false := (hbb.frozen (p := ⟨w2.heap.size, 4, none⟩) (by first | (simp; done) | omega | (simp; omega))).trans (by simp [go_sem]); have y9r5 : wu.frozen? ⟨w2.heap.size, 5, none⟩ = false := (hbb.frozen (p := ⟨w2.heap.size, 5, none⟩) (by first | (simp; done) | omega | (simp; omega))).trans (by simp [go_sem])
              have y9na := fun (o : Obj) (j : Nat) => World.cell?_alloc_lt wu o ⟨w2.heap.size, j, none⟩ (by first | (simp; done) | omega | (simp; omega))
              have y9nb := fun (o : Obj) (j : Nat) => ((Ab.refl wu).alloc o).frozen (p := ⟨w2.heap.size, j, none⟩) (by first | (simp; done) | omega | (simp; omega))
              have y10q0 := hbb.at (p := ⟨w2.heap.size + 1, 0, none⟩) (v := .slice none 0 0) (by simp [go_sem]); have y10q1 := hbb.at (p := ⟨w2.heap.size + 1, 1, none⟩) (v := .slice none 0 0) (by simp [go_sem]); have y10q2 := hbb.at (p := ⟨w2.heap.size + 1, 2, none⟩) (v := .int .i64 0) (by simp [go_sem]); have y10q3 := hbb.at (p := ⟨w2.heap.size + 1, 3, none⟩) (v := .bool false) (by simp [go_sem])
              have y10r0 : wu.frozen? ⟨w2.heap.size + 1, 0, none⟩ = false := (hbb.frozen (p := ⟨w2.heap.size + 1, 0, none⟩) (by first | (simp; done) | omega | (simp; omega))).trans (by simp [go_sem]); have y10r1 : wu.frozen? ⟨w2.heap.size + 1, 1, none⟩ = false := (hbb.frozen (p := ⟨w2.heap.size + 1, 1, none⟩) (by first | (simp; done) | omega | (simp; omega))).trans (by simp [go_sem]); have y10r2 : wu.frozen? ⟨w2.heap.size + 1, 2, none⟩ = false := (hbb.frozen (p := ⟨w2.heap.size + 1, 2, none⟩) (by first | (simp; done) | omega | (simp; omega))).trans (by simp [go_sem]); have y10r3 : wu.frozen? ⟨w2.heap.size + 1, 3, none⟩ = false := (hbb.frozen (p := ⟨w2.heap.size + 1, 3, none⟩) (by first | (simp; done) | omega | (simp; omega))).trans (by simp [go_sem])
              have y10na := fun (o : Obj) (j : Nat) => World.cell?_alloc_lt wu o ⟨w2.heap.size + 1, j, none⟩ (by first | (simp; done) | omega | (simp; omega))
              have y10nb := fun (o : Obj) (j : Nat) => ((Ab.refl wu).alloc o).frozen (p := ⟨w2.heap.size + 1, j, none⟩) (by first | (simp; done) | omega | (simp; omega))
              skip)
             (try go_wp2_with fail)
             (refine hK.out _ _ ?_ (fun hHeld => ?_)
              · (try dsimp only); ((refine ⟨⟨?_, ?_, ?_, ?_, ?_, ?_⟩, ?_, ?_, ?_, ?_⟩ <;> (repeat (first | with_reducible assumption | (simp [go_sem]; done) | with_reducible apply cell_alloc | with_reducible apply cell_drew | with_reducible apply cell_drewN | (with_reducible apply Ab.at; with_reducible assumption) | (with_reducible refine cell_set ?_ ?_; rotate_left; focus (first | (simp; done) | (simp; omega))) | (with_reducible refine cell_setb ?_ ?_; rotate_left; focus (first | omega | (simp only; omega) | (simp; omega)))))))
              clear hK K
              (try simp only [Act.put, List.setIfInBounds_toArray, List.set_cons_zero, List.set_cons_succ])))
            (refine wpAnyH_ready (rs := [6]) (by kernel_rfl) (by simp) ?_)
            refine AllReadyH.cons rfl (fun K hK => ?_) AllReadyH.nil
            (go_simp
             (refine hK.out _ _ ?_ (fun hHeld => ?_)
              · (try dsimp only); ((refine ⟨⟨?_, ?_, ?_, ?_, ?_, ?_⟩, ?_, ?_, ?_, ?_⟩ <;> (repeat (first | with_reducible assumption | (simp [go_sem]; done) | with_reducible apply cell_alloc | with_reducible apply cell_drew | with_reducible apply cell_drewN | (with_reducible apply Ab.at; with_reducible assumption) | (with_reducible refine cell_set ?_ ?_; rotate_left; focus (first | (simp; done) | (simp; omega))) | (with_reducible refine cell_setb ?_ ?_; rotate_left; focus (first | omega | (simp only; omega) | (simp; omega)))))))
              clear hK K
              (try simp only [Act.put, List.setIfInBounds_toArray, List.set_cons_zero, List.set_cons_succ])))
            (refine wpAnyH_ready (rs := [7]) (by kernel_rfl) (by simp) ?_)
            refine AllReadyH.cons rfl (fun K hK => ?_) AllReadyH.nil
            (go_simp
             (refine hK.out _ _ ?_ (fun hHeld => ?_)
              · (try dsimp only); ((refine ⟨⟨?_, ?_, ?_, ?_, ?_, ?_⟩, ?_, ?_, ?_, ?_⟩ <;> (repeat (first | with_reducible assumption | (simp [go_sem]; done) | with_reducible apply cell_alloc | with_reducible apply cell_drew | with_reducible apply cell_drewN | (with_reducible apply Ab.at; with_reducible assumption) | (with_reducible refine cell_set ?_ ?_; rotate_left; focus (first | (simp; done) | (simp; omega))) | (with_reducible refine cell_setb ?_ ?_; rotate_left; focus (first | omega | (simp only; omega) | (simp; omega)))))))
              clear hK K
              (try simp only [Act.put, List.setIfInBounds_toArray, List.set_cons_zero, List.set_cons_succ])))
            refine wpAnyH_done (by kernel_rfl) ?_ _
            go_wp2_with fail
            go_meet
            exact ⟨_, _, D, E, F, G, cd, ce, cf, cg, rfl, rfl, ⟨(by first | (simp [go_sem]; done) | (simp [go_sem, *]; done)), (by first | (simp [go_sem]; done) | (simp [go_sem, *]; done)), (by first | (simp [go_sem]; done) | (simp [go_sem, *]; done)), (by first | (simp [go_sem]; done) | (simp [go_sem, *]; done)), (by first | (simp [go_sem]; done) | (simp [go_sem, *]; done)), (by first | (simp [go_sem]; done) | (simp [go_sem, *]; done))⟩, ⟨(by first | (simp [go_sem]; done) | (simp [go_sem, *]; done)), (by first | (simp [go_sem]; done) | (simp [go_sem, *]; done)), (by first | (simp [go_sem]; done) | (simp [go_sem, *]; done)), (by first | (simp [go_sem]; done) | (simp [go_sem, *]; done))⟩, ⟨(by repeat (first | with_reducible assumption | with_reducible refine RB.drewW ?_ | with_reducible refine RB.allocW ?_ _ | with_reducible refine RB.ne ?_ (fun a ha => by have h1 := rD a ha; first | omega | (simp; omega)) _)), (by repeat (first | with_reducible assumption | with_reducible refine RB.drewW ?_ | with_reducible refine RB.allocW ?_ _ | with_reducible refine RB.ne ?_ (fun a ha => by have h1 := rE a ha; first | omega | (simp; omega)) _)), (by repeat (first | with_reducible assumption | with_reducible refine RB.drewW ?_ | with_reducible refine RB.allocW ?_ _ | with_reducible refine RB.ne ?_ (fun a ha => by have h1 := rF a ha; first | omega | (simp; omega)) _)), (by repeat (first | with_reducible assumption | with_reducible refine RB.drewW ?_ | with_reducible refine RB.allocW ?_ _ | with_reducible refine RB.ne ?_ (fun a ha => by have h1 := rG a ha; first | omega | (simp; omega)) _))⟩, ⟨lD, lE, lF, lG⟩, (by repeat (first | with_reducible exact Ab.refl _ | with_reducible assumption | with_reducible refine Ab.drew ?_ | with_reducible refine Ab.drewN ?_ _ | with_reducible refine Ab.alloc ?_ _ | with_reducible refine Ab.trans ?_ (by assumption) | with_reducible refine Ab.set ?_ (by first | (simp; done) | omega | (simp; omega)) _))⟩
        · (go_simp
           (refine hK.out _ _ ?_ (fun hHeld => ?_)
            · (try dsimp only); ((refine ⟨⟨?_, ?_, ?_, ?_, ?_, ?_⟩, ?_, ?_, ?_, ?_⟩ <;> (repeat (first | with_reducible assumption | (simp [go_sem]; done) | with_reducible apply cell_alloc | with_reducible apply cell_drew | with_reducible apply cell_drewN | (with_reducible apply Ab.at; with_reducible assumption) | (with_reducible refine cell_set ?_ ?_; rotate_left; focus (first | (simp; done) | (simp; omega))) | (with_reducible refine cell_setb ?_ ?_; rotate_left; focus (first | omega | (simp only; omega) | (simp; omega)))))))
            clear hK K
            (try simp only [Act.put, List.setIfInBounds_toArray, List.set_cons_zero, List.set_cons_succ])))
          (refine wpAnyH_ready (rs := [1, 4]) (by kernel_rfl) (by simp) ?_)
          refine AllReadyH.cons rfl (fun K hK => ?_) (AllReadyH.cons rfl (fun K hK => ?_) (AllReadyH.nil))
          · (go_simp
             ((go_at_call 22)
              refine (ltwin_any A B ca cb s t cap dn f n _ (hs.ab (by repeat (first | with_reducible exact Ab.refl _ | with_reducible assumption | with_reducible refine Ab.drew ?_ | with_reducible refine Ab.drewN ?_ _ | with_reducible refine Ab.alloc ?_ _ | with_reducible refine Ab.trans ?_ (by assumption) | with_reducible refine Ab.set ?_ (by first | (simp; done) | omega | (simp; omega)) _))) (ht.ab (by repeat (first | with_reducible exact Ab.refl _ | with_reducible assumption | with_reducible refine Ab.drew ?_ | with_reducible refine Ab.drewN ?_ _ | with_reducible refine Ab.alloc ?_ _ | with_reducible refine Ab.trans ?_ (by assumption) | with_reducible refine Ab.set ?_ (by first | (simp; done) | omega | (simp; omega)) _))) hca hcb (by omega) (by omega)).mono ?_
              rintro e wt ⟨r, D, E, cd, ce, er, rfl, o1, o2, hbt⟩
              obtain rfl : r = ⟨⟨s, t, cap, dn⟩, f, n⟩ := er.out
              clear er
              simp only at o1 o2
              (try simp only)
              have lD := o1.le
              have lE := o2.le
              have rD : ∀ a, D = some a → w2.heap.size + 1 ≤ a.block ∧ a.block < wt.heap.size := fun a ha => by have h := o1.rng a ha; (try simp at h); exact h
              have rE : ∀ a, E = some a → w2.heap.size + 1 ≤ a.block ∧ a.block < wt.heap.size := fun a ha => by have h := o2.rng a ha; (try simp at h); exact h
              have zt := hbt.size
              (try simp at zt)
              have y10q0 := hbt.at (p := ⟨w2.heap.size, 0, none⟩) (v := .slice none 0 0) (by simp [go_sem]); have y10q1 := hbt.at (p := ⟨w2.heap.size, 1, none⟩) (v := .slice none 0 0) (by simp [go_sem]); have y10q2 := hbt.at (p := ⟨w2.heap.size, 2, none⟩) (v := .int .i64 0) (by simp [go_sem]); have y10q3 := hbt.at (p := ⟨w2.heap.size, 3, none⟩) (v := .bool false) (by simp [go_sem])
              have y10r0 : wt.frozen? ⟨w2.heap.size, 0, none⟩ = false := (hbt.frozen (p := ⟨w2.heap.size, 0, none⟩) (by first | (simp; done) | omega | (simp; omega))).trans (by simp [go_sem]); have y10r1 : wt.frozen? ⟨w2.heap.size, 1, none⟩ = false := (hbt.frozen (p := ⟨w2.heap.size, 1, none⟩) (by first | (simp; done) | omega | (simp; omega))).trans (by simp [go_sem]); have y10r2 : wt.frozen? ⟨w2.heap.size, 2, none⟩ = false := (hbt.frozen (p := ⟨w2.heap.size, 2, none⟩) (by first | (simp; done) | omega | (simp; omega))).trans (by simp [go_sem]); have y10r3 : wt.frozen? ⟨w2.heap.size, 3, none⟩ = false := (hbt.frozen (p := ⟨w2.heap.size, 3, none⟩) (by first | (simp; done) | omega | (simp; omega))).trans (by simp [go_sem])
              have y10na := fun (o : Obj) (j : Nat) => World.cell?_alloc_lt wt o ⟨w2.heap.size, j, none⟩ (by first | (simp; done) | omega | (simp; omega))
              have y10nb := fun (o : Obj) (j : Nat) => ((Ab.refl wt).alloc o).frozen (p := ⟨w2.heap.size, j, none⟩) (by first | (simp; done) | omega | (simp; omega))
              skip)
             (try go_wp2_with fail)
             (refine hK.out _ _ ?_ (fun hHeld => ?_)
              · (try dsimp only); ((refine ⟨⟨?_, ?_, ?_, ?_, ?_, ?_⟩, ?_, ?_, ?_, ?_⟩ <;> (repeat (first | with_reducible assumption | (simp [go_sem]; done) | with_reducible apply cell_alloc | with_reducible apply cell_drew | with_reducible apply cell_drewN | (with_reducible apply Ab.at; with_reducible assumption) | (with_reducible refine cell_set ?_ ?_; rotate_left; focus (first | (simp; done) | (simp; omega))) | (with_reducible refine cell_setb ?_ ?_; rotate_left; focus (first | omega | (simp only; omega) | (simp; omega)))))))
              clear hK K
              (try simp only [Act.put, List.setIfInBounds_toArray, List.set_cons_zero, List.set_cons_succ])))
            (refine wpAnyH_ready (rs := [3, 4]) (by kernel_rfl) (by simp) ?_)
            refine AllReadyH.cons rfl (fun K hK => ?_) (AllReadyH.cons rfl (fun K hK => ?_) (AllReadyH.nil))
            · (go_simp
               ((go_at_call 23)
                refine (twin_any A' B' ca' cb' s' t' cap' dn' _ (hs'.ab (by repeat (first | with_reducible exact Ab.refl _ | with_reducible assumption | with_reducible refine Ab.drew ?_ | with_reducible refine Ab.drewN ?_ _ | with_reducible refine Ab.alloc ?_ _ | with_reducible refine Ab.trans ?_ (by assumption) | with_reducible refine Ab.set ?_ (by first | (simp; done) | omega | (simp; omega)) _))) (ht'.ab (by repeat (first | with_reducible exact Ab.refl _ | with_reducible assumption | with_reducible refine Ab.drew ?_ | with_reducible refine Ab.drewN ?_ _ | with_reducible refine Ab.alloc ?_ _ | with_reducible refine Ab.trans ?_ (by assumption) | with_reducible refine Ab.set ?_ (by first | (simp; done) | omega | (simp; omega)) _))) hca' hcb' (by omega) (by omega)).mono ?_
                rintro e wu ⟨r', F, G, cf, cg, er', rfl, o3, o4, hbu⟩
                obtain rfl : r' = ⟨s', t', cap', dn'⟩ := er'.out
                clear er'
                simp only at o3 o4
                (try simp only)
                have lF := o3.le
                have lG := o4.le
                have rF : ∀ a, F = some a → wt.heap.size ≤ a.block ∧ a.block < wu.heap.size := fun a ha => by have h := o3.rng a ha; (try simp at h); exact h
                have rG : ∀ a, G = some a → wt.heap.size ≤ a.block ∧ a.block < wu.heap.size := fun a ha => by have h := o4.rng a ha; (try simp at h); exact h
                have zu := hbu.size
                (try simp at zu)
                have hbtu : Ab wt wu := (by repeat (first | with_reducible exact Ab.refl _ | with_reducible assumption | with_reducible refine Ab.drew ?_ | with_reducible refine Ab.drewN ?_ _ | with_reducible refine Ab.alloc ?_ _ | with_reducible refine Ab.trans ?_ (by assumption) | with_reducible refine Ab.set ?_ (by first | (simp; done) | omega | (simp; omega)) _))
                have c1 : RB wu 0 D s := o1.rb.zero.ab hbtu
                have c2 : RB wu 0 E t := o2.rb.zero.ab hbtu
                have c3 : RB wu 0 F s' := o3.rb.zero
                have c4 : RB wu 0 G t' := o4.rb.zero
                have hbb := hbt.trans hbtu
                have y10q0 := hbb.at (p := ⟨w2.heap.size, 0, none⟩) (v := .slice none 0 0) (by simp [go_sem]); have y10q1 := hbb.at (p := ⟨w2.heap.size, 1, none⟩) (v := .slice none 0 0) (by simp [go_sem]); have y10q2 := hbb.at (p := ⟨w2.heap.size, 2, none⟩) (v := .int .i64 0) (by simp [go_sem]); have y10q3 := hbb.at (p := ⟨w2.heap.size, 3, none⟩) (v := .bool false) (by simp [go_sem])
                have y10r0 : wu.frozen? ⟨w2.heap.size, 0, none⟩ = false := (hbb.frozen (p := ⟨w2.heap.size, 0, none⟩) (by first | (simp; done) | omega | (simp; omega))).trans (by simp [go_sem]); have y10r1 : wu.frozen? ⟨w2.heap.size, 1, none⟩ = false := (hbb.frozen (p := ⟨w2.heap.size, 1, none⟩) (by first | (simp; done) | omega | (simp; omega))).trans (by simp [go_sem]); have y10r2 : wu.frozen? ⟨w2.heap.size, 2, none⟩ = false := (hbb.frozen (p := ⟨w2.heap.size, 2, none⟩) (by first | (simp; done) | omega | (simp; omega))).trans (by simp [go_sem]); have y10r3 : wu.frozen? ⟨w2.heap.size, 3, none⟩ = false := (hbb.frozen (p := ⟨w2.heap.size, 3, none⟩) (by first | (simp; done) | omega | (simp; omega))).trans (by simp [go_sem])
                have y10na := fun (o : Obj) (j : Nat) => World.cell?_alloc_lt wu o ⟨w2.heap.size, j, none⟩ (by first | (simp; done) | omega | (simp; omega))
                have y10nb := fun (o : Obj) (j : Nat) => ((Ab.refl wu).alloc o).frozen (p := ⟨w2.heap.size, j, none⟩) (by first | (simp; done) | omega | (simp; omega))
                skip)
               (try go_wp2_with fail)
               (refine hK.out _ _ ?_ (fun hHeld => ?_)
                · (try dsimp only); ((refine ⟨⟨?_, ?_, ?_, ?_, ?_, ?_⟩, ?_, ?_, ?_, ?_⟩ <;> (repeat (first | with_reducible assumption | (simp [go_sem]; done) | with_reducible apply cell_alloc | with_reducible apply cell_drew | with_reducible apply cell_drewN | (with_reducible apply Ab.at; with_reducible assumption) | (with_reducible refine cell_set ?_ ?_; rotate_left; focus (first | (simp; done) | (simp; omega))) | (with_reducible refine cell_setb ?_ ?_; rotate_left; focus (first | omega | (simp only; omega) | (simp; omega)))))))
                clear hK K
                (try simp only [Act.put, List.setIfInBounds_toArray, List.set_cons_zero, List.set_cons_succ])))
              (refine wpAnyH_ready (rs := [4]) (by kernel_rfl) (by simp) ?_)
              refine AllReadyH.cons rfl (fun K hK => ?_) AllReadyH.nil
              (go_simp
               (refine hK.out _ _ ?_ (fun hHeld => ?_)
                · (try dsimp only); ((refine ⟨⟨?_, ?_, ?_, ?_, ?_, ?_⟩, ?_, ?_, ?_, ?_⟩ <;> (repeat (first | with_reducible assumption | (simp [go_sem]; done) | with_reducible apply cell_alloc | with_reducible apply cell_drew | with_reducible apply cell_drewN | (with_reducible apply Ab.at; with_reducible assumption) | (with_reducible refine cell_set ?_ ?_; rotate_left; focus (first | (simp; done) | (simp; omega))) | (with_reducible refine cell_setb ?_ ?_; rotate_left; focus (first | omega | (simp only; omega) | (simp; omega)))))))
                clear hK K
                (try simp only [Act.put, List.setIfInBounds_toArray, List.set_cons_zero, List.set_cons_succ])))
              (refine wpAnyH_ready (rs := [6]) (by kernel_rfl) (by simp) ?_)
              refine AllReadyH.cons rfl (fun K hK => ?_) AllReadyH.nil
              (go_simp
               (refine hK.out _ _ ?_ (fun hHeld => ?_)
                · (try dsimp only); ((refine ⟨⟨?_, ?_, ?_, ?_, ?_, ?_⟩, ?_, ?_, ?_, ?_⟩ <;> (repeat (first | with_reducible assumption | (simp [go_sem]; done) | with_reducible apply cell_alloc | with_reducible apply cell_drew | with_reducible apply cell_drewN | (with_reducible apply Ab.at; with_reducible assumption) | (with_reducible refine cell_set ?_ ?_; rotate_left; focus (first | (simp; done) | (simp; omega))) | (with_reducible refine cell_setb ?_ ?_; rotate_left; focus (first | omega | (simp only; omega) | (simp; omega)))))))
                clear hK K
                (try simp only [Act.put, List.setIfInBounds_toArray, List.set_cons_zero, List.set_cons_succ])))
              (refine wpAnyH_ready (rs := [7]) (by kernel_rfl) (by simp) ?_)
              refine AllReadyH.cons rfl (fun K hK => ?_) AllReadyH.nil
              (go_simp
               (refine hK.out _ _ ?_ (fun hHeld => ?_)
                · (try dsimp only); ((refine ⟨⟨?_, ?_, ?_, ?_, ?_, ?_⟩, ?_, ?_, ?_, ?_⟩ <;> (repeat (first | with_reducible assumption | (simp [go_sem]; done) | with_reducible apply cell_alloc | with_reducible apply cell_drew | with_reducible apply cell_drewN | (with_reducible apply Ab.at; with_reducible assumption) | (with_reducible refine cell_set ?_ ?_; rotate_left; focus (first | (simp; done) | (simp; omega))) | (with_reducible refine cell_setb ?_ ?_; rotate_left; focus (first | omega | (simp only; omega) | (simp; omega)))))))
                clear hK K
                (try simp only [Act.put, List.setIfInBounds_toArray, List.set_cons_zero, List.set_cons_succ])))
              refine wpAnyH_done (by kernel_rfl) ?_ _
              go_wp2_with fail
              go_meet
              exact ⟨_, _, D, E, F, G, cd, ce, cf, cg, rfl, rfl, ⟨(by first | (simp [go_sem]; done) | (simp [go_sem, *]; done)), (by first | (simp [go_sem]; done) | (simp [go_sem, *]; done)), (by first | (simp [go_sem]; done) | (simp [go_sem, *]; done)), (by first | (simp [go_sem]; done) | (simp [go_sem, *]; done)), (by first | (simp [go_sem]; done) | (simp [go_sem, *]; done)), (by first | (simp [go_sem]; done) | (simp [go_sem, *]; done))⟩, ⟨(by first | (simp [go_sem]; done) | (simp [go_sem, *]; done)), (by first | (simp [go_sem]; done) | (simp [go_sem, *]; done)), (by first | (simp [go_sem]; done) | (simp [go_sem, *]; done)), (by first | (simp [go_sem]; done) | (simp [go_sem, *]; done))⟩, ⟨(by repeat (first | with_reducible assumption | with_reducible refine RB.drewW ?_ | with_reducible refine RB.allocW ?_ _ | with_reducible refine RB.ne ?_ (fun a ha => by have h1 := rD a ha; first | omega | (simp; omega)) _)), (by repeat (first | with_reducible assumption | with_reducible refine RB.drewW ?_ | with_reducible refine RB.allocW ?_ _ | with_reducible refine RB.ne ?_ (fun a ha => by have h1 := rE a ha; first | omega | (simp; omega)) _)), (by repeat (first | with_reducible assumption | with_reducible refine RB.drewW ?_ | with_reducible refine RB.allocW ?_ _ | with_reducible refine RB.ne ?_ (fun a ha => by have h1 := rF a ha; first | omega | (simp; omega)) _)), (by repeat (first | with_reducible assumption | with_reducible refine RB.drewW ?_ | with_reducible refine RB.allocW ?_ _ | with_reducible refine RB.ne ?_ (fun a ha => by have h1 := rG a ha; first | omega | (simp; omega)) _))⟩, ⟨lD, lE, lF, lG⟩, (by repeat (first | with_reducible exact Ab.refl _ | with_reducible assumption | with_reducible refine Ab.drew ?_ | with_reducible refine Ab.drewN ?_ _ | with_reducible refine Ab.alloc ?_ _ | with_reducible refine Ab.trans ?_ (by assumption) | with_reducible refine Ab.set ?_ (by first | (simp; done) | omega | (simp; omega)) _))⟩
            · (go_simp
               (refine hK.out _ _ ?_ (fun hHeld => ?_)
                · (try dsimp only); ((refine ⟨⟨?_, ?_, ?_, ?_, ?_, ?_⟩, ?_, ?_, ?_, ?_⟩ <;> (repeat (first | with_reducible assumption | (simp [go_sem]; done) | with_reducible apply cell_alloc | with_reducible apply cell_drew | with_reducible apply cell_drewN | (with_reducible apply Ab.at; with_reducible assumption) | (with_reducible refine cell_set ?_ ?_; rotate_left; focus (first | (simp; done) | (simp; omega))) | (with_reducible refine cell_setb ?_ ?_; rotate_left; focus (first | omega | (simp only; omega) | (simp; omega)))))))
                clear hK K
                (try simp only [Act.put, List.setIfInBounds_toArray, List.set_cons_zero, List.set_cons_succ])))
              (refine wpAnyH_ready (rs := [3]) (by kernel_rfl) (by simp) ?_)
              refine AllReadyH.cons rfl (fun K hK => ?_) AllReadyH.nil
              (go_simp
               ((go_at_call 23)
                refine (twin_any A' B' ca' cb' s' t' cap' dn' _ (hs'.ab (by repeat (first | with_reducible exact Ab.refl _ | with_reducible assumption | with_reducible refine Ab.drew ?_ | with_reducible refine Ab.drewN ?_ _ | with_reducible refine Ab.alloc ?_ _ | with_reducible refine Ab.trans ?_ (by assumption) | with_reducible refine Ab.set ?_ (by first | (simp; done) | omega | (simp; omega)) _))) (ht'.ab (by repeat (first | with_reducible exact Ab.refl _ | with_reducible assumption | with_reducible refine Ab.drew ?_ | with_reducible refine Ab.drewN ?_ _ | with_reducible refine Ab.alloc ?_ _ | with_reducible refine Ab.trans ?_ (by assumption) | with_reducible refine Ab.set ?_ (by first | (simp; done) | omega | (simp; omega)) _))) hca' hcb' (by omega) (by omega)).mono ?_
                rintro e wu ⟨r', F, G, cf, cg, er', rfl, o3, o4, hbu⟩
                obtain rfl : r' = ⟨s', t', cap', dn'⟩ := er'.out
                clear er'
                simp only at o3 o4
                (try simp only)
                have lF := o3.le
                have lG := o4.le
                have rF : ∀ a, F = some a → wt.heap.size + 1 ≤ a.block ∧ a.block < wu.heap.size := fun a ha => by have h := o3.rng a ha; (try simp at h); exact h
                have rG : ∀ a, G = some a → wt.heap.size + 1 ≤ a.block ∧ a.block < wu.heap.size := fun a ha => by have h := o4.rng a ha; (try simp at h); exact h
                have zu := hbu.size
                (try simp at zu)
                have hbtu : Ab wt wu := (by repeat (first | with_reducible exact Ab.refl _ | with_reducible assumption | with_reducible refine Ab.drew ?_ | with_reducible refine Ab.drewN ?_ _ | with_reducible refine Ab.alloc ?_ _ | with_reducible refine Ab.trans ?_ (by assumption) | with_reducible refine Ab.set ?_ (by first | (simp; done) | omega | (simp; omega)) _))
                have c1 : RB wu 0 D s := o1.rb.zero.ab hbtu
                have c2 : RB wu 0 E t := o2.rb.zero.ab hbtu
                have c3 : RB wu 0 F s' := o3.rb.zero
                have c4 : RB wu 0 G t' := o4.rb.zero
                have y9q0 := hbu.at (p := ⟨wt.heap.size, 0, none⟩) (v := .slice none 0 0) (by simp [go_sem]); have y9q1 := hbu.at (p := ⟨wt.heap.size, 1, none⟩) (v := .slice none 0 0) (by simp [go_sem]); have y9q2 := hbu.at (p := ⟨wt.heap.size, 2, none⟩) (v := .int .i64 0) (by simp [go_sem]); have y9q3 := hbu.at (p := ⟨wt.heap.size, 3, none⟩) (v := .bool false) (by simp [go_sem]); have y9q4 := hbu.at (p := ⟨wt.heap.size, 4, none⟩) (v := .int .i64 0) (by simp [go_sem]); have y9q5 := hbu.at (p := ⟨wt.heap.size, 5, none⟩) (v := .int .i64 0) (by simp [go_sem])
                have y9r0 : wu.frozen? ⟨wt.heap.size, 0, none⟩ = false := (hbu.frozen (p := ⟨wt.heap.size, 0, none⟩) (by first | (simp; done) | omega | (simp; omega))).trans (by simp [go_sem]); have y9r1 : wu.frozen? ⟨wt.heap.size, 1, none⟩ = false := (hbu.frozen (p := ⟨wt.heap.size, 1, none⟩) (by first | (simp; done) | omega | (simp; omega))).trans (by simp [go_sem]); have y9r2 : wu.frozen? ⟨wt.heap.size, 2, none⟩ = false := (hbu.frozen (p := ⟨wt.heap.size, 2, none⟩) (by first | (simp; done) | omega | (simp; omega))).trans (by simp [go_sem]); have y9r3 : wu.frozen? ⟨wt.heap.size, 3, none⟩ = false := (hbu.frozen (p := ⟨wt.heap.size, 3, none⟩) (by first | (simp; done) | omega | (simp; omega))).trans (by simp [go_sem]); have y9r4 : wu.frozen? ⟨wt.heap.size, 4, none⟩ = false := (hbu.frozen (p := ⟨wt.heap.size, 4, none⟩) (by first | (simp; done) | omega | (simp; omega))).trans (by simp [go_sem]); have y9r5 : wu.frozen? ⟨wt.heap.size, 5, none⟩ = false := (hbu.frozen (p := ⟨wt.heap.size, 5, none⟩) (by first | (simp; done) | omega | (simp; omega))).trans (by simp [go_sem])
                have y9na := fun (o : Obj) (j : Nat) => World.cell?_alloc_lt wu o ⟨wt.heap.size, j, none⟩ (by first | (simp; done) | omega | (simp; omega))
                have y9nb := fun (o : Obj) (j : Nat) => ((Ab.refl wu).alloc o).frozen (p := ⟨wt.heap.size, j, none⟩) (by first | (simp; done) | omega | (simp; omega))
                have hbb := hbt.trans hbtu
                have y10q0 := hbb.at (p := ⟨w2.heap.size, 0, none⟩) (v := .slice none 0 0) (by simp [go_sem]); have y10q1 := hbb.at (p := ⟨w2.heap.size, 1, none⟩) (v := .slice none 0 0) (by simp [go_sem]); have y10q2 := hbb.at (p := ⟨w2.heap.size, 2, none⟩) (v := .int .i64 0) (by simp [go_sem]); have y10q3 := hbb.at (p := ⟨w2.heap.size, 3, none⟩) (v := .bool false) (by simp [go_sem])
                have y10r0 : wu.frozen? ⟨w2.heap.size, 0, none⟩ = false := (hbb.frozen (p := ⟨w2.heap.size, 0, none⟩) (by first | (simp; done) | omega | (simp; omega))).trans (by simp [go_sem]); have y10r1 : wu.frozen? ⟨w2.heap.size, 1, none⟩ = false := (hbb.frozen (p := ⟨w2.heap.size, 1, none⟩) (by first | (simp; done) | omega | (simp; omega))).trans (by simp [go_sem]); have y10r2 : wu.frozen? ⟨w2.heap.size, 2, none⟩ = false := (hbb.frozen (p := ⟨w2.heap.size, 2, none⟩) (by first | (simp; done) | omega | (simp; omega))).trans (by simp [go_sem]); have y10r3 : wu.frozen? ⟨w2.heap.size, 3, none⟩ = false := (hbb.frozen (p := ⟨w2.heap.size, 3, none⟩) (by first | (simp; done) | omega | (simp; omega))).trans (by simp [go_sem])
                have y10na := fun (o : Obj) (j : Nat) => World.cell?_alloc_lt wu o ⟨w2.heap.size, j, none⟩ (by first | (simp; done) | omega | (simp; omega))
                have y10nb := fun (o : Obj) (j : Nat) => ((Ab.refl wu).alloc o).frozen (p := ⟨w2.heap.size, j, none⟩) (by first | (simp; done) | omega | (simp; omega))
                skip)
               (try go_wp2_with fail)
               (refine hK.out _ _ ?_ (fun hHeld => ?_)
                · (try dsimp only); ((refine ⟨⟨?_, ?_, ?_, ?_, ?_, ?_⟩, ?_, ?_, ?_, ?_⟩ <;> (repeat (first | with_reducible assumption | (simp [go_sem]; done) | with_reducible apply cell_alloc | with_reducible apply cell_drew | with_reducible apply cell_drewN | (with_reducible apply Ab.at; with_reducible assumption) | (with_reducible refine cell_set ?_ ?_; rotate_left; focus (first | (simp; done) | (simp; omega))) | (with_reducible refine cell_setb ?_ ?_; rotate_left; focus (first | omega | (simp only; omega) | (simp; omega)))))))
                clear hK K
                (try simp only [Act.put, List.setIfInBounds_toArray, List.set_cons_zero, List.set_cons_succ])))
              (refine wpAnyH_ready (rs := [6]) (by kernel_rfl) (by simp) ?_)
              refine AllReadyH.cons rfl (fun K hK => ?_) AllReadyH.nil
              (go_simp
               (refine hK.out _ _ ?_ (fun hHeld => ?_)
                · (try dsimp only); ((refine ⟨⟨?_, ?_, ?_, ?_, ?_, ?_⟩, ?_, ?_, ?_, ?_⟩ <;> (repeat (first | with_reducible assumption | (simp [go_sem]; done) | with_reducible apply cell_alloc | with_reducible apply cell_drew | with_reducible apply cell_drewN | (with_reducible apply Ab.at; with_reducible assumption) | (with_reducible refine cell_set ?_ ?_; rotate_left; focus (first | (simp; done) | (simp; omega))) | (with_reducible refine cell_setb ?_ ?_; rotate_left; focus (first | omega | (simp only; omega) | (simp; omega)))))))
                clear hK K
                (try simp only [Act.put, List.setIfInBounds_toArray, List.set_cons_zero, List.set_cons_succ])))
              (refine wpAnyH_ready (rs := [7]) (by kernel_rfl) (by simp) ?_)
              refine AllReadyH.cons rfl (fun K hK => ?_) AllReadyH.nil
              (go_simp
               (refine hK.out _ _ ?_ (fun hHeld => ?_)
                · (try dsimp only); ((refine ⟨⟨?_, ?_, ?_, ?_, ?_, ?_⟩, ?_, ?_, ?_, ?_⟩ <;> (repeat (first | with_reducible assumption | (simp [go_sem]; done) | with_reducible apply cell_alloc | with_reducible apply cell_drew | with_reducible apply cell_drewN | (with_reducible apply Ab.at; with_reducible assumption) | (with_reducible refine cell_set ?_ ?_; rotate_left; focus (first | (simp; done) | (simp; omega))) | (with_reducible refine cell_setb ?_ ?_; rotate_left; focus (first | omega | (simp only; omega) | (simp; omega)))))))
                clear hK K
                (try simp only [Act.put, List.setIfInBounds_toArray, List.set_cons_zero, List.set_cons_succ])))
              refine wpAnyH_done (by kernel_rfl) ?_ _
              go_wp2_with fail
              go_meet
              exact ⟨_, _, D, E, F, G, cd, ce, cf, cg, rfl, rfl, ⟨(by first | (simp [go_sem]; done) | (simp [go_sem, *]; done)), (by first | (simp [go_sem]; done) | (simp [go_sem, *]; done)), (by first | (simp [go_sem]; done) | (simp [go_sem, *]; done)), (by first | (simp [go_sem]; done) | (simp [go_sem, *]; done)), (by first | (simp [go_sem]; done) | (simp [go_sem, *]; done)), (by first | (simp [go_sem]; done) | (simp [go_sem, *]; done))⟩, ⟨(by first | (simp [go_sem]; done) | (simp [go_sem, *]; done)), (by first | (simp [go_sem]; done) | (simp [go_sem, *]; done)), (by first | (simp [go_sem]; done) | (simp [go_sem, *]; done)), (by first | (simp [go_sem]; done) | (simp [go_sem, *]; done))⟩, ⟨(by repeat (first | with_reducible assumption | with_reducible refine RB.drewW ?_ | with_reducible refine RB.allocW ?_ _ | with_reducible refine RB.ne ?_ (fun a ha => by have h1 := rD a ha; first | omega | (simp; omega)) _)), (by repeat (first | with_reducible assumption | with_reducible refine RB.drewW ?_ | with_reducible refine RB.allocW ?_ _ | with_reducible refine RB.ne ?_ (fun a ha => by have h1 := rE a ha; first | omega | (simp; omega)) _)), (by repeat (first | with_reducible assumption | with_reducible refine RB.drewW ?_ | with_reducible refine RB.allocW ?_ _ | with_reducible refine RB.ne ?_ (fun a ha => by have h1 := rF a ha; first | omega | (simp; omega)) _)), (by repeat (first | with_reducible assumption | with_reducible refine RB.drewW ?_ | with_reducible refine RB.allocW ?_ _ | with_reducible refine RB.ne ?_ (fun a ha => by have h1 := rG a ha; first | omega | (simp; omega)) _))⟩, ⟨lD, lE, lF, lG⟩, (by repeat (first | with_reducible exact Ab.refl _ | with_reducible assumption | with_reducible refine Ab.drew ?_ | with_reducible refine Ab.drewN ?_ _ | with_reducible refine Ab.alloc ?_ _ | with_reducible refine Ab.trans ?_ (by assumption) | with_reducible refine Ab.set ?_ (by first | (simp; done) | omega | (simp; omega)) _))⟩
          · (go_simp
             (refine hK.out _ _ ?_ (fun hHeld => ?_)
              · (try dsimp only); ((refine ⟨⟨?_, ?_, ?_, ?_, ?_, ?_⟩, ?_, ?_, ?_, ?_⟩ <;> (repeat (first | with_reducible assumption | (simp [go_sem]; done) | with_reducible apply cell_alloc | with_reducible apply cell_drew | with_reducible apply cell_drewN | (with_reducible apply Ab.at; with_reducible assumption) | (with_reducible refine cell_set ?_ ?_; rotate_left; focus (first | (simp; done) | (simp; omega))) | (with_reducible refine cell_setb ?_ ?_; rotate_left; focus (first | omega | (simp only; omega) | (simp; omega)))))))
              clear hK K
              (try simp only [Act.put, List.setIfInBounds_toArray, List.set_cons_zero, List.set_cons_succ])))
            (refine wpAnyH_ready (rs := [1]) (by kernel_rfl) (by simp) ?_)
            refine AllReadyH.cons rfl (fun K hK => ?_) AllReadyH.nil
            (go_simp
             ((go_at_call 22)
              refine (ltwin_any A B ca cb s t cap dn f n _ (hs.ab (by repeat (first | with_reducible exact Ab.refl _ | with_reducible assumption | with_reducible refine Ab.drew ?_ | with_reducible refine Ab.drewN ?_ _ | with_reducible refine Ab.alloc ?_ _ | with_reducible refine Ab.trans ?_ (by assumption) | with_reducible refine Ab.set ?_ (by first | (simp; done) | omega | (simp; omega)) _))) (ht.ab (by repeat (first | with_reducible exact Ab.refl _ | with_reducible assumption | with_reducible refine Ab.drew ?_ | with_reducible refine Ab.drewN ?_ _ | with_reducible refine Ab.alloc ?_ _ | with_reducible refine Ab.trans ?_ (by assumption) | with_reducible refine Ab.set ?_ (by first | (simp; done) | omega | (simp; omega)) _))) hca hcb (by omega) (by omega)).mono ?_
              rintro e wt ⟨r, D, E, cd, ce, er, rfl, o1, o2, hbt⟩
              obtain rfl : r = ⟨⟨s, t, cap, dn⟩, f, n⟩ := er.out
              clear er
              simp only at o1 o2
              (try simp only)
              have lD := o1.le
              have lE := o2.le
              have rD : ∀ a, D = some a → w2.heap.size + 1 + 1 ≤ a.block ∧ a.block < wt.heap.size := fun a ha => by have h := o1.rng a ha; (try simp at h); exact h
              have rE : ∀ a, E = some a → w2.heap.size + 1 + 1 ≤ a.block ∧ a.block < wt.heap.size := fun a ha => by have h := o2.rng a ha; (try simp at h); exact h
              have zt := hbt.size
              (try simp at zt)
              have y10q0 := hbt.at (p := ⟨w2.heap.size, 0, none⟩) (v := .slice none 0 0) (by simp [go_sem]); have y10q1 := hbt.at (p := ⟨w2.heap.size, 1, none⟩) (v := .slice none 0 0) (by simp [go_sem]); have y10q2 := hbt.at (p := ⟨w2.heap.size, 2, none⟩) (v := .int .i64 0) (by simp [go_sem]); have y10q3 := hbt.at (p := ⟨w2.heap.size, 3, none⟩) (v := .bool false) (by simp [go_sem])
              have y10r0 : wt.frozen? ⟨w2.heap.size, 0, none⟩ = false := (hbt.frozen (p := ⟨w2.heap.size, 0, none⟩) (by first | (simp; done) | omega | (simp; omega))).trans (by simp [go_sem]); have y10r1 : wt.frozen? ⟨w2.heap.size, 1, none⟩ = false := (hbt.frozen (p := ⟨w2.heap.size, 1, none⟩) (by first | (simp; done) | omega | (simp; omega))).trans (by simp [go_sem]); have y10r2 : wt.frozen? ⟨w2.heap.size, 2, none⟩ = false := (hbt.frozen (p := ⟨w2.heap.size, 2, none⟩) (by first | (simp; done) | omega | (simp; omega))).trans (by simp [go_sem]); have y10r3 : wt.frozen? ⟨w2.heap.size, 3, none⟩ = false := (hbt.frozen (p := ⟨w2.heap.size, 3, none⟩) (by first | (simp; done) | omega | (simp; omega))).trans (by simp [go_sem])
              have y10na := fun (o : Obj) (j : Nat) => World.cell?_alloc_lt wt o ⟨w2.heap.size, j, none⟩ (by first | (simp; done) | omega | (simp; omega))
              have y10nb := fun (o : Obj) (j : Nat) => ((Ab.refl wt).alloc o).frozen (p := ⟨w2.heap.size, j, none⟩) (by first | (simp; done) | omega | (simp; omega))
              have y9q0 := hbt.at (p := ⟨w2.heap.size + 1, 0, none⟩) (v := .slice none 0 0) (by simp [go_sem]); have y9q1 := hbt.at (p := ⟨w2.heap.size + 1, 1, none⟩) (v := .slice none 0 0) (by simp [go_sem]); have y9q2 := hbt.at (p := ⟨w2.heap.size + 1, 2, none⟩) (v := .int .i64 0) (by simp [go_sem]); have y9q3 := hbt.at (p := ⟨w2.heap.size + 1, 3, none⟩) (v := .bool false) (by simp [go_sem]); have y9q4 := hbt.at (p := ⟨w2.heap.size + 1, 4, none⟩) (v := .int .i64 0) (by simp [go_sem]); have y9q5 := hbt.at (p := ⟨w2.heap.size + 1, 5, none⟩) (v := .int .i64 0) (by simp [go_sem])
              have y9r0 : wt.frozen? ⟨w2.heap.size + 1, 0, none⟩ = false := (hbt.frozen (p := ⟨w2.heap.size + 1, 0, none⟩) (by first | (simp; done) | omega | (simp; omega))).trans (by simp [go_sem]); have y9r1 : wt.frozen? ⟨w2.heap.size + 1, 1, none⟩ = false := (hbt.frozen (p := ⟨w2.heap.size + 1, 1, none⟩) (by first | (simp; done) | omega | (simp; omega))).trans (by simp [go_sem]); have y9r2 : wt.frozen? ⟨w2.heap.size + 1, 2, none⟩ = false := (hbt.frozen (p := ⟨w2.heap.size + 1, 2, none⟩) (by first | (simp; done) | omega | (simp; omega))).trans (by simp [go_sem]); have y9r3 : wt.frozen? ⟨w2.heap.size + 1, 3, none⟩ = false := (hbt.frozen (p := ⟨w2.heap.size + 1, 3, none⟩) (by first | (simp; done) | omega | (simp; omega))).trans (by simp [go_sem]); have y9r4 : wt.frozen? ⟨w2.heap.size + 1, 4, none⟩ = false := (hbt.frozen (p := ⟨w2.heap.size + 1, 4, none⟩) (by first | (simp; done) | omega | (simp; omega))).trans (by simp [go_sem]); have y9r5 : wt.frozen? ⟨w2.heap.size + 1, 5, none⟩ = false := (hbt.frozen (p := ⟨w2.heap.size + 1, 5, none⟩) (by first | (simp; done) | omega | (simp; omega))).trans (by simp [go_sem])
              have y9na := fun (o : Obj) (j : Nat) => World.cell?_alloc_lt wt o ⟨w2.heap.size + 1, j, none⟩ (by first | (simp; done) | omega | (simp; omega))
              have y9nb := fun (o : Obj) (j : Nat) => ((Ab.refl wt).alloc o).frozen (p := ⟨w2.heap.size + 1, j, none⟩) (by first | (simp; done) | omega | (simp; omega))
              skip)
             (try go_wp2_with fail)
             (refine hK.out _ _ ?_ (fun hHeld => ?_)
              · (try dsimp only); ((refine ⟨⟨?_, ?_, ?_, ?_, ?_, ?_⟩, ?_, ?_, ?_, ?_⟩ <;> (repeat (first | with_reducible assumption | (simp [go_sem]; done) | with_reducible apply cell_alloc | with_reducible apply cell_drew | with_reducible apply cell_drewN | (with_reducible apply Ab.at; with_reducible assumption) | (with_reducible refine cell_set ?_ ?_; rotate_left; focus (first | (simp; done) | (simp; omega))) | (with_reducible refine cell_setb ?_ ?_; rotate_left; focus (first | omega | (simp only; omega) | (simp; omega)))))))
              clear hK K
              (try simp only [Act.put, List.setIfInBounds_toArray, List.set_cons_zero, List.set_cons_succ])))
            (refine wpAnyH_ready (rs := [3]) (by kernel_rfl) (by simp) ?_)
            refine AllReadyH.cons rfl (fun K hK => ?_) AllReadyH.nil
            (go_simp
             ((go_at_call 23)
              refine (twin_any A' B' ca' cb' s' t' cap' dn' _ (hs'.ab (by repeat (first | with_reducible exact Ab.refl _ | with_reducible assumption | with_reducible refine Ab.drew ?_ | with_reducible refine Ab.drewN ?_ _ | with_reducible refine Ab.alloc ?_ _ | with_reducible refine Ab.trans ?_ (by assumption) | with_reducible refine Ab.set ?_ (by first | (simp; done) | omega | (simp; omega)) _))) (ht'.ab (by repeat (first | with_reducible exact Ab.refl _ | with_reducible assumption | with_reducible refine Ab.drew ?_ | with_reducible refine Ab.drewN ?_ _ | with_reducible refine Ab.alloc ?_ _ | with_reducible refine Ab.trans ?_ (by assumption) | with_reducible refine Ab.set ?_ (by first | (simp; done) | omega | (simp; omega)) _))) hca' hcb' (by omega) (by omega)).mono ?_
              rintro e wu ⟨r', F, G, cf, cg, er', rfl, o3, o4, hbu⟩
              obtain rfl : r' = ⟨s', t', cap', dn'⟩ := er'.out
              clear er'
              simp only at o3 o4
              (try simp only)
              have lF := o3.le
              have lG := o4.le
              have rF : ∀ a, F = some a → wt.heap.size ≤ a.block ∧ a.block < wu.heap.size := fun a ha => by have h := o3.rng a ha; (try simp at h); exact h
              have rG : ∀ a, G = some a → wt.heap.size ≤ a.block ∧ a.block < wu.heap.size := fun a ha => by have h := o4.rng a ha; (try simp at h); exact h
              have zu := hbu.size
              (try simp at zu)
              have hbtu : Ab wt wu := (by repeat (first | with_reducible exact Ab.refl _ | with_reducible assumption | with_reducible refine Ab.drew ?_ | with_reducible refine Ab.drewN ?_ _ | with_reducible refine Ab.alloc ?_ _ | with_reducible refine Ab.trans ?_ (by assumption) | with_reducible refine Ab.set ?_ (by first | (simp; done) | omega | (simp; omega)) _))
              have c1 : RB wu 0 D s := o1.rb.zero.ab hbtu
              have c2 : RB wu 0 E t := o2.rb.zero.ab hbtu
              have c3 : RB wu 0 F s' := o3.rb.zero
              have c4 : RB wu 0 G t' := o4.rb.zero
              have hbb := hbt.trans hbtu
              have y10q0 := hbb.at (p := ⟨w2.heap.size, 0, none⟩) (v := .slice none 0 0) (by simp [go_sem]); have y10q1 := hbb.at (p := ⟨w2.heap.size, 1, none⟩) (v := .slice none 0 0) (by simp [go_sem]); have y10q2 := hbb.at (p := ⟨w2.heap.size, 2, none⟩) (v := .int .i64 0) (by simp [go_sem]); have y10q3 := hbb.at (p := ⟨w2.heap.size, 3, none⟩) (v := .bool false) (by simp [go_sem])
              have y10r0 : wu.frozen? ⟨w2.heap.size, 0, none⟩ = false := (hbb.frozen (p := ⟨w2.heap.size, 0, none⟩) (by first | (simp; done) | omega | (simp; omega))).trans (by simp [go_sem]); have y10r1 : wu.frozen? ⟨w2.heap.size, 1, none⟩ = false := (hbb.frozen (p := ⟨w2.heap.size, 1, none⟩) (by first | (simp; done) | omega | (simp; omega))).trans (by simp [go_sem]); have y10r2 : wu.frozen? ⟨w2.heap.size, 2, none⟩ = false := (hbb.frozen (p := ⟨w2.heap.size, 2, none⟩) (by first | (simp; done) | omega | (simp; omega))).trans (by simp [go_sem]); have y10r3 : wu.frozen? ⟨w2.heap.size, 3, none⟩ = false := (hbb.frozen (p := ⟨w2.heap.size, 3, none⟩) (by first | (simp; done) | omega | (simp; omega))).trans (by simp [go_sem])
              have y10na := fun (o : Obj) (j : Nat) => World.cell?_alloc_lt wu o ⟨w2.heap.size, j, none⟩ (by first | (simp; done) | omega | (simp; omega))
              have y10nb := fun (o : Obj) (j : Nat) => ((Ab.refl wu).alloc o).frozen (p := ⟨w2.heap.size, j, none⟩) (by first | (simp; done) | omega | (simp; omega))
              have y9q0 := hbb.at (p := ⟨w2.heap.size + 1, 0, none⟩) (v := .slice none 0 0) (by simp [go_sem]); have y9q1 := hbb.at (p := ⟨w2.heap.size + 1, 1, none⟩) (v := .slice none 0 0) (by simp [go_sem]); have y9q2 := hbb.at (p := ⟨w2.heap.size + 1, 2, none⟩) (v := .int .i64 0) (by simp [go_sem]); have y9q3 := hbb.at (p := ⟨w2.heap.size + 1, 3, none⟩) (v := .bool false) (by simp [go_sem]); have y9q4 := hbb.at (p := ⟨w2.heap.size + 1, 4, none⟩) (v := .int .i64 0) (by simp [go_sem]); have y9q5 := hbb.at (p := ⟨w2.heap.size + 1, 5, none⟩) (v := .int .i64 0) (by simp [go_sem])
              have y9r0 : wu.frozen? ⟨w2.heap.size + 1, 0, none⟩ = false := (hbb.frozen (p := ⟨w2.heap.size + 1, 0, none⟩) (by first | (simp; done) | omega | (simp; omega))).trans (by simp [go_sem]); have y9r1 : wu.frozen? ⟨w2.heap.size + 1, 1, none⟩ = false := (hbb.frozen (p := ⟨w2.heap.size + 1, 1, none⟩) (by first | (simp; done) | omega | (simp; omega))).trans (by simp [go_sem]); have y9r2 : wu.frozen? ⟨w2.heap.size + 1, 2, none⟩ = false := (hbb.frozen (p := ⟨w2.heap.size + 1, 2, none⟩) (by first | (simp; done) | omega | (simp; omega))).trans (by simp [go_sem]); have y9r3 : wu.frozen? ⟨w2.heap.size + 1, 3, none⟩ = false := (hbb.frozen (p := ⟨w2.heap.size + 1, 3, none⟩) (by first | (simp; done) | omega | (simp; omega))).trans (by simp [go_sem]); have y9r4 : wu.frozen? ⟨w2.heap.size + 1, 4, none⟩ = false := (hbb.frozen (p := ⟨w2.heap.size + 1, 4, none⟩) (by first | (simp; done) | omega | (simp; omega))).trans (by simp [go_sem]); have y9r5 : wu.frozen? ⟨w2.heap.size + 1, 5, none⟩ = false := (hbb.frozen (p := ⟨w2.heap.size + 1, 5, none⟩) (by first | (simp; done) | omega | (simp; omega))).trans (by simp [go_sem])
              have y9na := fun (o : Obj) (j : Nat) => World.cell?_alloc_lt wu o ⟨w2.heap.size + 1, j, none⟩ (by first | (simp; done) | omega | (simp; omega))
              have y9nb := fun (o : Obj) (j : Nat) => ((Ab.refl wu).alloc o).frozen (p := ⟨w2.heap.size + 1, j, none⟩) (by first | (simp; done) | omega | (simp; omega))
              skip)
             (try go_wp2_with fail)
             (refine hK.out _ _ ?_ (fun hHeld => ?_)
              · (try dsimp only); ((refine ⟨⟨?_, ?_, ?_, ?_, ?_, ?_⟩, ?_, ?_, ?_, ?_⟩ <;> (repeat (first | with_reducible assumption | (simp [go_sem]; done) | with_reducible apply cell_alloc | with_reducible apply cell_drew | with_reducible apply cell_drewN | (with_reducible apply Ab.at; with_reducible assumption) | (with_reducible refine cell_set ?_ ?_; rotate_left; focus (first | (simp; done) | (simp; omega))) | (with_reducible refine cell_setb ?_ ?_; rotate_left; focus (first | omega | (simp only; omega) | (simp; omega)))))))
              clear hK K
              (try simp only [Act.put, List.setIfInBounds_toArray, List.set_cons_zero, List.set_cons_succ])))
            (refine wpAnyH_ready (rs := [6]) (by kernel_rfl) (by simp) ?_)
            refine AllReadyH.cons rfl (fun K hK => ?_) AllReadyH.nil
            (go_simp
             (refine hK.out _ _ ?_ (fun hHeld => ?_)
              · (try dsimp only); ((refine ⟨⟨?_, ?_, ?_, ?_, ?_, ?_⟩, ?_, ?_, ?_, ?_⟩ <;> (repeat (first | with_reducible assumption | (simp [go_sem]; done) | with_reducible apply cell_alloc | with_reducible apply cell_drew | with_reducible apply cell_drewN | (with_reducible apply Ab.at; with_reducible assumption) | (with_reducible refine cell_set ?_ ?_; rotate_left; focus (first | (simp; done) | (simp; omega))) | (with_reducible refine cell_setb ?_ ?_; rotate_left; focus (first | omega | (simp only; omega) | (simp; omega)))))))
              clear hK K
              (try simp only [Act.put, List.setIfInBounds_toArray, List.set_cons_zero, List.set_cons_succ])))
            (refine wpAnyH_ready (rs := [7]) (by kernel_rfl) (by simp) ?_)
            refine AllReadyH.cons rfl (fun K hK => ?_) AllReadyH.nil
            (go_simp
             (refine hK.out _ _ ?_ (fun hHeld => ?_)
              · (try dsimp only); ((refine ⟨⟨?_, ?_, ?_, ?_, ?_, ?_⟩, ?_, ?_, ?_, ?_⟩ <;> (repeat (first | with_reducible assumption | (simp [go_sem]; done) | with_reducible apply cell_alloc | with_reducible apply cell_drew | with_reducible apply cell_drewN | (with_reducible apply Ab.at; with_reducible assumption) | (with_reducible refine cell_set ?_ ?_; rotate_left; focus (first | (simp; done) | (simp; omega))) | (with_reducible refine cell_setb ?_ ?_; rotate_left; focus (first | omega | (simp only; omega) | (simp; omega)))))))
              clear hK K
              (try simp only [Act.put, List.setIfInBounds_toArray, List.set_cons_zero, List.set_cons_succ])))
            refine wpAnyH_done (by kernel_rfl) ?_ _
            go_wp2_with fail
            go_meet
            exact ⟨_, _, D, E, F, G, cd, ce, cf, cg, rfl, rfl, ⟨(by first | (simp [go_sem]; done) | (simp [go_sem, *]; done)), (by first | (simp [go_sem]; done) | (simp [go_sem, *]; done)), (by first | (simp [go_sem]; done) | (simp [go_sem, *]; done)), (by first | (simp [go_sem]; done) | (simp [go_sem, *]; done)), (by first | (simp [go_sem]; done) | (simp [go_sem, *]; done)), (by first | (simp [go_sem]; done) | (simp [go_sem, *]; done))⟩, ⟨(by first | (simp [go_sem]; done) | (simp [go_sem, *]; done)), (by first | (simp [go_sem]; done) | (simp [go_sem, *]; done)), (by first | (simp [go_sem]; done) | (simp [go_sem, *]; done)), (by first | (simp [go_sem]; done) | (simp [go_sem, *]; done))⟩, ⟨(by repeat (first | with_reducible assumption | with_reducible refine RB.drewW ?_ | with_reducible refine RB.allocW ?_ _ | with_reducible refine RB.ne ?_ (fun a ha => by have h1 := rD a ha; first | omega | (simp; omega)) _)), (by repeat (first | with_reducible assumption | with_reducible refine RB.drewW ?_ | with_reducible refine RB.allocW ?_ _ | with_reducible refine RB.ne ?_ (fun a ha => by have h1 := rE a ha; first | omega | (simp; omega)) _)), (by repeat (first | with_reducible assumption | with_reducible refine RB.drewW ?_ | with_reducible refine RB.allocW ?_ _ | with_reducible refine RB.ne ?_ (fun a ha => by have h1 := rF a ha; first | omega | (simp; omega)) _)), (by repeat (first | with_reducible assumption | with_reducible refine RB.drewW ?_ | with_reducible refine RB.allocW ?_ _ | with_reducible refine RB.ne ?_ (fun a ha => by have h1 := rG a ha; first | omega | (simp; omega)) _))⟩, ⟨lD, lE, lF, lG⟩, (by repeat (first | with_reducible exact Ab.refl _ | with_reducible assumption | with_reducible refine Ab.drew ?_ | with_reducible refine Ab.drewN ?_ _ | with_reducible refine Ab.alloc ?_ _ | with_reducible refine Ab.trans ?_ (by assumption) | with_reducible refine Ab.set ?_ (by first | (simp; done) | omega | (simp; omega)) _))⟩
      obtain ⟨P, Q, D, E, F, G, cd, ce, cf, cg, rfl, rfl, ⟨pq0, pq1, pq2, pq3, pq4, pq5⟩, ⟨rq0, rq1, rq2, rq3⟩, ⟨hD, hE, hF, hG⟩, ⟨lD, lE, lF, lG⟩, hbc⟩ := hcut
      have hwc : Ab w wc := (by repeat (first | with_reducible exact Ab.refl _ | with_reducible assumption | with_reducible refine Ab.drew ?_ | with_reducible refine Ab.drewN ?_ _ | with_reducible refine Ab.alloc ?_ _ | with_reducible refine Ab.trans ?_ (by assumption) | with_reducible refine Ab.set ?_ (by first | (simp; done) | omega | (simp; omega)) _))
      obtain ⟨bq0, bq1, bq2, bq3, bq4, bq5⟩ := cells6 hbc (b := w.heap.size) (v0 := .slice A s.length ca) (v1 := .slice B t.length cb) (v2 := .int .i64 cap) (v3 := .bool dn) (v4 := .int .i64 f) (v5 := .int .i64 n) ⟨bq0, bq1, bq2, bq3, bq4, bq5⟩
      obtain ⟨dq0, dq1, dq2, dq3⟩ := cells4 hbc (b := w.heap.size + 1) (v0 := .slice A' s'.length ca') (v1 := .slice B' t'.length cb') (v2 := .int .i64 cap') (v3 := .bool dn') ⟨dq0, dq1, dq2, dq3⟩
      clear hb1 hb2 hz2 hbc
      go_wp2_with fail
      refine (wopen_any F G cf cg s' t' cap' dn' _ (hF.ab (by repeat (first | with_reducible exact Ab.refl _ | with_reducible assumption | with_reducible refine Ab.drew ?_ | with_reducible refine Ab.drewN ?_ _ | with_reducible refine Ab.alloc ?_ _ | with_reducible refine Ab.trans ?_ (by assumption) | with_reducible refine Ab.set ?_ (by first | (simp; done) | omega | (simp; omega)) _))) (hG.ab (by repeat (first | with_reducible exact Ab.refl _ | with_reducible assumption | with_reducible refine Ab.drew ?_ | with_reducible refine Ab.drewN ?_ _ | with_reducible refine Ab.alloc ?_ _ | with_reducible refine Ab.trans ?_ (by assumption) | with_reducible refine Ab.set ?_ (by first | (simp; done) | omega | (simp; omega)) _))) lF lG (by omega) (by omega) m rs u HSC.out).mono ?_
      rintro e w3 ⟨r3, e3, D3, E3, c3, d3, h3, rfl, p3, q3, hb3⟩
      obtain ⟨bq0, bq1, bq2, bq3, bq4, bq5⟩ := cells6 (hb3) (b := w.heap.size) (v0 := .slice A s.length ca) (v1 := .slice B t.length cb) (v2 := .int .i64 cap) (v3 := .bool dn) (v4 := .int .i64 f) (v5 := .int .i64 n) ⟨bq0, bq1, bq2, bq3, bq4, bq5⟩
      obtain ⟨pq0, pq1, pq2, pq3, pq4, pq5⟩ := cells6 (hb3) (b := P) (v0 := .slice D s.length cd) (v1 := .slice E t.length ce) (v2 := .int .i64 cap) (v3 := .bool dn) (v4 := .int .i64 f) (v5 := .int .i64 n) ⟨pq0, pq1, pq2, pq3, pq4, pq5⟩
      obtain ⟨dq0, dq1, dq2, dq3⟩ := cells4 (hb3) (b := w.heap.size + 1) (v0 := .slice A' s'.length ca') (v1 := .slice B' t'.length cb') (v2 := .int .i64 cap') (v3 := .bool dn') ⟨dq0, dq1, dq2, dq3⟩
      obtain ⟨rq0, rq1, rq2, rq3⟩ := cells4 (hb3) (b := Q) (v0 := .slice F s'.length cf) (v1 := .slice G t'.length cg) (v2 := .int .i64 cap') (v3 := .bool dn') ⟨rq0, rq1, rq2, rq3⟩
      have zb0 : w.heap.size < w3.heap.size := cell_lt bq0
      have zb1 : P < w3.heap.size := cell_lt pq0
      have zb2 : w.heap.size + 1 < w3.heap.size := cell_lt dq0
      have zb3 : Q < w3.heap.size := cell_lt rq0
      have n0 := fun (o : Obj) (j : Nat) => World.cell?_alloc_lt w3 o ⟨w.heap.size, j, none⟩ zb0
      have n1 := fun (o : Obj) (j : Nat) => World.cell?_alloc_lt w3 o ⟨P, j, none⟩ zb1
      have n2 := fun (o : Obj) (j : Nat) => World.cell?_alloc_lt w3 o ⟨w.heap.size + 1, j, none⟩ zb2
      have n3 := fun (o : Obj) (j : Nat) => World.cell?_alloc_lt w3 o ⟨Q, j, none⟩ zb3
      go_wp2_with fail
      clear n0 n1 n2 n3 zb0 zb1 zb2 zb3
      refine (refwopen_any A' B' ca' cb' s' t' cap' dn' _ (hs'.ab (by repeat (first | with_reducible exact Ab.refl _ | with_reducible assumption | with_reducible refine Ab.drew ?_ | with_reducible refine Ab.drewN ?_ _ | with_reducible refine Ab.alloc ?_ _ | with_reducible refine Ab.trans ?_ (by assumption) | with_reducible refine Ab.set ?_ (by first | (simp; done) | omega | (simp; omega)) _))) (ht'.ab (by repeat (first | with_reducible exact Ab.refl _ | with_reducible assumption | with_reducible refine Ab.drew ?_ | with_reducible refine Ab.drewN ?_ _ | with_reducible refine Ab.alloc ?_ _ | with_reducible refine Ab.trans ?_ (by assumption) | with_reducible refine Ab.set ?_ (by first | (simp; done) | omega | (simp; omega)) _))) hca' hcb' (by omega) (by omega) m rs u HSC.out).mono ?_
      rintro e w4 ⟨r4, e4, D4, E4, c4, d4, h4, rfl, p4, q4, hb4⟩
      obtain ⟨rfl, rfl⟩ := Prod.mk.inj (h4.out.trans h3.out.symm)
      have HL4 := Lib.hid h3.out
      clear h3 h4
      have hb34 : Ab w3 w4 := (by repeat (first | with_reducible exact Ab.refl _ | with_reducible assumption | with_reducible refine Ab.drew ?_ | with_reducible refine Ab.drewN ?_ _ | with_reducible refine Ab.alloc ?_ _ | with_reducible refine Ab.trans ?_ (by assumption) | with_reducible refine Ab.set ?_ (by first | (simp; done) | omega | (simp; omega)) _))
      obtain ⟨bq0, bq1, bq2, bq3, bq4, bq5⟩ := cells6 (hb34) (b := w.heap.size) (v0 := .slice A s.length ca) (v1 := .slice B t.length cb) (v2 := .int .i64 cap) (v3 := .bool dn) (v4 := .int .i64 f) (v5 := .int .i64 n) ⟨bq0, bq1, bq2, bq3, bq4, bq5⟩
      obtain ⟨pq0, pq1, pq2, pq3, pq4, pq5⟩ := cells6 (hb34) (b := P) (v0 := .slice D s.length cd) (v1 := .slice E t.length ce) (v2 := .int .i64 cap) (v3 := .bool dn) (v4 := .int .i64 f) (v5 := .int .i64 n) ⟨pq0, pq1, pq2, pq3, pq4, pq5⟩
      obtain ⟨dq0, dq1, dq2, dq3⟩ := cells4 (hb34) (b := w.heap.size + 1) (v0 := .slice A' s'.length ca') (v1 := .slice B' t'.length cb') (v2 := .int .i64 cap') (v3 := .bool dn') ⟨dq0, dq1, dq2, dq3⟩
      obtain ⟨rq0, rq1, rq2, rq3⟩ := cells4 (hb34) (b := Q) (v0 := .slice F s'.length cf) (v1 := .slice G t'.length cg) (v2 := .int .i64 cap') (v3 := .bool dn') ⟨rq0, rq1, rq2, rq3⟩
      have zb0 : w.heap.size < w4.heap.size := cell_lt bq0
      have zb1 : P < w4.heap.size := cell_lt pq0
      have zb2 : w.heap.size + 1 < w4.heap.size := cell_lt dq0
      have zb3 : Q < w4.heap.size := cell_lt rq0
      have n0 := fun (o : Obj) (j : Nat) => World.cell?_alloc_lt w4 o ⟨w.heap.size, j, none⟩ zb0
      have n1 := fun (o : Obj) (j : Nat) => World.cell?_alloc_lt w4 o ⟨P, j, none⟩ zb1
      have n2 := fun (o : Obj) (j : Nat) => World.cell?_alloc_lt w4 o ⟨w.heap.size + 1, j, none⟩ zb2
      have n3 := fun (o : Obj) (j : Nat) => World.cell?_alloc_lt w4 o ⟨Q, j, none⟩ zb3
      go_wp2_with fail
      clear n0 n1 n2 n3 zb0 zb1 zb2 zb3
      refine (wcrash_any D E cd ce s t cap dn f n _ (hD.ab (by repeat (first | with_reducible exact Ab.refl _ | with_reducible assumption | with_reducible refine Ab.drew ?_ | with_reducible refine Ab.drewN ?_ _ | with_reducible refine Ab.alloc ?_ _ | with_reducible refine Ab.trans ?_ (by assumption) | with_reducible refine Ab.set ?_ (by first | (simp; done) | omega | (simp; omega)) _))) (hE.ab (by repeat (first | with_reducible exact Ab.refl _ | with_reducible assumption | with_reducible refine Ab.drew ?_ | with_reducible refine Ab.drewN ?_ _ | with_reducible refine Ab.alloc ?_ _ | with_reducible refine Ab.trans ?_ (by assumption) | with_reducible refine Ab.set ?_ (by first | (simp; done) | omega | (simp; omega)) _))) lD lE (by omega) (by omega) g HI.out k).mono ?_
      rintro e w5 ⟨r5, e5, D5, E5, c5, d5, h5, rfl, p5, q5, hb5⟩
      have hb45 : Ab w4 w5 := (by repeat (first | with_reducible exact Ab.refl _ | with_reducible assumption | with_reducible refine Ab.drew ?_ | with_reducible refine Ab.drewN ?_ _ | with_reducible refine Ab.alloc ?_ _ | with_reducible refine Ab.trans ?_ (by assumption) | with_reducible refine Ab.set ?_ (by first | (simp; done) | omega | (simp; omega)) _))
      obtain ⟨bq0, bq1, bq2, bq3, bq4, bq5⟩ := cells6 (hb45) (b := w.heap.size) (v0 := .slice A s.length ca) (v1 := .slice B t.length cb) (v2 := .int .i64 cap) (v3 := .bool dn) (v4 := .int .i64 f) (v5 := .int .i64 n) ⟨bq0, bq1, bq2, bq3, bq4, bq5⟩
      obtain ⟨pq0, pq1, pq2, pq3, pq4, pq5⟩ := cells6 (hb45) (b := P) (v0 := .slice D s.length cd) (v1 := .slice E t.length ce) (v2 := .int .i64 cap) (v3 := .bool dn) (v4 := .int .i64 f) (v5 := .int .i64 n) ⟨pq0, pq1, pq2, pq3, pq4, pq5⟩
      obtain ⟨dq0, dq1, dq2, dq3⟩ := cells4 (hb45) (b := w.heap.size + 1) (v0 := .slice A' s'.length ca') (v1 := .slice B' t'.length cb') (v2 := .int .i64 cap') (v3 := .bool dn') ⟨dq0, dq1, dq2, dq3⟩
      obtain ⟨rq0, rq1, rq2, rq3⟩ := cells4 (hb45) (b := Q) (v0 := .slice F s'.length cf) (v1 := .slice G t'.length cg) (v2 := .int .i64 cap') (v3 := .bool dn') ⟨rq0, rq1, rq2, rq3⟩
      have zb0 : w.heap.size < w5.heap.size := cell_lt bq0
      have zb1 : P < w5.heap.size := cell_lt pq0
      have zb2 : w.heap.size + 1 < w5.heap.size := cell_lt dq0
      have zb3 : Q < w5.heap.size := cell_lt rq0
      have n0 := fun (o : Obj) (j : Nat) => World.cell?_alloc_lt w5 o ⟨w.heap.size, j, none⟩ zb0
      have n1 := fun (o : Obj) (j : Nat) => World.cell?_alloc_lt w5 o ⟨P, j, none⟩ zb1
      have n2 := fun (o : Obj) (j : Nat) => World.cell?_alloc_lt w5 o ⟨w.heap.size + 1, j, none⟩ zb2
      have n3 := fun (o : Obj) (j : Nat) => World.cell?_alloc_lt w5 o ⟨Q, j, none⟩ zb3
      go_wp2_with fail
      clear n0 n1 n2 n3 zb0 zb1 zb2 zb3
      refine (refwcrash_any A B ca cb s t cap dn f n _ (hs.ab (by repeat (first | with_reducible exact Ab.refl _ | with_reducible assumption | with_reducible refine Ab.drew ?_ | with_reducible refine Ab.drewN ?_ _ | with_reducible refine Ab.alloc ?_ _ | with_reducible refine Ab.trans ?_ (by assumption) | with_reducible refine Ab.set ?_ (by first | (simp; done) | omega | (simp; omega)) _))) (ht.ab (by repeat (first | with_reducible exact Ab.refl _ | with_reducible assumption | with_reducible refine Ab.drew ?_ | with_reducible refine Ab.drewN ?_ _ | with_reducible refine Ab.alloc ?_ _ | with_reducible refine Ab.trans ?_ (by assumption) | with_reducible refine Ab.set ?_ (by first | (simp; done) | omega | (simp; omega)) _))) hca hcb (by omega) (by omega) g HI.out k).mono ?_
      rintro e w6 ⟨r6, e6, D6, E6, c6, d6, h6, rfl, p6, q6, hb6⟩
      obtain ⟨rfl, rfl⟩ := Prod.mk.inj (h6.out.trans h5.out.symm)
      have HL6 := Lib.hid h5.out
      clear h5 h6
      have hb56 : Ab w5 w6 := (by repeat (first | with_reducible exact Ab.refl _ | with_reducible assumption | with_reducible refine Ab.drew ?_ | with_reducible refine Ab.drewN ?_ _ | with_reducible refine Ab.alloc ?_ _ | with_reducible refine Ab.trans ?_ (by assumption) | with_reducible refine Ab.set ?_ (by first | (simp; done) | omega | (simp; omega)) _))
      obtain ⟨bq0, bq1, bq2, bq3, bq4, bq5⟩ := cells6 (hb56) (b := w.heap.size) (v0 := .slice A s.length ca) (v1 := .slice B t.length cb) (v2 := .int .i64 cap) (v3 := .bool dn) (v4 := .int .i64 f) (v5 := .int .i64 n) ⟨bq0, bq1, bq2, bq3, bq4, bq5⟩
      obtain ⟨pq0, pq1, pq2, pq3, pq4, pq5⟩ := cells6 (hb56) (b := P) (v0 := .slice D s.length cd) (v1 := .slice E t.length ce) (v2 := .int .i64 cap) (v3 := .bool dn) (v4 := .int .i64 f) (v5 := .int .i64 n) ⟨pq0, pq1, pq2, pq3, pq4, pq5⟩
      obtain ⟨dq0, dq1, dq2, dq3⟩ := cells4 (hb56) (b := w.heap.size + 1) (v0 := .slice A' s'.length ca') (v1 := .slice B' t'.length cb') (v2 := .int .i64 cap') (v3 := .bool dn') ⟨dq0, dq1, dq2, dq3⟩
      obtain ⟨rq0, rq1, rq2, rq3⟩ := cells4 (hb56) (b := Q) (v0 := .slice F s'.length cf) (v1 := .slice G t'.length cg) (v2 := .int .i64 cap') (v3 := .bool dn') ⟨rq0, rq1, rq2, rq3⟩
      have l4 := open_len HL4.out hl1' hl2'
      have l6 := crash_len HL6.out hl1 hl2
      obtain ⟨ck, hck⟩ : ∃ ck, Wal.check g = ck := ⟨_, rfl⟩
      have HCK := Lib.hid hck
      clear hck
      have h36 := hb4.trans (hb45.trans hb56)
      have h46 := hb5.trans hb56
      have h56 := hb6
      have h3X : Ab w3 w6 := ((Ab.refl _).alloc _).trans h36
      have h4X : Ab w4 w6 := ((Ab.refl _).alloc _).trans h46
      have h5X : Ab w5 w6 := ((Ab.refl _).alloc _).trans h56
      have hcX : Ab wc w6 := hb3.trans (hb34.trans (hb45.trans hb56))
      have hwX : Ab w w6 := hwc.trans hcX
      have a6 : Ab w6 (w6.alloc (.cells #[.slice D6 r6.s.length c6, .slice E6 r6.t.length d6, .int .i64 r6.cap, .bool r6.down] 24)) := (Ab.refl _).alloc _
      obtain ⟨bq0, bq1, bq2, bq3, bq4, bq5⟩ := cells6 (a6) (b := w.heap.size) (v0 := .slice A s.length ca) (v1 := .slice B t.length cb) (v2 := .int .i64 cap) (v3 := .bool dn) (v4 := .int .i64 f) (v5 := .int .i64 n) ⟨bq0, bq1, bq2, bq3, bq4, bq5⟩
      obtain ⟨pq0, pq1, pq2, pq3, pq4, pq5⟩ := cells6 (a6) (b := P) (v0 := .slice D s.length cd) (v1 := .slice E t.length ce) (v2 := .int .i64 cap) (v3 := .bool dn) (v4 := .int .i64 f) (v5 := .int .i64 n) ⟨pq0, pq1, pq2, pq3, pq4, pq5⟩
      obtain ⟨dq0, dq1, dq2, dq3⟩ := cells4 (a6) (b := w.heap.size + 1) (v0 := .slice A' s'.length ca') (v1 := .slice B' t'.length cb') (v2 := .int .i64 cap') (v3 := .bool dn') ⟨dq0, dq1, dq2, dq3⟩
      obtain ⟨rq0, rq1, rq2, rq3⟩ := cells4 (a6) (b := Q) (v0 := .slice F s'.length cf) (v1 := .slice G t'.length cg) (v2 := .int .i64 cap') (v3 := .bool dn') ⟨rq0, rq1, rq2, rq3⟩
      obtain ⟨iq0, iq1, iq2, iq3, iq4, iq5⟩ := cells6 (h36.trans a6) (b := w3.heap.size) (v0 := .slice D3 r4.dev.s.length c3) (v1 := .slice E3 r4.dev.t.length d3) (v2 := .int .i64 r4.dev.cap) (v3 := .bool r4.dev.down) (v4 := .int .i64 r4.first) (v5 := .int .i64 r4.next) (by simp [go_sem])
      obtain ⟨jq0, jq1, jq2, jq3, jq4, jq5⟩ := cells6 (h46.trans a6) (b := w4.heap.size) (v0 := .slice D4 r4.dev.s.length c4) (v1 := .slice E4 r4.dev.t.length d4) (v2 := .int .i64 r4.dev.cap) (v3 := .bool r4.dev.down) (v4 := .int .i64 r4.first) (v5 := .int .i64 r4.next) (by simp [go_sem])
      obtain ⟨kq0, kq1, kq2, kq3⟩ := cells4 (h56.trans a6) (b := w5.heap.size) (v0 := .slice D5 r6.s.length c5) (v1 := .slice E5 r6.t.length d5) (v2 := .int .i64 r6.cap) (v3 := .bool r6.down) (by simp [go_sem])
      obtain ⟨lq0, lq1, lq2, lq3⟩ := cells4 (Ab.refl (w6.alloc (.cells #[.slice D6 r6.s.length c6, .slice E6 r6.t.length d6, .int .i64 r6.cap, .bool r6.down] 24))) (b := w6.heap.size) (v0 := .slice D6 r6.s.length c6) (v1 := .slice E6 r6.t.length d6) (v2 := .int .i64 r6.cap) (v3 := .bool r6.down) (by simp [go_sem])
      replace p3 := p3.rb.zero.ab (h3X.trans a6)
      replace q3 := q3.rb.zero.ab (h3X.trans a6)
      replace p4 := p4.rb.zero.ab (h4X.trans a6)
      replace q4 := q4.rb.zero.ab (h4X.trans a6)
      replace p5 := p5.rb.zero.ab (h5X.trans a6)
      replace q5 := q5.rb.zero.ab (h5X.trans a6)
      replace p6 := p6.rb.zero.ab a6
      replace q6 := q6.rb.zero.ab a6
      replace hD := hD.ab (hcX.trans a6)
      replace hE := hE.ab (hcX.trans a6)
      replace hF := hF.ab (hcX.trans a6)
      replace hG := hG.ab (hcX.trans a6)
      have hwZ := hwX.trans a6
      replace hs := hs.ab hwZ
      replace ht := ht.ab hwZ
      replace hs' := hs'.ab hwZ
      replace ht' := ht'.ab hwZ
      clear hb3 hb4 hb5 hb6 hb34 hb45 hb56 h36 h46 h56 h3X h4X h5X hcX hwX hwc a6
      go_upto_region 8 with fail
      generalize (w6.alloc (.cells #[.slice D6 r6.s.length c6, .slice E6 r6.t.length d6, .int .i64 r6.cap, .bool r6.down] 24)) = wX at *
      have y0 : w.heap.size < wX.heap.size := cell_lt bq0
      have y1 : P < wX.heap.size := cell_lt pq0
      have y2 : w.heap.size + 1 < wX.heap.size := cell_lt dq0
      have y3 : Q < wX.heap.size := cell_lt rq0
      have y4 : w3.heap.size < wX.heap.size := cell_lt iq0
      have y5 : w4.heap.size < wX.heap.size := cell_lt jq0
      have y6 : w5.heap.size < wX.heap.size := cell_lt kq0
      have y7 : w6.heap.size < wX.heap.size := cell_lt lq0
      refine wp_region_held_drew (by kernel_rfl) (S := fun w' => Ab wX w') ?_ (fun hHeld => ?_)
      · exact (Ab.refl _).drew
      (refine wpAnyH_take (i := 0) (v := ?_) rfl (by kernel_rfl) (by kernel_rfl) (by kernel_rfl) (fun _ _ _ h => h) (Or.inl ⟨by kernel_rfl, ?_⟩) (by assumption) ?_
       rotate_left
       · (intro w hSw; (try dsimp only at hSw); obtain ⟨hcS, hfS⟩ := bcell hSw; go_simp; (try with_reducible rfl))
       (try simp only [Act.put, List.setIfInBounds_toArray, List.set_cons_zero, List.set_cons_succ]))
      (refine wpAnyH_take (i := 2) (v := ?_) rfl (by kernel_rfl) (by kernel_rfl) (by kernel_rfl) (fun _ _ _ h => h) (Or.inl ⟨by kernel_rfl, ?_⟩) (by assumption) ?_
       rotate_left
       · (intro w hSw; (try dsimp only at hSw); obtain ⟨hcS, hfS⟩ := bcell hSw; go_simp; (try with_reducible rfl))
       (try simp only [Act.put, List.setIfInBounds_toArray, List.set_cons_zero, List.set_cons_succ]))
      (refine wpAnyH_ready (rs := [1]) (by kernel_rfl) (by simp) ?_)
      refine AllReadyH.cons rfl (fun K hK => ?_) AllReadyH.nil
      (go_simp
       ((go_at_call 19)
        refine (wcheck_any D E cd ce s t cap dn f n _ (hD.ab (by repeat (first | with_reducible exact Ab.refl _ | with_reducible assumption | with_reducible refine Ab.drew ?_ | with_reducible refine Ab.drewN ?_ _ | with_reducible refine Ab.alloc ?_ _ | with_reducible refine Ab.trans ?_ (by assumption) | with_reducible refine Ab.set ?_ (by first | (simp; done) | omega | (simp; omega)) _))) (hE.ab (by repeat (first | with_reducible exact Ab.refl _ | with_reducible assumption | with_reducible refine Ab.drew ?_ | with_reducible refine Ab.drewN ?_ _ | with_reducible refine Ab.alloc ?_ _ | with_reducible refine Ab.trans ?_ (by assumption) | with_reducible refine Ab.set ?_ (by first | (simp; done) | omega | (simp; omega)) _))) lD lE (by omega) (by omega) g HI.out).mono ?_
        rintro e wa ⟨ra, hra, rfl, hba⟩
        obtain rfl : ck = ra := (hra.out.trans HCK.out).symm
        clear hra)
       (try go_wp2_with fail)
       (refine hK.out _ _ ?_ (fun hHeld => ?_)
        · (try dsimp only); exact (by repeat (first | with_reducible exact Ab.refl _ | with_reducible assumption | with_reducible refine Ab.drew ?_ | with_reducible refine Ab.drewN ?_ _ | with_reducible refine Ab.alloc ?_ _ | with_reducible refine Ab.trans ?_ (by assumption) | with_reducible refine Ab.set ?_ (by first | (simp; done) | omega | (simp; omega)) _))
        clear hK K
        (try simp only [Act.put, List.setIfInBounds_toArray, List.set_cons_zero, List.set_cons_succ])))
      (refine wpAnyH_ready (rs := [3]) (by kernel_rfl) (by simp) ?_)
      refine AllReadyH.cons rfl (fun K hK => ?_) AllReadyH.nil
      (go_simp
       ((go_at_call 26)
        refine (refwcheck_any A B ca cb s t cap dn f n _ (hs.ab (by repeat (first | with_reducible exact Ab.refl _ | with_reducible assumption | with_reducible refine Ab.drew ?_ | with_reducible refine Ab.drewN ?_ _ | with_reducible refine Ab.alloc ?_ _ | with_reducible refine Ab.trans ?_ (by assumption) | with_reducible refine Ab.set ?_ (by first | (simp; done) | omega | (simp; omega)) _))) (ht.ab (by repeat (first | with_reducible exact Ab.refl _ | with_reducible assumption | with_reducible refine Ab.drew ?_ | with_reducible refine Ab.drewN ?_ _ | with_reducible refine Ab.alloc ?_ _ | with_reducible refine Ab.trans ?_ (by assumption) | with_reducible refine Ab.set ?_ (by first | (simp; done) | omega | (simp; omega)) _))) hca hcb (by omega) (by omega) g HI.out).mono ?_
        rintro e wb ⟨rb, hrb, rfl, hbb⟩
        obtain rfl : ck = rb := (hrb.out.trans HCK.out).symm
        clear hrb)
       (try go_wp2_with fail)
       (refine hK.out _ _ ?_ (fun hHeld => ?_)
        · (try dsimp only); exact (by repeat (first | with_reducible exact Ab.refl _ | with_reducible assumption | with_reducible refine Ab.drew ?_ | with_reducible refine Ab.drewN ?_ _ | with_reducible refine Ab.alloc ?_ _ | with_reducible refine Ab.trans ?_ (by assumption) | with_reducible refine Ab.set ?_ (by first | (simp; done) | omega | (simp; omega)) _))
        clear hK K
        (try simp only [Act.put, List.setIfInBounds_toArray, List.set_cons_zero, List.set_cons_succ])))
      (refine wpAnyH_take (i := 4) (v := ?_) rfl (by kernel_rfl) (by kernel_rfl) (by kernel_rfl) (fun _ _ _ h => h) (Or.inl ⟨by kernel_rfl, ?_⟩) (by assumption) ?_
       rotate_left
       · (intro w hSw; (try dsimp only at hSw); go_simp; (try with_reducible rfl))
       (try simp only [Act.put, List.setIfInBounds_toArray, List.set_cons_zero, List.set_cons_succ]))
      (refine wpAnyH_take (i := 5) (v := ?_) rfl (by kernel_rfl) (by kernel_rfl) (by kernel_rfl) (fun _ _ _ h => h) (Or.inl ⟨by kernel_rfl, ?_⟩) (by assumption) ?_
       rotate_left
       · (intro w hSw; (try dsimp only at hSw); go_simp; (try with_reducible rfl))
       (try simp only [Act.put, List.setIfInBounds_toArray, List.set_cons_zero, List.set_cons_succ]))
      (refine wpAnyH_take (i := 6) (v := ?_) rfl (by kernel_rfl) (by kernel_rfl) (by kernel_rfl) (fun _ _ _ h => h) (Or.inl ⟨by kernel_rfl, ?_⟩) (by assumption) ?_
       rotate_left
       · (intro w hSw; (try dsimp only at hSw); obtain ⟨hcS, hfS⟩ := bcell hSw; go_simp; (try with_reducible rfl))
       (try simp only [Act.put, List.setIfInBounds_toArray, List.set_cons_zero, List.set_cons_succ]))
      (refine wpAnyH_take (i := 7) (v := ?_) rfl (by kernel_rfl) (by kernel_rfl) (by kernel_rfl) (fun _ _ _ h => h) (Or.inl ⟨by kernel_rfl, ?_⟩) (by assumption) ?_
       rotate_left
       · (intro w hSw; (try dsimp only at hSw); obtain ⟨hcS, hfS⟩ := bcell hSw; go_simp; (try with_reducible rfl))
       (try simp only [Act.put, List.setIfInBounds_toArray, List.set_cons_zero, List.set_cons_succ]))
      (refine wpAnyH_ready (rs := [8]) (by kernel_rfl) (by simp) ?_)
      refine AllReadyH.cons rfl (fun K hK => ?_) AllReadyH.nil
      (go_simp
       ((go_at_call 27)
        refine (lsame_true D3 E3 D4 E4 c3 d3 c4 d4 r4.dev.s r4.dev.t r4.dev.cap r4.dev.down r4.first r4.next _ (p3.ab (by repeat (first | with_reducible exact Ab.refl _ | with_reducible assumption | with_reducible refine Ab.drew ?_ | with_reducible refine Ab.drewN ?_ _ | with_reducible refine Ab.alloc ?_ _ | with_reducible refine Ab.trans ?_ (by assumption) | with_reducible refine Ab.set ?_ (by first | (simp; done) | omega | (simp; omega)) _))) (q3.ab (by repeat (first | with_reducible exact Ab.refl _ | with_reducible assumption | with_reducible refine Ab.drew ?_ | with_reducible refine Ab.drewN ?_ _ | with_reducible refine Ab.alloc ?_ _ | with_reducible refine Ab.trans ?_ (by assumption) | with_reducible refine Ab.set ?_ (by first | (simp; done) | omega | (simp; omega)) _))) (p4.ab (by repeat (first | with_reducible exact Ab.refl _ | with_reducible assumption | with_reducible refine Ab.drew ?_ | with_reducible refine Ab.drewN ?_ _ | with_reducible refine Ab.alloc ?_ _ | with_reducible refine Ab.trans ?_ (by assumption) | with_reducible refine Ab.set ?_ (by first | (simp; done) | omega | (simp; omega)) _))) (q4.ab (by repeat (first | with_reducible exact Ab.refl _ | with_reducible assumption | with_reducible refine Ab.drew ?_ | with_reducible refine Ab.drewN ?_ _ | with_reducible refine Ab.alloc ?_ _ | with_reducible refine Ab.trans ?_ (by assumption) | with_reducible refine Ab.set ?_ (by first | (simp; done) | omega | (simp; omega)) _))) l4.1 l4.2).mono ?_
        rintro e wd ⟨rfl, hbd⟩)
       (try go_wp2_with fail)
       (refine hK.out _ _ ?_ (fun hHeld => ?_)
        · (try dsimp only); exact (by repeat (first | with_reducible exact Ab.refl _ | with_reducible assumption | with_reducible refine Ab.drew ?_ | with_reducible refine Ab.drewN ?_ _ | with_reducible refine Ab.alloc ?_ _ | with_reducible refine Ab.trans ?_ (by assumption) | with_reducible refine Ab.set ?_ (by first | (simp; done) | omega | (simp; omega)) _))
        clear hK K
        (try simp only [Act.put, List.setIfInBounds_toArray, List.set_cons_zero, List.set_cons_succ])))
      (refine wpAnyH_ready (rs := [9]) (by kernel_rfl) (by simp) ?_)
      refine AllReadyH.cons rfl (fun K hK => ?_) AllReadyH.nil
      (go_simp
       (refine hK.out _ _ ?_ (fun hHeld => ?_)
        · (try dsimp only); exact (by repeat (first | with_reducible exact Ab.refl _ | with_reducible assumption | with_reducible refine Ab.drew ?_ | with_reducible refine Ab.drewN ?_ _ | with_reducible refine Ab.alloc ?_ _ | with_reducible refine Ab.trans ?_ (by assumption) | with_reducible refine Ab.set ?_ (by first | (simp; done) | omega | (simp; omega)) _))
        clear hK K
        (try simp only [Act.put, List.setIfInBounds_toArray, List.set_cons_zero, List.set_cons_succ])))
      (refine wpAnyH_take (i := 10) (v := ?_) rfl (by kernel_rfl) (by kernel_rfl) (by kernel_rfl) (fun _ _ _ h => h) (Or.inl ⟨by kernel_rfl, ?_⟩) (by assumption) ?_
       rotate_left
       · (intro w hSw; (try dsimp only at hSw); go_simp; (try with_reducible rfl))
       (try simp only [Act.put, List.setIfInBounds_toArray, List.set_cons_zero, List.set_cons_succ]))
      (refine wpAnyH_take (i := 11) (v := ?_) rfl (by kernel_rfl) (by kernel_rfl) (by kernel_rfl) (fun _ _ _ h => h) (Or.inl ⟨by kernel_rfl, ?_⟩) (by assumption) ?_
       rotate_left
       · (intro w hSw; (try dsimp only at hSw); go_simp; (try with_reducible rfl))
       (try simp only [Act.put, List.setIfInBounds_toArray, List.set_cons_zero, List.set_cons_succ]))
      (refine wpAnyH_take (i := 12) (v := ?_) rfl (by kernel_rfl) (by kernel_rfl) (by kernel_rfl) (fun _ _ _ h => h) (Or.inl ⟨by kernel_rfl, ?_⟩) (by assumption) ?_
       rotate_left
       · (intro w hSw; (try dsimp only at hSw); go_simp; (try with_reducible rfl))
       (try simp only [Act.put, List.setIfInBounds_toArray, List.set_cons_zero, List.set_cons_succ]))
      (refine wpAnyH_take (i := 13) (v := ?_) rfl (by kernel_rfl) (by kernel_rfl) (by kernel_rfl) (fun _ _ _ h => h) (Or.inl ⟨by kernel_rfl, ?_⟩) (by assumption) ?_
       rotate_left
       · (intro w hSw; (try dsimp only at hSw); go_simp; (try with_reducible rfl))
       (try simp only [Act.put, List.setIfInBounds_toArray, List.set_cons_zero, List.set_cons_succ]))
      (refine wpAnyH_ready (rs := [14]) (by kernel_rfl) (by simp) ?_)
      refine AllReadyH.cons rfl (fun K hK => ?_) AllReadyH.nil
      (go_simp
       (refine hK.out _ _ ?_ (fun hHeld => ?_)
        · (try dsimp only); exact (by repeat (first | with_reducible exact Ab.refl _ | with_reducible assumption | with_reducible refine Ab.drew ?_ | with_reducible refine Ab.drewN ?_ _ | with_reducible refine Ab.alloc ?_ _ | with_reducible refine Ab.trans ?_ (by assumption) | with_reducible refine Ab.set ?_ (by first | (simp; done) | omega | (simp; omega)) _))
        clear hK K
        (try simp only [Act.put, List.setIfInBounds_toArray, List.set_cons_zero, List.set_cons_succ])))
      (refine wpAnyH_take (i := 15) (v := ?_) rfl (by kernel_rfl) (by kernel_rfl) (by kernel_rfl) (fun _ _ _ h => h) (Or.inl ⟨by kernel_rfl, ?_⟩) (by assumption) ?_
       rotate_left
       · (intro w hSw; (try dsimp only at hSw); go_simp; (try with_reducible rfl))
       (try simp only [Act.put, List.setIfInBounds_toArray, List.set_cons_zero, List.set_cons_succ]))
      (refine wpAnyH_take (i := 16) (v := ?_) rfl (by kernel_rfl) (by kernel_rfl) (by kernel_rfl) (fun _ _ _ h => h) (Or.inl ⟨by kernel_rfl, ?_⟩) (by assumption) ?_
       rotate_left
       · (intro w hSw; (try dsimp only at hSw); obtain ⟨hcS, hfS⟩ := bcell hSw; go_simp; (try with_reducible rfl))
       (try simp only [Act.put, List.setIfInBounds_toArray, List.set_cons_zero, List.set_cons_succ]))
      (refine wpAnyH_take (i := 17) (v := ?_) rfl (by kernel_rfl) (by kernel_rfl) (by kernel_rfl) (fun _ _ _ h => h) (Or.inl ⟨by kernel_rfl, ?_⟩) (by assumption) ?_
       rotate_left
       · (intro w hSw; (try dsimp only at hSw); obtain ⟨hcS, hfS⟩ := bcell hSw; go_simp; (try with_reducible rfl))
       (try simp only [Act.put, List.setIfInBounds_toArray, List.set_cons_zero, List.set_cons_succ]))
      (refine wpAnyH_ready (rs := [18]) (by kernel_rfl) (by simp) ?_)
      refine AllReadyH.cons rfl (fun K hK => ?_) AllReadyH.nil
      (go_simp
       ((go_at_call 28)
        refine (same_true D5 E5 D6 E6 c5 d5 c6 d6 r6.s r6.t r6.cap r6.down _ (p5.ab (by repeat (first | with_reducible exact Ab.refl _ | with_reducible assumption | with_reducible refine Ab.drew ?_ | with_reducible refine Ab.drewN ?_ _ | with_reducible refine Ab.alloc ?_ _ | with_reducible refine Ab.trans ?_ (by assumption) | with_reducible refine Ab.set ?_ (by first | (simp; done) | omega | (simp; omega)) _))) (q5.ab (by repeat (first | with_reducible exact Ab.refl _ | with_reducible assumption | with_reducible refine Ab.drew ?_ | with_reducible refine Ab.drewN ?_ _ | with_reducible refine Ab.alloc ?_ _ | with_reducible refine Ab.trans ?_ (by assumption) | with_reducible refine Ab.set ?_ (by first | (simp; done) | omega | (simp; omega)) _))) (p6.ab (by repeat (first | with_reducible exact Ab.refl _ | with_reducible assumption | with_reducible refine Ab.drew ?_ | with_reducible refine Ab.drewN ?_ _ | with_reducible refine Ab.alloc ?_ _ | with_reducible refine Ab.trans ?_ (by assumption) | with_reducible refine Ab.set ?_ (by first | (simp; done) | omega | (simp; omega)) _))) (q6.ab (by repeat (first | with_reducible exact Ab.refl _ | with_reducible assumption | with_reducible refine Ab.drew ?_ | with_reducible refine Ab.drewN ?_ _ | with_reducible refine Ab.alloc ?_ _ | with_reducible refine Ab.trans ?_ (by assumption) | with_reducible refine Ab.set ?_ (by first | (simp; done) | omega | (simp; omega)) _))) l6.1 l6.2).mono ?_
        rintro e we ⟨rfl, hbe⟩)
       (try go_wp2_with fail)
       (refine hK.out _ _ ?_ (fun hHeld => ?_)
        · (try dsimp only); exact (by repeat (first | with_reducible exact Ab.refl _ | with_reducible assumption | with_reducible refine Ab.drew ?_ | with_reducible refine Ab.drewN ?_ _ | with_reducible refine Ab.alloc ?_ _ | with_reducible refine Ab.trans ?_ (by assumption) | with_reducible refine Ab.set ?_ (by first | (simp; done) | omega | (simp; omega)) _))
        clear hK K
        (try simp only [Act.put, List.setIfInBounds_toArray, List.set_cons_zero, List.set_cons_succ])))
      (refine wpAnyH_ready (rs := [19]) (by kernel_rfl) (by simp) ?_)
      refine AllReadyH.cons rfl (fun K hK => ?_) AllReadyH.nil
      (go_simp
       (refine hK.out _ _ ?_ (fun hHeld => ?_)
        · (try dsimp only); exact (by repeat (first | with_reducible exact Ab.refl _ | with_reducible assumption | with_reducible refine Ab.drew ?_ | with_reducible refine Ab.drewN ?_ _ | with_reducible refine Ab.alloc ?_ _ | with_reducible refine Ab.trans ?_ (by assumption) | with_reducible refine Ab.set ?_ (by first | (simp; done) | omega | (simp; omega)) _))
        clear hK K
        (try simp only [Act.put, List.setIfInBounds_toArray, List.set_cons_zero, List.set_cons_succ])))
      (refine wpAnyH_take (i := 20) (v := ?_) rfl (by kernel_rfl) (by kernel_rfl) (by kernel_rfl) (fun _ _ _ h => h) (Or.inl ⟨by kernel_rfl, ?_⟩) (by assumption) ?_
       rotate_left
       · (intro w hSw; (try dsimp only at hSw); go_simp; (try with_reducible rfl))
       (try simp only [Act.put, List.setIfInBounds_toArray, List.set_cons_zero, List.set_cons_succ]))
      (refine wpAnyH_take (i := 21) (v := ?_) rfl (by kernel_rfl) (by kernel_rfl) (by kernel_rfl) (fun _ _ _ h => h) (Or.inl ⟨by kernel_rfl, ?_⟩) (by assumption) ?_
       rotate_left
       · (intro w hSw; (try dsimp only at hSw); go_simp; (try with_reducible rfl))
       (try simp only [Act.put, List.setIfInBounds_toArray, List.set_cons_zero, List.set_cons_succ]))
      (refine wpAnyH_take (i := 22) (v := ?_) rfl (by kernel_rfl) (by kernel_rfl) (by kernel_rfl) (fun _ _ _ h => h) (Or.inl ⟨by kernel_rfl, ?_⟩) (by assumption) ?_
       rotate_left
       · (intro w hSw; (try dsimp only at hSw); go_simp; (try with_reducible rfl))
       (try simp only [Act.put, List.setIfInBounds_toArray, List.set_cons_zero, List.set_cons_succ]))
      (refine wpAnyH_take (i := 23) (v := ?_) rfl (by kernel_rfl) (by kernel_rfl) (by kernel_rfl) (fun _ _ _ h => h) (Or.inl ⟨by kernel_rfl, ?_⟩) (by assumption) ?_
       rotate_left
       · (intro w hSw; (try dsimp only at hSw); go_simp; (try with_reducible rfl))
       (try simp only [Act.put, List.setIfInBounds_toArray, List.set_cons_zero, List.set_cons_succ]))
      (refine wpAnyH_ready (rs := [24]) (by kernel_rfl) (by simp) ?_)
      refine AllReadyH.cons rfl (fun K hK => ?_) AllReadyH.nil
      (go_simp
       (refine hK.out _ _ ?_ (fun hHeld => ?_)
        · (try dsimp only); exact (by repeat (first | with_reducible exact Ab.refl _ | with_reducible assumption | with_reducible refine Ab.drew ?_ | with_reducible refine Ab.drewN ?_ _ | with_reducible refine Ab.alloc ?_ _ | with_reducible refine Ab.trans ?_ (by assumption) | with_reducible refine Ab.set ?_ (by first | (simp; done) | omega | (simp; omega)) _))
        clear hK K
        (try simp only [Act.put, List.setIfInBounds_toArray, List.set_cons_zero, List.set_cons_succ])))
      (refine wpAnyH_take (i := 25) (v := ?_) rfl (by kernel_rfl) (by kernel_rfl) (by kernel_rfl) (fun _ _ _ h => h) (Or.inl ⟨by kernel_rfl, ?_⟩) (by assumption) ?_
       rotate_left
       · (intro w hSw; (try dsimp only at hSw); go_simp; (try with_reducible rfl))
       (try simp only [Act.put, List.setIfInBounds_toArray, List.set_cons_zero, List.set_cons_succ]))
      (refine wpAnyH_take (i := 26) (v := ?_) rfl (by kernel_rfl) (by kernel_rfl) (by kernel_rfl) (fun _ _ _ h => h) (Or.inl ⟨by kernel_rfl, ?_⟩) (by assumption) ?_
       rotate_left
       · (intro w hSw; (try dsimp only at hSw); obtain ⟨hcS, hfS⟩ := bcell hSw; go_simp; (try with_reducible rfl))
       (try simp only [Act.put, List.setIfInBounds_toArray, List.set_cons_zero, List.set_cons_succ]))
      (refine wpAnyH_take (i := 27) (v := ?_) rfl (by kernel_rfl) (by kernel_rfl) (by kernel_rfl) (fun _ _ _ h => h) (Or.inl ⟨by kernel_rfl, ?_⟩) (by assumption) ?_
       rotate_left
       · (intro w hSw; (try dsimp only at hSw); obtain ⟨hcS, hfS⟩ := bcell hSw; go_simp; (try with_reducible rfl))
       (try simp only [Act.put, List.setIfInBounds_toArray, List.set_cons_zero, List.set_cons_succ]))
      (refine wpAnyH_ready (rs := [28]) (by kernel_rfl) (by simp) ?_)
      refine AllReadyH.cons rfl (fun K hK => ?_) AllReadyH.nil
      (go_simp
       ((go_at_call 27)
        refine (lsame_true D E A B cd ce ca cb s t cap dn f n _ (hD.ab (by repeat (first | with_reducible exact Ab.refl _ | with_reducible assumption | with_reducible refine Ab.drew ?_ | with_reducible refine Ab.drewN ?_ _ | with_reducible refine Ab.alloc ?_ _ | with_reducible refine Ab.trans ?_ (by assumption) | with_reducible refine Ab.set ?_ (by first | (simp; done) | omega | (simp; omega)) _))) (hE.ab (by repeat (first | with_reducible exact Ab.refl _ | with_reducible assumption | with_reducible refine Ab.drew ?_ | with_reducible refine Ab.drewN ?_ _ | with_reducible refine Ab.alloc ?_ _ | with_reducible refine Ab.trans ?_ (by assumption) | with_reducible refine Ab.set ?_ (by first | (simp; done) | omega | (simp; omega)) _))) (hs.ab (by repeat (first | with_reducible exact Ab.refl _ | with_reducible assumption | with_reducible refine Ab.drew ?_ | with_reducible refine Ab.drewN ?_ _ | with_reducible refine Ab.alloc ?_ _ | with_reducible refine Ab.trans ?_ (by assumption) | with_reducible refine Ab.set ?_ (by first | (simp; done) | omega | (simp; omega)) _))) (ht.ab (by repeat (first | with_reducible exact Ab.refl _ | with_reducible assumption | with_reducible refine Ab.drew ?_ | with_reducible refine Ab.drewN ?_ _ | with_reducible refine Ab.alloc ?_ _ | with_reducible refine Ab.trans ?_ (by assumption) | with_reducible refine Ab.set ?_ (by first | (simp; done) | omega | (simp; omega)) _))) (by omega) (by omega)).mono ?_
        rintro e wf ⟨rfl, hbf⟩)
       (try go_wp2_with fail)
       (refine hK.out _ _ ?_ (fun hHeld => ?_)
        · (try dsimp only); exact (by repeat (first | with_reducible exact Ab.refl _ | with_reducible assumption | with_reducible refine Ab.drew ?_ | with_reducible refine Ab.drewN ?_ _ | with_reducible refine Ab.alloc ?_ _ | with_reducible refine Ab.trans ?_ (by assumption) | with_reducible refine Ab.set ?_ (by first | (simp; done) | omega | (simp; omega)) _))
        clear hK K
        (try simp only [Act.put, List.setIfInBounds_toArray, List.set_cons_zero, List.set_cons_succ])))
      (refine wpAnyH_ready (rs := [29]) (by kernel_rfl) (by simp) ?_)
      refine AllReadyH.cons rfl (fun K hK => ?_) AllReadyH.nil
      (go_simp
       (refine hK.out _ _ ?_ (fun hHeld => ?_)
        · (try dsimp only); exact (by repeat (first | with_reducible exact Ab.refl _ | with_reducible assumption | with_reducible refine Ab.drew ?_ | with_reducible refine Ab.drewN ?_ _ | with_reducible refine Ab.alloc ?_ _ | with_reducible refine Ab.trans ?_ (by assumption) | with_reducible refine Ab.set ?_ (by first | (simp; done) | omega | (simp; omega)) _))
        clear hK K
        (try simp only [Act.put, List.setIfInBounds_toArray, List.set_cons_zero, List.set_cons_succ])))
      (refine wpAnyH_take (i := 30) (v := ?_) rfl (by kernel_rfl) (by kernel_rfl) (by kernel_rfl) (fun _ _ _ h => h) (Or.inl ⟨by kernel_rfl, ?_⟩) (by assumption) ?_
       rotate_left
       · (intro w hSw; (try dsimp only at hSw); go_simp; (try with_reducible rfl))
       (try simp only [Act.put, List.setIfInBounds_toArray, List.set_cons_zero, List.set_cons_succ]))
      (refine wpAnyH_take (i := 31) (v := ?_) rfl (by kernel_rfl) (by kernel_rfl) (by kernel_rfl) (fun _ _ _ h => h) (Or.inl ⟨by kernel_rfl, ?_⟩) (by assumption) ?_
       rotate_left
       · (intro w hSw; (try dsimp only at hSw); obtain ⟨hcS, hfS⟩ := bcell hSw; go_simp; (try with_reducible rfl))
       (try simp only [Act.put, List.setIfInBounds_toArray, List.set_cons_zero, List.set_cons_succ]))
      (refine wpAnyH_take (i := 32) (v := ?_) rfl (by kernel_rfl) (by kernel_rfl) (by kernel_rfl) (fun _ _ _ h => h) (Or.inl ⟨by kernel_rfl, ?_⟩) (by assumption) ?_
       rotate_left
       · (intro w hSw; (try dsimp only at hSw); obtain ⟨hcS, hfS⟩ := bcell hSw; go_simp; (try with_reducible rfl))
       (try simp only [Act.put, List.setIfInBounds_toArray, List.set_cons_zero, List.set_cons_succ]))
      (refine wpAnyH_ready (rs := [33]) (by kernel_rfl) (by simp) ?_)
      refine AllReadyH.cons rfl (fun K hK => ?_) AllReadyH.nil
      (go_simp
       ((go_at_call 28)
        refine (same_true F G A' B' cf cg ca' cb' s' t' cap' dn' _ (hF.ab (by repeat (first | with_reducible exact Ab.refl _ | with_reducible assumption | with_reducible refine Ab.drew ?_ | with_reducible refine Ab.drewN ?_ _ | with_reducible refine Ab.alloc ?_ _ | with_reducible refine Ab.trans ?_ (by assumption) | with_reducible refine Ab.set ?_ (by first | (simp; done) | omega | (simp; omega)) _))) (hG.ab (by repeat (first | with_reducible exact Ab.refl _ | with_reducible assumption | with_reducible refine Ab.drew ?_ | with_reducible refine Ab.drewN ?_ _ | with_reducible refine Ab.alloc ?_ _ | with_reducible refine Ab.trans ?_ (by assumption) | with_reducible refine Ab.set ?_ (by first | (simp; done) | omega | (simp; omega)) _))) (hs'.ab (by repeat (first | with_reducible exact Ab.refl _ | with_reducible assumption | with_reducible refine Ab.drew ?_ | with_reducible refine Ab.drewN ?_ _ | with_reducible refine Ab.alloc ?_ _ | with_reducible refine Ab.trans ?_ (by assumption) | with_reducible refine Ab.set ?_ (by first | (simp; done) | omega | (simp; omega)) _))) (ht'.ab (by repeat (first | with_reducible exact Ab.refl _ | with_reducible assumption | with_reducible refine Ab.drew ?_ | with_reducible refine Ab.drewN ?_ _ | with_reducible refine Ab.alloc ?_ _ | with_reducible refine Ab.trans ?_ (by assumption) | with_reducible refine Ab.set ?_ (by first | (simp; done) | omega | (simp; omega)) _))) (by omega) (by omega)).mono ?_
        rintro e wg ⟨rfl, hbg⟩)
       (try go_wp2_with fail)
       (refine hK.out _ _ ?_ (fun hHeld => ?_)
        · (try dsimp only); exact (by repeat (first | with_reducible exact Ab.refl _ | with_reducible assumption | with_reducible refine Ab.drew ?_ | with_reducible refine Ab.drewN ?_ _ | with_reducible refine Ab.alloc ?_ _ | with_reducible refine Ab.trans ?_ (by assumption) | with_reducible refine Ab.set ?_ (by first | (simp; done) | omega | (simp; omega)) _))
        clear hK K
        (try simp only [Act.put, List.setIfInBounds_toArray, List.set_cons_zero, List.set_cons_succ])))
      (refine wpAnyH_ready (rs := [34]) (by kernel_rfl) (by simp) ?_)
      refine AllReadyH.cons rfl (fun K hK => ?_) AllReadyH.nil
      (go_simp
       (refine hK.out _ _ ?_ (fun hHeld => ?_)
        · (try dsimp only); exact (by repeat (first | with_reducible exact Ab.refl _ | with_reducible assumption | with_reducible refine Ab.drew ?_ | with_reducible refine Ab.drewN ?_ _ | with_reducible refine Ab.alloc ?_ _ | with_reducible refine Ab.trans ?_ (by assumption) | with_reducible refine Ab.set ?_ (by first | (simp; done) | omega | (simp; omega)) _))
        clear hK K
        (try simp only [Act.put, List.setIfInBounds_toArray, List.set_cons_zero, List.set_cons_succ])))
      (refine wpAnyH_ready (rs := [35]) (by kernel_rfl) (by simp) ?_)
      refine AllReadyH.cons rfl (fun K hK => ?_) AllReadyH.nil
      (go_simp
       (refine hK.out _ _ ?_ (fun hHeld => ?_)
        · (try dsimp only); exact (by repeat (first | with_reducible exact Ab.refl _ | with_reducible assumption | with_reducible refine Ab.drew ?_ | with_reducible refine Ab.drewN ?_ _ | with_reducible refine Ab.alloc ?_ _ | with_reducible refine Ab.trans ?_ (by assumption) | with_reducible refine Ab.set ?_ (by first | (simp; done) | omega | (simp; omega)) _))
        clear hK K
        (try simp only [Act.put, List.setIfInBounds_toArray, List.set_cons_zero, List.set_cons_succ])))
      refine wpAnyH_done (by kernel_rfl) ?_ _
      go_wp2
      go_ret
      exact ⟨rfl, hwZ.trans hHeld⟩
    · have HG' := Lib.hid hg'; clear hg'
      go_enter Try.func4, Try.ntmps4
      go_wp2_with fail
      refine (great4_any A B ca cb s t cap dn _ ls lt).mono ?_
      rintro e w1 ⟨rfl, hb1⟩
      rw [HG.out]
      have dq0 := hb1.at (p := ⟨w.heap.size + 1, 0, none⟩) (v := .slice A' s'.length ca') (by (repeat (first | with_reducible assumption | (simp [go_sem]; done) | with_reducible apply cell_alloc | with_reducible apply cell_drew | with_reducible apply cell_drewN | (with_reducible apply Ab.at; with_reducible assumption) | (with_reducible refine cell_set ?_ ?_; rotate_left; focus (first | (simp; done) | (simp; omega))) | (with_reducible refine cell_setb ?_ ?_; rotate_left; focus (first | omega | (simp only; omega) | (simp; omega)))))); have dq1 := hb1.at (p := ⟨w.heap.size + 1, 1, none⟩) (v := .slice B' t'.length cb') (by (repeat (first | with_reducible assumption | (simp [go_sem]; done) | with_reducible apply cell_alloc | with_reducible apply cell_drew | with_reducible apply cell_drewN | (with_reducible apply Ab.at; with_reducible assumption) | (with_reducible refine cell_set ?_ ?_; rotate_left; focus (first | (simp; done) | (simp; omega))) | (with_reducible refine cell_setb ?_ ?_; rotate_left; focus (first | omega | (simp only; omega) | (simp; omega)))))); have dq2 := hb1.at (p := ⟨w.heap.size + 1, 2, none⟩) (v := .int .i64 cap') (by (repeat (first | with_reducible assumption | (simp [go_sem]; done) | with_reducible apply cell_alloc | with_reducible apply cell_drew | with_reducible apply cell_drewN | (with_reducible apply Ab.at; with_reducible assumption) | (with_reducible refine cell_set ?_ ?_; rotate_left; focus (first | (simp; done) | (simp; omega))) | (with_reducible refine cell_setb ?_ ?_; rotate_left; focus (first | omega | (simp only; omega) | (simp; omega)))))); have dq3 := hb1.at (p := ⟨w.heap.size + 1, 3, none⟩) (v := .bool dn') (by (repeat (first | with_reducible assumption | (simp [go_sem]; done) | with_reducible apply cell_alloc | with_reducible apply cell_drew | with_reducible apply cell_drewN | (with_reducible apply Ab.at; with_reducible assumption) | (with_reducible refine cell_set ?_ ?_; rotate_left; focus (first | (simp; done) | (simp; omega))) | (with_reducible refine cell_setb ?_ ?_; rotate_left; focus (first | omega | (simp only; omega) | (simp; omega))))))
      go_wp2_with fail
      refine (great4_any A' B' ca' cb' s' t' cap' dn' _ ls' lt').mono ?_
      rintro e w2 ⟨rfl, hb2⟩
      rw [HG'.out]
      go_wp2
      go_ret
      exact ⟨rfl, (by repeat (first | with_reducible exact Ab.refl _ | with_reducible assumption | with_reducible refine Ab.drew ?_ | with_reducible refine Ab.drewN ?_ _ | with_reducible refine Ab.alloc ?_ _ | with_reducible refine Ab.trans ?_ (by assumption) | with_reducible refine Ab.set ?_ (by first | (simp; done) | omega | (simp; omega)) _))⟩
  · have HG := Lib.hid hg; clear hg
    go_enter Try.func4, Try.ntmps4
    go_wp2_with fail
    refine (great4_any A B ca cb s t cap dn _ ls lt).mono ?_
    rintro e w1 ⟨rfl, hb1⟩
    rw [HG.out]
    go_wp2
    go_ret
    exact ⟨rfl, (by repeat (first | with_reducible exact Ab.refl _ | with_reducible assumption | with_reducible refine Ab.drew ?_ | with_reducible refine Ab.drewN ?_ _ | with_reducible refine Ab.alloc ?_ _ | with_reducible refine Ab.trans ?_ (by assumption) | with_reducible refine Ab.set ?_ (by first | (simp; done) | omega | (simp; omega)) _))⟩
end Go.Proofs.Ytehagdpcegpbjaa
