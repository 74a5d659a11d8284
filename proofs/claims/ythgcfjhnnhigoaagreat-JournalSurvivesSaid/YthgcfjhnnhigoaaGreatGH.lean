/- The texts JMod3, JPart, JFunM, JFunN, JFunO, JMath, one behind the other. Own work. -/
import Derived.Test.YthgcfjhnnhigoaaGreatGP
import Derived.Test.YthgcfjhnnhigoaaGreatGN
import Derived.Test.YthgcfjhnnhigoaaGreatSFunF
import Derived.Test.YthgcfjhnnhigoaaGreatWFunD
set_option linter.unusedVariables false
set_option linter.unusedSimpArgs false
set_option linter.ambiguousOpen false
/- What Crash of package journal returns: plain mathematics. Own work. -/
namespace Go.Proofs.YthgcfjhnnhigoaaGreat
namespace Jour
/-- The slots that crash at a stage. -/
def crashS (x : JX) (k keep : Int) : Slots.Sl × Int :=
  if 1 < k then Slots.half x.s (point x.l.next x.c) (min k 4 - 1) keep else (⟨(Disk.crash x.s.a 0).1, (Disk.crash x.s.b 0).1, x.s.n⟩, 0)
noncomputable def crashM (x : JX) (k keep : Int) (g : Option (List Frame.Rec)) : JX × Int :=
  if check x g ≠ 0 then (JX.zero, check x g) else if k < 0 ∨ 5 < k then (JX.zero, 2)
  else if (crashS x k keep).2 ≠ 0 then (JX.zero, (crashS x k keep).2)
  else if (Disk.crash (logAt x.l k).dev (if 1 < k then 0 else keep)).2 ≠ 0 then (JX.zero, (Disk.crash (logAt x.l k).dev (if 1 < k then 0 else keep)).2)
  else (⟨(crashS x k keep).1, ⟨(Disk.crash (logAt x.l k).dev (if 1 < k then 0 else keep)).1, (logAt x.l k).first, (logAt x.l k).next⟩, zeros⟩, 0)
theorem crashS_low {x : JX} {k keep : Int} (h : ¬ 1 < k) (hg : Slots.Good x.s) : crashS x k keep = (⟨⟨x.s.a.s, [], x.s.a.cap, true⟩, ⟨x.s.b.s, [], x.s.b.cap, true⟩, x.s.n⟩, 0) := by
  unfold crashS
  rw [if_neg h, Slots.crash_ok hg.a, Slots.crash_ok hg.b]
theorem logAt_good {l : Wal.Log} {rs : List Frame.Rec} (h : Wal.Good l rs) (k : Int) : ∃ rs', Wal.Good (logAt l k) rs' := by
  unfold logAt
  split
  · exact ⟨rs, h⟩
  · split
    · exact ⟨rs, good_synced' h⟩
    · have hr := h.room
      have hn := h.rng
      exact ⟨[], Wal.up_mk hr.1 hr.2.1 (by simp; omega), Frame.foll_nil, rfl, by simp, fun k => absurd k (by simp), by simp only; omega, by simp only; omega⟩
/-- The end of Crash: what the log's device does. -/
def crashL (x : JX) (k kp : Int) (s : Slots.Sl) : JX × Int :=
  if (Disk.crash (logAt x.l k).dev kp).2 ≠ 0 then (JX.zero, (Disk.crash (logAt x.l k).dev kp).2) else (⟨s, ⟨(Disk.crash (logAt x.l k).dev kp).1, (logAt x.l k).first, (logAt x.l k).next⟩, zeros⟩, 0)
theorem crash_end {x : JX} {k keep kp : Int} {r : Slots.Sl} {l : Wal.Log} {d : Disk.Dev} (hr : (r, (0 : Int)) = crashS x k keep) (hl : l = logAt x.l k) (hd : (d, (0 : Int)) = Disk.crash l.dev kp) (hk : (if 1 < k then 0 else keep) = kp) :
    (⟨r, ⟨d, l.first, l.next⟩, zeros⟩, (0 : Int)) = if (Disk.crash (logAt x.l k).dev (if 1 < k then 0 else keep)).2 ≠ 0 then (JX.zero, (Disk.crash (logAt x.l k).dev (if 1 < k then 0 else keep)).2)
      else (⟨(crashS x k keep).1, ⟨(Disk.crash (logAt x.l k).dev (if 1 < k then 0 else keep)).1, (logAt x.l k).first, (logAt x.l k).next⟩, zeros⟩, 0) := by
  rw [hk, ← hl, ← hd, ← hr, if_neg (by simp)]
theorem crash_err {x : JX} {k keep kp er : Int} {l : Wal.Log} {d : Disk.Dev} (he : er ≠ 0) (hl : l = logAt x.l k) (hd : (d, er) = Disk.crash l.dev kp) (hk : (if 1 < k then 0 else keep) = kp) {s : JX} :
    (JX.zero, er) = if (Disk.crash (logAt x.l k).dev (if 1 < k then 0 else keep)).2 ≠ 0 then (JX.zero, (Disk.crash (logAt x.l k).dev (if 1 < k then 0 else keep)).2) else (s, 0) := by
  rw [hk, ← hl, ← hd, if_pos he]
end Jour
end Go.Proofs.YthgcfjhnnhigoaaGreat

/- A part of a variable stored. Own work. -/
namespace Go.Proofs.YthgcfjhnnhigoaaGreat
open Go.RowKit
open Slots (Sl)

theorem infoD : (Tryz.prog.info? 24).map (·.size) = some 4 := by kernel_rfl
/-- The cells vs, those from k on replaced by us. -/
def splice (vs : List Value) : Nat → List Value → List Value
  | _, [] => vs
  | k, u :: us => splice (vs.set k u) (k + 1) us
section
variable {ops : Array Oper} {rest : List Oper} {o : Oper} {a : Act} {w w' : World} {b lo hi : Nat} {vs us : List Value}
theorem VB.splice (h : VB w b vs) : ∀ (us : List Value) (k : Nat), k + us.length ≤ vs.length → VB (wsetN w b k us) b (splice vs k us) := by
  intro us
  induction us generalizing w vs with
  | nil => intro k _; exact h
  | cons u us ih =>
    intro k hk
    rw [List.length_cons] at hk
    exact ih (h.set k (by omega) u) (k + 1) (by simp; omega)
theorem RB.setO {lo : Nat} {A : Option Addr} {l : List UInt8} {q : Addr} {v : Value} (h : RB w lo A l) (hq : w.cell? q = some v) (hv : ∀ x : UInt8, v ≠ cb x) (u : Value) : RB (w.setCell q u) lo A l := fun hl => by
  obtain ⟨ad, h1, h2, h3⟩ := h hl
  exact ⟨ad, h1, h2, fun i hi => cell_set (h3 i hi) (fun e => by
    have := h3 i hi
    rw [e, hq] at this
    exact hv _ (Option.some.inj this))⟩
theorem RB.splice {lo : Nat} {A : Option Addr} {l : List UInt8} (hr : RB w lo A l) (h : VB w b vs) (hn : vs.all notByte = true) : ∀ (us : List Value) (k : Nat), k + us.length ≤ vs.length → us.all notByte = true → RB (wsetN w b k us) lo A l := by
  intro us
  induction us generalizing w vs with
  | nil => intro k _ _; exact hr
  | cons u us ih =>
    intro k hk hu
    rw [List.length_cons] at hk
    rw [List.all_cons, Bool.and_eq_true] at hu
    have hkl : k < vs.length := by omega
    refine ih (RB.setO hr (h.q k vs[k] (by simp [hkl])) (noByte_of hn _ (List.getElem_mem hkl)) u) (h.set k hkl u) ?_ (k + 1) (by simp; omega) hu.2
    rw [List.all_eq_true] at hn ⊢
    intro v hv
    rcases List.mem_or_eq_of_mem_set hv with hv | rfl
    · exact hn v hv
    · exact hu.1
/-- What a store into a part of the variable in block b leaves. -/
structure StoredAt (w : World) (b : Nat) (vs : List Value) (w' : World) : Prop where
  v : VB w' b vs
  m : Mid b (b + 1) w w'
  ab : ∀ W, Ab W w → W.heap.size ≤ b → Ab W w'
  sz : w'.heap.size = w.heap.size
  rb : ∀ (lo : Nat) (A : Option Addr) (l : List UInt8), RB w lo A l → RB w' lo A l
theorem StoredAt.slm {lo : Nat} {k : AM} {r : Sl} (h : StoredAt w b vs w') (q : SlM w lo k r) : SlM w' lo k r :=
  { q with a := h.rb _ _ _ q.a, b := h.rb _ _ _ q.b, c := h.rb _ _ _ q.c, d := h.rb _ _ _ q.d }
theorem list_stO {Q : Exit → Act → World → Prop} (T : TypeId) {n k : Nat} (hT : (Tryz.prog.info? T).map (·.size) = some n) (hgd : o.guard = none) (x y : Operand) (ho : o.op = .store T x y) (hx : a.eval x = .pointer (some ⟨b, k, none⟩)) (hy : a.eval y = .agg us.toArray) (hv : VB w b vs) (hn : vs.all notByte = true) (hu : us.length = n) (hk : k + n ≤ vs.length)
    (h1 : us.all (·.oneCell') = true) (h2 : us.all notByte = true) (h : ∀ w', StoredAt w b (splice vs k us) w' → wpList Tryz.prog ops Q rest (a.put o.dst undef) w') : wpList Tryz.prog ops Q (o :: rest) a w := by
  refine wpList_plain hgd fun _ hK => wp_store_mid _ x y ho b k us.toArray hx hy ?_ (by rw [hT]; simp [hu]) (by simpa using h1) (hK _ _ (h _ ?_))
  · intro j hj
    have hj' : j < n := by simpa [hu] using hj
    exact ⟨by rw [hv.q (k + j) vs[k + j] (by simp)]; rfl, hv.g _⟩
  · have e : us.toArray.toList = us := by simp
    rw [e, wset_cells]
    exact ⟨hv.splice us k (by omega), Mid.refl.setN (Nat.le_refl _) (Nat.lt_succ_self _) us k, fun W hW hb => Ab.setN hW hb us k, setN_size b us w k, fun lo A l hr => hr.splice hv hn us k (by omega) h2⟩
end
end Go.Proofs.YthgcfjhnnhigoaaGreat

/- Slots that crash at a stage, walked. Own work. -/
namespace Go.Proofs.YthgcfjhnnhigoaaGreat
open Go.RowKit
open Slots (Sl)

/-- It returns slots and an error. -/
def RetS0 (w : World) (m : Sl × Int) (e : Ending) (w' : World) : Prop :=
  ∃ (r : Sl) (er : Int) (k : AM), Hid ((r, er) = m) ∧ e = .returned (.tuple #[.agg #[.slice k.A r.a.s.length k.ca, .slice k.B r.a.t.length k.cb, .int .i64 r.a.cap, .bool r.a.down, .slice k.C r.b.s.length k.cc, .slice k.D r.b.t.length k.cd, .int .i64 r.b.cap, .bool r.b.down, .int .i64 r.n], .int .i64 er]) ∧ SlM w' 0 k r ∧ Ab w w'
/-- Slots of which the first j devices have crashed. -/
def downTo (s : Sl) : Nat → Sl
  | 0 => s
  | 1 => ⟨(Disk.crash s.a 0).1, s.b, s.n⟩
  | _ => ⟨(Disk.crash s.a 0).1, (Disk.crash s.b 0).1, s.n⟩
set_option maxRecDepth 100000 in
set_option maxHeartbeats 6400000 in
theorem jcrs_any (a : JA) (x : JX) (w : World) (h : JM w a x) (ho : Slots.Op x.s) (k keep : Int) (h0 : 0 ≤ k) (h5 : k ≤ 5) :
    Calls Tryz.prog 66 #[.agg #[.slice a.m.A x.s.a.s.length a.m.ca, .slice a.m.B x.s.a.t.length a.m.cb, .int .i64 x.s.a.cap, .bool x.s.a.down, .slice a.m.C x.s.b.s.length a.m.cc, .slice a.m.D x.s.b.t.length a.m.cd, .int .i64 x.s.b.cap, .bool x.s.b.down, .int .i64 x.s.n, .slice a.A x.l.dev.s.length a.ca, .slice a.B x.l.dev.t.length a.cb, .int .i64 x.l.dev.cap, .bool x.l.dev.down, .int .i64 x.l.first, .int .i64 x.l.next, .int .i64 (cx x.c 0), .int .i64 (cx x.c 1), .int .i64 (cx x.c 2), .int .i64 (cx x.c 3), .int .i64 (cx x.c 4), .int .i64 (cx x.c 5), .int .i64 (cx x.c 6), .int .i64 (cx x.c 7)], .int .i64 k, .int .i64 keep] w (RetS0 w (Jour.crashS x k keep)) := by
  have hbx : VB ((w.alloc (.cells #[.slice a.m.A x.s.a.s.length a.m.ca, .slice a.m.B x.s.a.t.length a.m.cb, .int .i64 x.s.a.cap, .bool x.s.a.down, .slice a.m.C x.s.b.s.length a.m.cc, .slice a.m.D x.s.b.t.length a.m.cd, .int .i64 x.s.b.cap, .bool x.s.b.down, .int .i64 x.s.n, .slice a.A x.l.dev.s.length a.ca, .slice a.B x.l.dev.t.length a.cb, .int .i64 x.l.dev.cap, .bool x.l.dev.down, .int .i64 x.l.first, .int .i64 x.l.next, .int .i64 (cx x.c 0), .int .i64 (cx x.c 1), .int .i64 (cx x.c 2), .int .i64 (cx x.c 3), .int .i64 (cx x.c 4), .int .i64 (cx x.c 5), .int .i64 (cx x.c 6), .int .i64 (cx x.c 7)] 32 (0, 0))).alloc (.cells #[.slice none 0 0, .slice none 0 0, .int .i64 0, .bool false, .slice none 0 0, .slice none 0 0, .int .i64 0, .bool false, .int .i64 0] 27 (0, 0))) w.heap.size [.slice a.m.A x.s.a.s.length a.m.ca, .slice a.m.B x.s.a.t.length a.m.cb, .int .i64 x.s.a.cap, .bool x.s.a.down, .slice a.m.C x.s.b.s.length a.m.cc, .slice a.m.D x.s.b.t.length a.m.cd, .int .i64 x.s.b.cap, .bool x.s.b.down, .int .i64 x.s.n, .slice a.A x.l.dev.s.length a.ca, .slice a.B x.l.dev.t.length a.cb, .int .i64 x.l.dev.cap, .bool x.l.dev.down, .int .i64 x.l.first, .int .i64 x.l.next, .int .i64 (cx x.c 0), .int .i64 (cx x.c 1), .int .i64 (cx x.c 2), .int .i64 (cx x.c 3), .int .i64 (cx x.c 4), .int .i64 (cx x.c 5), .int .i64 (cx x.c 6), .int .i64 (cx x.c 7)] := VB.box (old_alloc (new_plain rfl))
  have hrv : Var ((w.alloc (.cells #[.slice a.m.A x.s.a.s.length a.m.ca, .slice a.m.B x.s.a.t.length a.m.cb, .int .i64 x.s.a.cap, .bool x.s.a.down, .slice a.m.C x.s.b.s.length a.m.cc, .slice a.m.D x.s.b.t.length a.m.cd, .int .i64 x.s.b.cap, .bool x.s.b.down, .int .i64 x.s.n, .slice a.A x.l.dev.s.length a.ca, .slice a.B x.l.dev.t.length a.cb, .int .i64 x.l.dev.cap, .bool x.l.dev.down, .int .i64 x.l.first, .int .i64 x.l.next, .int .i64 (cx x.c 0), .int .i64 (cx x.c 1), .int .i64 (cx x.c 2), .int .i64 (cx x.c 3), .int .i64 (cx x.c 4), .int .i64 (cx x.c 5), .int .i64 (cx x.c 6), .int .i64 (cx x.c 7)] 32 (0, 0))).alloc (.cells #[.slice none 0 0, .slice none 0 0, .int .i64 0, .bool false, .slice none 0 0, .slice none 0 0, .int .i64 0, .bool false, .int .i64 0] 27 (0, 0))) (w.heap.size + 1) 9 := VB.var (vs := [.slice none 0 0, .slice none 0 0, .int .i64 0, .bool false, .slice none 0 0, .slice none 0 0, .int .i64 0, .bool false, .int .i64 0]) (VB.box (new_plain (by simp))) rfl
  by_cases h1 : 1 < k
  · have hh : k = 2 ∨ k = 3 ∨ k = 4 ∨ k = 5 := by omega
    clear h0 h5
    rcases hh with rfl | rfl | rfl | rfl
    · have HM := Lib.hid (show Jour.crashS x 2 keep = Slots.half x.s (Jour.point x.l.next x.c) 1 keep from if_pos (by decide))
      go_enter Tryz.func66, Tryz.ntmps66
      go_upto_region 2 with fail
      refine wp_region_held_drew (by kernel_rfl) (S := fun w' => Ab w w' ∧ VB w' w.heap.size [.slice a.m.A x.s.a.s.length a.m.ca, .slice a.m.B x.s.a.t.length a.m.cb, .int .i64 x.s.a.cap, .bool x.s.a.down, .slice a.m.C x.s.b.s.length a.m.cc, .slice a.m.D x.s.b.t.length a.m.cd, .int .i64 x.s.b.cap, .bool x.s.b.down, .int .i64 x.s.n, .slice a.A x.l.dev.s.length a.ca, .slice a.B x.l.dev.t.length a.cb, .int .i64 x.l.dev.cap, .bool x.l.dev.down, .int .i64 x.l.first, .int .i64 x.l.next, .int .i64 (cx x.c 0), .int .i64 (cx x.c 1), .int .i64 (cx x.c 2), .int .i64 (cx x.c 3), .int .i64 (cx x.c 4), .int .i64 (cx x.c 5), .int .i64 (cx x.c 6), .int .i64 (cx x.c 7)] ∧ Var w' (w.heap.size + 1) 9) ?_ (fun hHeld => ?_)
      · exact ⟨abA, hbx.ab abA, hrv.ab abA⟩
      (refine rtA 0 ?_ ?_
       (try simp only [Act.put, stA, st0, st1]))
      (refine rtL 1 [.slice a.m.A x.s.a.s.length a.m.ca, .slice a.m.B x.s.a.t.length a.m.cb, .int .i64 x.s.a.cap, .bool x.s.a.down, .slice a.m.C x.s.b.s.length a.m.cc, .slice a.m.D x.s.b.t.length a.m.cd, .int .i64 x.s.b.cap, .bool x.s.b.down, .int .i64 x.s.n] 0 (fun w hSw => VB.rangeAt (hSw.2.1) 0 9) Tryz.underlying27 ?_
       (try simp only [Act.put, stA, st0, st1]))
      (refine rtL 2 [.slice a.m.A x.s.a.s.length a.m.ca, .slice a.m.B x.s.a.t.length a.m.cb, .int .i64 x.s.a.cap, .bool x.s.a.down, .slice a.m.C x.s.b.s.length a.m.cc, .slice a.m.D x.s.b.t.length a.m.cd, .int .i64 x.s.b.cap, .bool x.s.b.down, .int .i64 x.s.n, .slice a.A x.l.dev.s.length a.ca, .slice a.B x.l.dev.t.length a.cb, .int .i64 x.l.dev.cap, .bool x.l.dev.down, .int .i64 x.l.first, .int .i64 x.l.next, .int .i64 (cx x.c 0), .int .i64 (cx x.c 1), .int .i64 (cx x.c 2), .int .i64 (cx x.c 3), .int .i64 (cx x.c 4), .int .i64 (cx x.c 5), .int .i64 (cx x.c 6), .int .i64 (cx x.c 7)] 0 (fun w hSw => VB.rangeAt (hSw.2.1) 0 23) Tryz.underlying32 ?_
       (try simp only [Act.put, stA, st0, st1]))
      (refine rtA 4 ?_ ?_
       (try simp only [Act.put, stA, st0, st1]))
      (refine rtA 5 ?_ ?_
       (try simp only [Act.put, stA, st0, st1]))
      (refine rtA 6 ?_ ?_
       (try simp only [Act.put, stA, st0, st1]))
      (refine rtA 7 ?_ ?_
       (try simp only [Act.put, stA, st0, st1]))
      refine r1A 3 (fun K hK => ?_)
      (go_simp
       ((go_at_call 53)
        refine (encc_any a x _ h.hc).mono ?_
        rintro e w5 ⟨X, cX, LX, hLX, rfl, hX, hcX, hb5⟩)
       (try go_wp2_with fail)
       (refine hK.out _ _ ?_ (fun hHeld => ?_)
        · (try dsimp only); exact ⟨hHeld.1.trans hb5, hHeld.2.1.ab hb5, hHeld.2.2.ab hb5⟩
        clear hK K
        (try simp only [Act.put, stA, st0, st1])))
      refine r1A 8 (fun K hK => ?_)
      (go_simp
       ((go_at_call 100)
        refine (shalf_any a.m x.s _ (h.s.ab hHeld.1) X LX cX (hX.zero.ab abA) hcX 1 keep).mono ?_
        rintro e w6 ⟨r6, er6, kk, hr6, rfl, hM6, hb6⟩)
       (try go_wp2_with fail)
       (refine hK.out _ _ ?_ (fun hHeld => ?_)
        · (try dsimp only); exact ⟨hHeld.1.trans hb6, hHeld.2.1.ab hb6, hHeld.2.2.ab hb6⟩
        clear hK K
        (try simp only [Act.put, stA, st0, st1])))
      (refine rtA 9 ?_ ?_
       (try simp only [Act.put, stA, st0, st1]))
      (refine rtA 10 ?_ ?_
       (try simp only [Act.put, stA, st0, st1]))
      refine r1A 11 (fun K hK => ?_)
      (try simp only [Act.put, List.getElem_toArray, List.getElem_cons_succ, List.getElem_cons_zero, stA, st0, st1])
      refine if_go (by rfl) ?_
      refine wp_stV 27 infoS _ _ rfl rfl rfl hHeld.2.2 rfl rfl ?_
      intro w7 h7
      (refine hK.out _ _ ?_ (fun hHeld => ?_)
       · (try dsimp only); exact ⟨h7.ab w hHeld.1 (by omega), hHeld.2.1.mid h7.m (by omega), h7.v.var rfl⟩
       clear hK K
       (try simp only [Act.put, stA, st0, st1]))
      refine r1A 12 (fun K hK => ?_)
      (go_simp
       (refine hK.out _ _ ?_ (fun hHeld => ?_)
        · (try dsimp only); exact hHeld
        clear hK K
        (try simp only [Act.put, stA, st0, st1])))
      refine wpAnyH_done (by kernel_rfl) ?_ _
      go_wp2
      have xq0 := (h7.v).at 0 rfl
      have xq1 := (h7.v).at 1 rfl
      have xq2 := (h7.v).at 2 rfl
      have xq3 := (h7.v).at 3 rfl
      have xq4 := (h7.v).at 4 rfl
      have xq5 := (h7.v).at 5 rfl
      have xq6 := (h7.v).at 6 rfl
      have xq7 := (h7.v).at 7 rfl
      have xq8 := (h7.v).at 8 rfl
      refine bodyPost_ret (v := .tuple #[.agg #[.slice kk.A r6.a.s.length kk.ca, .slice kk.B r6.a.t.length kk.cb, .int .i64 r6.a.cap, .bool r6.a.down, .slice kk.C r6.b.s.length kk.cc, .slice kk.D r6.b.t.length kk.cd, .int .i64 r6.b.cap, .bool r6.b.down, .int .i64 r6.n], .int .i64 er6]) (by simp [results, Tryz.results66, go_sem, *]) rfl ?_
      exact ⟨r6, er6, kk, Lib.hid (by rw [HM.out, hr6.out, hLX.out]), rfl, h7.slm (hM6.zero), hHeld.1⟩
    · have HM := Lib.hid (show Jour.crashS x 3 keep = Slots.half x.s (Jour.point x.l.next x.c) 2 keep from if_pos (by decide))
      go_enter Tryz.func66, Tryz.ntmps66
      go_upto_region 2 with fail
      refine wp_region_held_drew (by kernel_rfl) (S := fun w' => Ab w w' ∧ VB w' w.heap.size [.slice a.m.A x.s.a.s.length a.m.ca, .slice a.m.B x.s.a.t.length a.m.cb, .int .i64 x.s.a.cap, .bool x.s.a.down, .slice a.m.C x.s.b.s.length a.m.cc, .slice a.m.D x.s.b.t.length a.m.cd, .int .i64 x.s.b.cap, .bool x.s.b.down, .int .i64 x.s.n, .slice a.A x.l.dev.s.length a.ca, .slice a.B x.l.dev.t.length a.cb, .int .i64 x.l.dev.cap, .bool x.l.dev.down, .int .i64 x.l.first, .int .i64 x.l.next, .int .i64 (cx x.c 0), .int .i64 (cx x.c 1), .int .i64 (cx x.c 2), .int .i64 (cx x.c 3), .int .i64 (cx x.c 4), .int .i64 (cx x.c 5), .int .i64 (cx x.c 6), .int .i64 (cx x.c 7)] ∧ Var w' (w.heap.size + 1) 9) ?_ (fun hHeld => ?_)
      · exact ⟨abA, hbx.ab abA, hrv.ab abA⟩
      (refine rtA 0 ?_ ?_
       (try simp only [Act.put, stA, st0, st1]))
      (refine rtL 1 [.slice a.m.A x.s.a.s.length a.m.ca, .slice a.m.B x.s.a.t.length a.m.cb, .int .i64 x.s.a.cap, .bool x.s.a.down, .slice a.m.C x.s.b.s.length a.m.cc, .slice a.m.D x.s.b.t.length a.m.cd, .int .i64 x.s.b.cap, .bool x.s.b.down, .int .i64 x.s.n] 0 (fun w hSw => VB.rangeAt (hSw.2.1) 0 9) Tryz.underlying27 ?_
       (try simp only [Act.put, stA, st0, st1]))
      (refine rtL 2 [.slice a.m.A x.s.a.s.length a.m.ca, .slice a.m.B x.s.a.t.length a.m.cb, .int .i64 x.s.a.cap, .bool x.s.a.down, .slice a.m.C x.s.b.s.length a.m.cc, .slice a.m.D x.s.b.t.length a.m.cd, .int .i64 x.s.b.cap, .bool x.s.b.down, .int .i64 x.s.n, .slice a.A x.l.dev.s.length a.ca, .slice a.B x.l.dev.t.length a.cb, .int .i64 x.l.dev.cap, .bool x.l.dev.down, .int .i64 x.l.first, .int .i64 x.l.next, .int .i64 (cx x.c 0), .int .i64 (cx x.c 1), .int .i64 (cx x.c 2), .int .i64 (cx x.c 3), .int .i64 (cx x.c 4), .int .i64 (cx x.c 5), .int .i64 (cx x.c 6), .int .i64 (cx x.c 7)] 0 (fun w hSw => VB.rangeAt (hSw.2.1) 0 23) Tryz.underlying32 ?_
       (try simp only [Act.put, stA, st0, st1]))
      (refine rtA 4 ?_ ?_
       (try simp only [Act.put, stA, st0, st1]))
      (refine rtA 5 ?_ ?_
       (try simp only [Act.put, stA, st0, st1]))
      (refine rtA 6 ?_ ?_
       (try simp only [Act.put, stA, st0, st1]))
      (refine rtA 7 ?_ ?_
       (try simp only [Act.put, stA, st0, st1]))
      refine r1A 3 (fun K hK => ?_)
      (go_simp
       ((go_at_call 53)
        refine (encc_any a x _ h.hc).mono ?_
        rintro e w5 ⟨X, cX, LX, hLX, rfl, hX, hcX, hb5⟩)
       (try go_wp2_with fail)
       (refine hK.out _ _ ?_ (fun hHeld => ?_)
        · (try dsimp only); exact ⟨hHeld.1.trans hb5, hHeld.2.1.ab hb5, hHeld.2.2.ab hb5⟩
        clear hK K
        (try simp only [Act.put, stA, st0, st1])))
      refine r1A 8 (fun K hK => ?_)
      (go_simp
       ((go_at_call 100)
        refine (shalf_any a.m x.s _ (h.s.ab hHeld.1) X LX cX (hX.zero.ab abA) hcX 2 keep).mono ?_
        rintro e w6 ⟨r6, er6, kk, hr6, rfl, hM6, hb6⟩)
       (try go_wp2_with fail)
       (refine hK.out _ _ ?_ (fun hHeld => ?_)
        · (try dsimp only); exact ⟨hHeld.1.trans hb6, hHeld.2.1.ab hb6, hHeld.2.2.ab hb6⟩
        clear hK K
        (try simp only [Act.put, stA, st0, st1])))
      (refine rtA 9 ?_ ?_
       (try simp only [Act.put, stA, st0, st1]))
      (refine rtA 10 ?_ ?_
       (try simp only [Act.put, stA, st0, st1]))
      refine r1A 11 (fun K hK => ?_)
      (try simp only [Act.put, List.getElem_toArray, List.getElem_cons_succ, List.getElem_cons_zero, stA, st0, st1])
      refine if_go (by rfl) ?_
      refine wp_stV 27 infoS _ _ rfl rfl rfl hHeld.2.2 rfl rfl ?_
      intro w7 h7
      (refine hK.out _ _ ?_ (fun hHeld => ?_)
       · (try dsimp only); exact ⟨h7.ab w hHeld.1 (by omega), hHeld.2.1.mid h7.m (by omega), h7.v.var rfl⟩
       clear hK K
       (try simp only [Act.put, stA, st0, st1]))
      refine r1A 12 (fun K hK => ?_)
      (go_simp
       (refine hK.out _ _ ?_ (fun hHeld => ?_)
        · (try dsimp only); exact hHeld
        clear hK K
        (try simp only [Act.put, stA, st0, st1])))
      refine wpAnyH_done (by kernel_rfl) ?_ _
      go_wp2
      have xq0 := (h7.v).at 0 rfl
      have xq1 := (h7.v).at 1 rfl
      have xq2 := (h7.v).at 2 rfl
      have xq3 := (h7.v).at 3 rfl
      have xq4 := (h7.v).at 4 rfl
      have xq5 := (h7.v).at 5 rfl
      have xq6 := (h7.v).at 6 rfl
      have xq7 := (h7.v).at 7 rfl
      have xq8 := (h7.v).at 8 rfl
      refine bodyPost_ret (v := .tuple #[.agg #[.slice kk.A r6.a.s.length kk.ca, .slice kk.B r6.a.t.length kk.cb, .int .i64 r6.a.cap, .bool r6.a.down, .slice kk.C r6.b.s.length kk.cc, .slice kk.D r6.b.t.length kk.cd, .int .i64 r6.b.cap, .bool r6.b.down, .int .i64 r6.n], .int .i64 er6]) (by simp [results, Tryz.results66, go_sem, *]) rfl ?_
      exact ⟨r6, er6, kk, Lib.hid (by rw [HM.out, hr6.out, hLX.out]), rfl, h7.slm (hM6.zero), hHeld.1⟩
    · have HM := Lib.hid (show Jour.crashS x 4 keep = Slots.half x.s (Jour.point x.l.next x.c) 3 keep from if_pos (by decide))
      go_enter Tryz.func66, Tryz.ntmps66
      go_upto_region 2 with fail
      refine wp_region_held_drew (by kernel_rfl) (S := fun w' => Ab w w' ∧ VB w' w.heap.size [.slice a.m.A x.s.a.s.length a.m.ca, .slice a.m.B x.s.a.t.length a.m.cb, .int .i64 x.s.a.cap, .bool x.s.a.down, .slice a.m.C x.s.b.s.length a.m.cc, .slice a.m.D x.s.b.t.length a.m.cd, .int .i64 x.s.b.cap, .bool x.s.b.down, .int .i64 x.s.n, .slice a.A x.l.dev.s.length a.ca, .slice a.B x.l.dev.t.length a.cb, .int .i64 x.l.dev.cap, .bool x.l.dev.down, .int .i64 x.l.first, .int .i64 x.l.next, .int .i64 (cx x.c 0), .int .i64 (cx x.c 1), .int .i64 (cx x.c 2), .int .i64 (cx x.c 3), .int .i64 (cx x.c 4), .int .i64 (cx x.c 5), .int .i64 (cx x.c 6), .int .i64 (cx x.c 7)] ∧ Var w' (w.heap.size + 1) 9) ?_ (fun hHeld => ?_)
      · exact ⟨abA, hbx.ab abA, hrv.ab abA⟩
      (refine rtA 0 ?_ ?_
       (try simp only [Act.put, stA, st0, st1]))
      (refine rtL 1 [.slice a.m.A x.s.a.s.length a.m.ca, .slice a.m.B x.s.a.t.length a.m.cb, .int .i64 x.s.a.cap, .bool x.s.a.down, .slice a.m.C x.s.b.s.length a.m.cc, .slice a.m.D x.s.b.t.length a.m.cd, .int .i64 x.s.b.cap, .bool x.s.b.down, .int .i64 x.s.n] 0 (fun w hSw => VB.rangeAt (hSw.2.1) 0 9) Tryz.underlying27 ?_
       (try simp only [Act.put, stA, st0, st1]))
      (refine rtL 2 [.slice a.m.A x.s.a.s.length a.m.ca, .slice a.m.B x.s.a.t.length a.m.cb, .int .i64 x.s.a.cap, .bool x.s.a.down, .slice a.m.C x.s.b.s.length a.m.cc, .slice a.m.D x.s.b.t.length a.m.cd, .int .i64 x.s.b.cap, .bool x.s.b.down, .int .i64 x.s.n, .slice a.A x.l.dev.s.length a.ca, .slice a.B x.l.dev.t.length a.cb, .int .i64 x.l.dev.cap, .bool x.l.dev.down, .int .i64 x.l.first, .int .i64 x.l.next, .int .i64 (cx x.c 0), .int .i64 (cx x.c 1), .int .i64 (cx x.c 2), .int .i64 (cx x.c 3), .int .i64 (cx x.c 4), .int .i64 (cx x.c 5), .int .i64 (cx x.c 6), .int .i64 (cx x.c 7)] 0 (fun w hSw => VB.rangeAt (hSw.2.1) 0 23) Tryz.underlying32 ?_
       (try simp only [Act.put, stA, st0, st1]))
      (refine rtA 4 ?_ ?_
       (try simp only [Act.put, stA, st0, st1]))
      (refine rtA 5 ?_ ?_
       (try simp only [Act.put, stA, st0, st1]))
      (refine rtA 6 ?_ ?_
       (try simp only [Act.put, stA, st0, st1]))
      (refine rtA 7 ?_ ?_
       (try simp only [Act.put, stA, st0, st1]))
      refine r1A 3 (fun K hK => ?_)
      (go_simp
       ((go_at_call 53)
        refine (encc_any a x _ h.hc).mono ?_
        rintro e w5 ⟨X, cX, LX, hLX, rfl, hX, hcX, hb5⟩)
       (try go_wp2_with fail)
       (refine hK.out _ _ ?_ (fun hHeld => ?_)
        · (try dsimp only); exact ⟨hHeld.1.trans hb5, hHeld.2.1.ab hb5, hHeld.2.2.ab hb5⟩
        clear hK K
        (try simp only [Act.put, stA, st0, st1])))
      refine r1A 8 (fun K hK => ?_)
      (go_simp
       ((go_at_call 100)
        refine (shalf_any a.m x.s _ (h.s.ab hHeld.1) X LX cX (hX.zero.ab abA) hcX 3 keep).mono ?_
        rintro e w6 ⟨r6, er6, kk, hr6, rfl, hM6, hb6⟩)
       (try go_wp2_with fail)
       (refine hK.out _ _ ?_ (fun hHeld => ?_)
        · (try dsimp only); exact ⟨hHeld.1.trans hb6, hHeld.2.1.ab hb6, hHeld.2.2.ab hb6⟩
        clear hK K
        (try simp only [Act.put, stA, st0, st1])))
      (refine rtA 9 ?_ ?_
       (try simp only [Act.put, stA, st0, st1]))
      (refine rtA 10 ?_ ?_
       (try simp only [Act.put, stA, st0, st1]))
      refine r1A 11 (fun K hK => ?_)
      (try simp only [Act.put, List.getElem_toArray, List.getElem_cons_succ, List.getElem_cons_zero, stA, st0, st1])
      refine if_go (by rfl) ?_
      refine wp_stV 27 infoS _ _ rfl rfl rfl hHeld.2.2 rfl rfl ?_
      intro w7 h7
      (refine hK.out _ _ ?_ (fun hHeld => ?_)
       · (try dsimp only); exact ⟨h7.ab w hHeld.1 (by omega), hHeld.2.1.mid h7.m (by omega), h7.v.var rfl⟩
       clear hK K
       (try simp only [Act.put, stA, st0, st1]))
      refine r1A 12 (fun K hK => ?_)
      (go_simp
       (refine hK.out _ _ ?_ (fun hHeld => ?_)
        · (try dsimp only); exact hHeld
        clear hK K
        (try simp only [Act.put, stA, st0, st1])))
      refine wpAnyH_done (by kernel_rfl) ?_ _
      go_wp2
      have xq0 := (h7.v).at 0 rfl
      have xq1 := (h7.v).at 1 rfl
      have xq2 := (h7.v).at 2 rfl
      have xq3 := (h7.v).at 3 rfl
      have xq4 := (h7.v).at 4 rfl
      have xq5 := (h7.v).at 5 rfl
      have xq6 := (h7.v).at 6 rfl
      have xq7 := (h7.v).at 7 rfl
      have xq8 := (h7.v).at 8 rfl
      refine bodyPost_ret (v := .tuple #[.agg #[.slice kk.A r6.a.s.length kk.ca, .slice kk.B r6.a.t.length kk.cb, .int .i64 r6.a.cap, .bool r6.a.down, .slice kk.C r6.b.s.length kk.cc, .slice kk.D r6.b.t.length kk.cd, .int .i64 r6.b.cap, .bool r6.b.down, .int .i64 r6.n], .int .i64 er6]) (by simp [results, Tryz.results66, go_sem, *]) rfl ?_
      exact ⟨r6, er6, kk, Lib.hid (by rw [HM.out, hr6.out, hLX.out]), rfl, h7.slm (hM6.zero), hHeld.1⟩
    · have HM := Lib.hid (show Jour.crashS x 5 keep = Slots.half x.s (Jour.point x.l.next x.c) 3 keep from if_pos (by decide))
      go_enter Tryz.func66, Tryz.ntmps66
      go_upto_region 2 with fail
      refine wp_region_held_drew (by kernel_rfl) (S := fun w' => Ab w w' ∧ VB w' w.heap.size [.slice a.m.A x.s.a.s.length a.m.ca, .slice a.m.B x.s.a.t.length a.m.cb, .int .i64 x.s.a.cap, .bool x.s.a.down, .slice a.m.C x.s.b.s.length a.m.cc, .slice a.m.D x.s.b.t.length a.m.cd, .int .i64 x.s.b.cap, .bool x.s.b.down, .int .i64 x.s.n, .slice a.A x.l.dev.s.length a.ca, .slice a.B x.l.dev.t.length a.cb, .int .i64 x.l.dev.cap, .bool x.l.dev.down, .int .i64 x.l.first, .int .i64 x.l.next, .int .i64 (cx x.c 0), .int .i64 (cx x.c 1), .int .i64 (cx x.c 2), .int .i64 (cx x.c 3), .int .i64 (cx x.c 4), .int .i64 (cx x.c 5), .int .i64 (cx x.c 6), .int .i64 (cx x.c 7)] ∧ Var w' (w.heap.size + 1) 9) ?_ (fun hHeld => ?_)
      · exact ⟨abA, hbx.ab abA, hrv.ab abA⟩
      (refine rtA 0 ?_ ?_
       (try simp only [Act.put, stA, st0, st1]))
      (refine rtL 1 [.slice a.m.A x.s.a.s.length a.m.ca, .slice a.m.B x.s.a.t.length a.m.cb, .int .i64 x.s.a.cap, .bool x.s.a.down, .slice a.m.C x.s.b.s.length a.m.cc, .slice a.m.D x.s.b.t.length a.m.cd, .int .i64 x.s.b.cap, .bool x.s.b.down, .int .i64 x.s.n] 0 (fun w hSw => VB.rangeAt (hSw.2.1) 0 9) Tryz.underlying27 ?_
       (try simp only [Act.put, stA, st0, st1]))
      (refine rtL 2 [.slice a.m.A x.s.a.s.length a.m.ca, .slice a.m.B x.s.a.t.length a.m.cb, .int .i64 x.s.a.cap, .bool x.s.a.down, .slice a.m.C x.s.b.s.length a.m.cc, .slice a.m.D x.s.b.t.length a.m.cd, .int .i64 x.s.b.cap, .bool x.s.b.down, .int .i64 x.s.n, .slice a.A x.l.dev.s.length a.ca, .slice a.B x.l.dev.t.length a.cb, .int .i64 x.l.dev.cap, .bool x.l.dev.down, .int .i64 x.l.first, .int .i64 x.l.next, .int .i64 (cx x.c 0), .int .i64 (cx x.c 1), .int .i64 (cx x.c 2), .int .i64 (cx x.c 3), .int .i64 (cx x.c 4), .int .i64 (cx x.c 5), .int .i64 (cx x.c 6), .int .i64 (cx x.c 7)] 0 (fun w hSw => VB.rangeAt (hSw.2.1) 0 23) Tryz.underlying32 ?_
       (try simp only [Act.put, stA, st0, st1]))
      (refine rtA 4 ?_ ?_
       (try simp only [Act.put, stA, st0, st1]))
      (refine rtA 5 ?_ ?_
       (try simp only [Act.put, stA, st0, st1]))
      (refine rtA 6 ?_ ?_
       (try simp only [Act.put, stA, st0, st1]))
      (refine rtA 7 ?_ ?_
       (try simp only [Act.put, stA, st0, st1]))
      refine r1A 3 (fun K hK => ?_)
      (go_simp
       ((go_at_call 53)
        refine (encc_any a x _ h.hc).mono ?_
        rintro e w5 ⟨X, cX, LX, hLX, rfl, hX, hcX, hb5⟩)
       (try go_wp2_with fail)
       (refine hK.out _ _ ?_ (fun hHeld => ?_)
        · (try dsimp only); exact ⟨hHeld.1.trans hb5, hHeld.2.1.ab hb5, hHeld.2.2.ab hb5⟩
        clear hK K
        (try simp only [Act.put, stA, st0, st1])))
      refine r1A 8 (fun K hK => ?_)
      (go_simp
       ((go_at_call 100)
        refine (shalf_any a.m x.s _ (h.s.ab hHeld.1) X LX cX (hX.zero.ab abA) hcX 3 keep).mono ?_
        rintro e w6 ⟨r6, er6, kk, hr6, rfl, hM6, hb6⟩)
       (try go_wp2_with fail)
       (refine hK.out _ _ ?_ (fun hHeld => ?_)
        · (try dsimp only); exact ⟨hHeld.1.trans hb6, hHeld.2.1.ab hb6, hHeld.2.2.ab hb6⟩
        clear hK K
        (try simp only [Act.put, stA, st0, st1])))
      (refine rtA 9 ?_ ?_
       (try simp only [Act.put, stA, st0, st1]))
      (refine rtA 10 ?_ ?_
       (try simp only [Act.put, stA, st0, st1]))
      refine r1A 11 (fun K hK => ?_)
      (try simp only [Act.put, List.getElem_toArray, List.getElem_cons_succ, List.getElem_cons_zero, stA, st0, st1])
      refine if_go (by rfl) ?_
      refine wp_stV 27 infoS _ _ rfl rfl rfl hHeld.2.2 rfl rfl ?_
      intro w7 h7
      (refine hK.out _ _ ?_ (fun hHeld => ?_)
       · (try dsimp only); exact ⟨h7.ab w hHeld.1 (by omega), hHeld.2.1.mid h7.m (by omega), h7.v.var rfl⟩
       clear hK K
       (try simp only [Act.put, stA, st0, st1]))
      refine r1A 12 (fun K hK => ?_)
      (go_simp
       (refine hK.out _ _ ?_ (fun hHeld => ?_)
        · (try dsimp only); exact hHeld
        clear hK K
        (try simp only [Act.put, stA, st0, st1])))
      refine wpAnyH_done (by kernel_rfl) ?_ _
      go_wp2
      have xq0 := (h7.v).at 0 rfl
      have xq1 := (h7.v).at 1 rfl
      have xq2 := (h7.v).at 2 rfl
      have xq3 := (h7.v).at 3 rfl
      have xq4 := (h7.v).at 4 rfl
      have xq5 := (h7.v).at 5 rfl
      have xq6 := (h7.v).at 6 rfl
      have xq7 := (h7.v).at 7 rfl
      have xq8 := (h7.v).at 8 rfl
      refine bodyPost_ret (v := .tuple #[.agg #[.slice kk.A r6.a.s.length kk.ca, .slice kk.B r6.a.t.length kk.cb, .int .i64 r6.a.cap, .bool r6.a.down, .slice kk.C r6.b.s.length kk.cc, .slice kk.D r6.b.t.length kk.cd, .int .i64 r6.b.cap, .bool r6.b.down, .int .i64 r6.n], .int .i64 er6]) (by simp [results, Tryz.results66, go_sem, *]) rfl ?_
      exact ⟨r6, er6, kk, Lib.hid (by rw [HM.out, hr6.out, hLX.out]), rfl, h7.slm (hM6.zero), hHeld.1⟩
  · have HM := Lib.hid (show Jour.crashS x k keep = _ from if_neg h1)
    have d1 : decide (1 < k) = false := by simpa using h1
    clear h1 h0 h5
    go_enter Tryz.func66, Tryz.ntmps66
    have xq0 := (hbx).at 0 rfl
    have xq1 := (hbx).at 1 rfl
    have xq2 := (hbx).at 2 rfl
    have xq3 := (hbx).at 3 rfl
    have xq4 := (hbx).at 4 rfl
    have xq5 := (hbx).at 5 rfl
    have xq6 := (hbx).at 6 rfl
    have xq7 := (hbx).at 7 rfl
    have xq8 := (hbx).at 8 rfl
    go_wp2
    have A2 := (Ab.refl ((w.alloc (.cells #[.slice a.m.A x.s.a.s.length a.m.ca, .slice a.m.B x.s.a.t.length a.m.cb, .int .i64 x.s.a.cap, .bool x.s.a.down, .slice a.m.C x.s.b.s.length a.m.cc, .slice a.m.D x.s.b.t.length a.m.cd, .int .i64 x.s.b.cap, .bool x.s.b.down, .int .i64 x.s.n, .slice a.A x.l.dev.s.length a.ca, .slice a.B x.l.dev.t.length a.cb, .int .i64 x.l.dev.cap, .bool x.l.dev.down, .int .i64 x.l.first, .int .i64 x.l.next, .int .i64 (cx x.c 0), .int .i64 (cx x.c 1), .int .i64 (cx x.c 2), .int .i64 (cx x.c 3), .int .i64 (cx x.c 4), .int .i64 (cx x.c 5), .int .i64 (cx x.c 6), .int .i64 (cx x.c 7)] 32 (0, 0))).alloc (.cells #[.slice none 0 0, .slice none 0 0, .int .i64 0, .bool false, .slice none 0 0, .slice none 0 0, .int .i64 0, .bool false, .int .i64 0] 27 (0, 0)))).alloc (.cells #[.slice a.m.A x.s.a.s.length a.m.ca, .slice a.m.B x.s.a.t.length a.m.cb, .int .i64 x.s.a.cap, .bool x.s.a.down, .slice a.m.C x.s.b.s.length a.m.cc, .slice a.m.D x.s.b.t.length a.m.cd, .int .i64 x.s.b.cap, .bool x.s.b.down, .int .i64 x.s.n] 27 (0, 0))
    have hsx : VB (((w.alloc (.cells #[.slice a.m.A x.s.a.s.length a.m.ca, .slice a.m.B x.s.a.t.length a.m.cb, .int .i64 x.s.a.cap, .bool x.s.a.down, .slice a.m.C x.s.b.s.length a.m.cc, .slice a.m.D x.s.b.t.length a.m.cd, .int .i64 x.s.b.cap, .bool x.s.b.down, .int .i64 x.s.n, .slice a.A x.l.dev.s.length a.ca, .slice a.B x.l.dev.t.length a.cb, .int .i64 x.l.dev.cap, .bool x.l.dev.down, .int .i64 x.l.first, .int .i64 x.l.next, .int .i64 (cx x.c 0), .int .i64 (cx x.c 1), .int .i64 (cx x.c 2), .int .i64 (cx x.c 3), .int .i64 (cx x.c 4), .int .i64 (cx x.c 5), .int .i64 (cx x.c 6), .int .i64 (cx x.c 7)] 32 (0, 0))).alloc (.cells #[.slice none 0 0, .slice none 0 0, .int .i64 0, .bool false, .slice none 0 0, .slice none 0 0, .int .i64 0, .bool false, .int .i64 0] 27 (0, 0))).alloc (.cells #[.slice a.m.A x.s.a.s.length a.m.ca, .slice a.m.B x.s.a.t.length a.m.cb, .int .i64 x.s.a.cap, .bool x.s.a.down, .slice a.m.C x.s.b.s.length a.m.cc, .slice a.m.D x.s.b.t.length a.m.cd, .int .i64 x.s.b.cap, .bool x.s.b.down, .int .i64 x.s.n] 27 (0, 0))) (w.heap.size + 2) [.slice a.m.A x.s.a.s.length a.m.ca, .slice a.m.B x.s.a.t.length a.m.cb, .int .i64 x.s.a.cap, .bool x.s.a.down, .slice a.m.C x.s.b.s.length a.m.cc, .slice a.m.D x.s.b.t.length a.m.cd, .int .i64 x.s.b.cap, .bool x.s.b.down, .int .i64 x.s.n] := VB.box (new_plain (by simp))
    have hrv2 := hrv.ab A2
    clear xq0 xq1 xq2 xq3 xq4 xq5 xq6 xq7 xq8
    go_loopw [28] (fun i wr => ∃ j : Nat, j ≤ 2 ∧ i = .int .i64 (j : Int) ∧ (∃ kk : AM, VB wr (w.heap.size + 2) [.slice kk.A (downTo x.s j).a.s.length kk.ca, .slice kk.B (downTo x.s j).a.t.length kk.cb, .int .i64 (downTo x.s j).a.cap, .bool (downTo x.s j).a.down, .slice kk.C (downTo x.s j).b.s.length kk.cc, .slice kk.D (downTo x.s j).b.t.length kk.cd, .int .i64 (downTo x.s j).b.cap, .bool (downTo x.s j).b.down, .int .i64 (downTo x.s j).n] ∧ SlM wr 0 kk (downTo x.s j)) ∧ Var wr (w.heap.size + 1) 9 ∧ Ab w wr) (fun i _ => 2 - (intOf i).toNat)
    case atStart => exact ⟨0, by omega, rfl, ⟨a.m, hsx, h.s.ab abA⟩, hrv2, abA⟩
    case round =>
      obtain ⟨j, hj, rfl, ⟨kk, vP, hMP⟩, vR, hab⟩ := hrel
      have zP := vP.lt
      have hj3 : j = 0 ∨ j = 1 ∨ j = 2 := by omega
      clear hj
      rcases hj3 with rfl | rfl | rfl
      · go_wp2_with fail
        refine (crash_any a.m.A a.m.B a.m.ca a.m.cb x.s.a.s x.s.a.t x.s.a.cap x.s.a.down _ (h.s.a.ab abA) (h.s.b.ab abA) h.s.la h.s.lb h.s.sa h.s.sb 0).mono ?_
        rintro e w5 ⟨⟨s5, t5, cp5, dn5⟩, er5, D, E, cd, ce, hr5, rfl, oD, oE, hb5⟩
        dsimp only at oD oE
        have ed : (Disk.crash x.s.a 0).1 = ⟨s5, t5, cp5, dn5⟩ := by rw [show Disk.crash x.s.a 0 = _ from hr5.out.symm]
        have HD := Lib.hid (show downTo x.s 1 = ⟨⟨s5, t5, cp5, dn5⟩, x.s.b, x.s.n⟩ by simp only [downTo, ed])
        have l5 : s5.length ≤ 1000000 ∧ t5.length ≤ 1000000 := by
          have := Slots.small_crash (d := x.s.a) 0 (by first | exact ⟨h.s.sa, h.s.sb⟩ | exact ⟨h.s.sc, h.s.sd⟩)
          rw [ed] at this
          exact this
        have vP5 := vP.ab (((Ab.refl wr).alloc _).trans hb5)
        have hMP5 := hMP.ab (((Ab.refl wr).alloc _).trans hb5)
        have vR5 := vR.ab (((Ab.refl wr).alloc _).trans hb5)
        have hab5 := hab.trans (((Ab.refl wr).alloc _).trans hb5)
        clear ed hr5
        go_wp2_with (refine list_stO 24 infoD rfl _ _ rfl rfl rfl vP5 rfl rfl (Nat.le_of_ble_eq_true rfl) rfl rfl ?_; intro w7 h7)
        have q7 := h7.rb 0
        go_roundw
        case rel => exact ⟨1, by omega, by go_num, ⟨⟨D, E, kk.C, kk.D, cd, ce, kk.cc, kk.cd⟩, by rw [HD.out]; exact h7.v, by rw [HD.out]; exact ⟨q7 D s5 oD.rb.zero, q7 E t5 oE.rb.zero, q7 _ _ hMP5.c, q7 _ _ hMP5.d, oD.le, oE.le, hMP5.lc, hMP5.ld, l5.1, l5.2, hMP5.sc, hMP5.sd⟩⟩, vR5.mid h7.m (by omega), h7.ab w hab5 (by omega)⟩
        case measure => simp [intOf]
      · go_wp2_with fail
        refine (crash_any a.m.C a.m.D a.m.cc a.m.cd x.s.b.s x.s.b.t x.s.b.cap x.s.b.down _ (h.s.c.ab abA) (h.s.d.ab abA) h.s.lc h.s.ld h.s.sc h.s.sd 0).mono ?_
        rintro e w5 ⟨⟨s5, t5, cp5, dn5⟩, er5, D, E, cd, ce, hr5, rfl, oD, oE, hb5⟩
        dsimp only at oD oE
        have ed : (Disk.crash x.s.b 0).1 = ⟨s5, t5, cp5, dn5⟩ := by rw [show Disk.crash x.s.b 0 = _ from hr5.out.symm]
        have HD := Lib.hid (show downTo x.s 2 = ⟨(downTo x.s 1).a, ⟨s5, t5, cp5, dn5⟩, x.s.n⟩ by simp only [downTo, ed])
        have l5 : s5.length ≤ 1000000 ∧ t5.length ≤ 1000000 := by
          have := Slots.small_crash (d := x.s.b) 0 (by first | exact ⟨h.s.sa, h.s.sb⟩ | exact ⟨h.s.sc, h.s.sd⟩)
          rw [ed] at this
          exact this
        have vP5 := vP.ab (((Ab.refl wr).alloc _).trans hb5)
        have hMP5 := hMP.ab (((Ab.refl wr).alloc _).trans hb5)
        have vR5 := vR.ab (((Ab.refl wr).alloc _).trans hb5)
        have hab5 := hab.trans (((Ab.refl wr).alloc _).trans hb5)
        clear ed hr5
        go_wp2_with (refine list_stO 24 infoD rfl _ _ rfl rfl rfl vP5 rfl rfl (Nat.le_of_ble_eq_true rfl) rfl rfl ?_; intro w7 h7)
        have q7 := h7.rb 0
        go_roundw
        case rel => exact ⟨2, by omega, by go_num, ⟨⟨kk.A, kk.B, D, E, kk.ca, kk.cb, cd, ce⟩, by rw [HD.out]; exact h7.v, by rw [HD.out]; exact ⟨q7 _ _ hMP5.a, q7 _ _ hMP5.b, q7 D s5 oD.rb.zero, q7 E t5 oE.rb.zero, hMP5.la, hMP5.lb, oD.le, oE.le, hMP5.sa, hMP5.sb, l5.1, l5.2⟩⟩, vR5.mid h7.m (by omega), h7.ab w hab5 (by omega)⟩
        case measure => simp [intOf]
      · have xq0 := (vP).at 0 rfl
        have xq1 := (vP).at 1 rfl
        have xq2 := (vP).at 2 rfl
        have xq3 := (vP).at 3 rfl
        have xq4 := (vP).at 4 rfl
        have xq5 := (vP).at 5 rfl
        have xq6 := (vP).at 6 rfl
        have xq7 := (vP).at 7 rfl
        have xq8 := (vP).at 8 rfl
        go_wp2_with (refine list_stV 27 infoS rfl _ _ rfl rfl rfl vR rfl rfl ?_; intro w7 h7)
        have yq0 := (h7.v).at 0 rfl
        have yq1 := (h7.v).at 1 rfl
        have yq2 := (h7.v).at 2 rfl
        have yq3 := (h7.v).at 3 rfl
        have yq4 := (h7.v).at 4 rfl
        have yq5 := (h7.v).at 5 rfl
        have yq6 := (h7.v).at 6 rfl
        have yq7 := (h7.v).at 7 rfl
        have yq8 := (h7.v).at 8 rfl
        refine bodyPost_ret (v := .tuple #[.agg #[.slice kk.A (downTo x.s 2).a.s.length kk.ca, .slice kk.B (downTo x.s 2).a.t.length kk.cb, .int .i64 (downTo x.s 2).a.cap, .bool (downTo x.s 2).a.down, .slice kk.C (downTo x.s 2).b.s.length kk.cc, .slice kk.D (downTo x.s 2).b.t.length kk.cd, .int .i64 (downTo x.s 2).b.cap, .bool (downTo x.s 2).b.down, .int .i64 (downTo x.s 2).n], .int .i64 0]) (by simp [results, Tryz.results66, go_sem, *]) rfl ?_
        exact ⟨downTo x.s 2, 0, kk, Lib.hid HM.out.symm, rfl, h7.slm hMP, h7.ab w hab (by omega)⟩
end Go.Proofs.YthgcfjhnnhigoaaGreat

/- Crash of package journal, walked. Own work. -/
namespace Go.Proofs.YthgcfjhnnhigoaaGreat
open Go.RowKit
open Slots (Sl)

set_option maxRecDepth 100000 in
set_option maxHeartbeats 6400000 in
theorem jcrash_any (a : JA) (x : JX) (w : World) (h : JM w a x) (k keep : Int) (g : Option (List Frame.Rec)) (hi : Wal.Is x.l g) :
    Calls Tryz.prog 26 #[.agg #[.slice a.m.A x.s.a.s.length a.m.ca, .slice a.m.B x.s.a.t.length a.m.cb, .int .i64 x.s.a.cap, .bool x.s.a.down, .slice a.m.C x.s.b.s.length a.m.cc, .slice a.m.D x.s.b.t.length a.m.cd, .int .i64 x.s.b.cap, .bool x.s.b.down, .int .i64 x.s.n, .slice a.A x.l.dev.s.length a.ca, .slice a.B x.l.dev.t.length a.cb, .int .i64 x.l.dev.cap, .bool x.l.dev.down, .int .i64 x.l.first, .int .i64 x.l.next, .int .i64 (cx x.c 0), .int .i64 (cx x.c 1), .int .i64 (cx x.c 2), .int .i64 (cx x.c 3), .int .i64 (cx x.c 4), .int .i64 (cx x.c 5), .int .i64 (cx x.c 6), .int .i64 (cx x.c 7)], .int .i64 k, .int .i64 keep] w (RetJE w (Jour.crashM x k keep g)) := by
  go_enter Tryz.func26, Tryz.ntmps26
  have hbx : VB ((w.alloc (.cells #[.slice a.m.A x.s.a.s.length a.m.ca, .slice a.m.B x.s.a.t.length a.m.cb, .int .i64 x.s.a.cap, .bool x.s.a.down, .slice a.m.C x.s.b.s.length a.m.cc, .slice a.m.D x.s.b.t.length a.m.cd, .int .i64 x.s.b.cap, .bool x.s.b.down, .int .i64 x.s.n, .slice a.A x.l.dev.s.length a.ca, .slice a.B x.l.dev.t.length a.cb, .int .i64 x.l.dev.cap, .bool x.l.dev.down, .int .i64 x.l.first, .int .i64 x.l.next, .int .i64 (cx x.c 0), .int .i64 (cx x.c 1), .int .i64 (cx x.c 2), .int .i64 (cx x.c 3), .int .i64 (cx x.c 4), .int .i64 (cx x.c 5), .int .i64 (cx x.c 6), .int .i64 (cx x.c 7)] 32 (0, 0))).alloc (.cells #[.slice none 0 0, .slice none 0 0, .int .i64 0, .bool false, .slice none 0 0, .slice none 0 0, .int .i64 0, .bool false, .int .i64 0, .slice none 0 0, .slice none 0 0, .int .i64 0, .bool false, .int .i64 0, .int .i64 0, .int .i64 0, .int .i64 0, .int .i64 0, .int .i64 0, .int .i64 0, .int .i64 0, .int .i64 0, .int .i64 0] 32 (0, 0))) w.heap.size [.slice a.m.A x.s.a.s.length a.m.ca, .slice a.m.B x.s.a.t.length a.m.cb, .int .i64 x.s.a.cap, .bool x.s.a.down, .slice a.m.C x.s.b.s.length a.m.cc, .slice a.m.D x.s.b.t.length a.m.cd, .int .i64 x.s.b.cap, .bool x.s.b.down, .int .i64 x.s.n, .slice a.A x.l.dev.s.length a.ca, .slice a.B x.l.dev.t.length a.cb, .int .i64 x.l.dev.cap, .bool x.l.dev.down, .int .i64 x.l.first, .int .i64 x.l.next, .int .i64 (cx x.c 0), .int .i64 (cx x.c 1), .int .i64 (cx x.c 2), .int .i64 (cx x.c 3), .int .i64 (cx x.c 4), .int .i64 (cx x.c 5), .int .i64 (cx x.c 6), .int .i64 (cx x.c 7)] := VB.box (old_alloc (new_plain rfl))
  have hrx : VB ((w.alloc (.cells #[.slice a.m.A x.s.a.s.length a.m.ca, .slice a.m.B x.s.a.t.length a.m.cb, .int .i64 x.s.a.cap, .bool x.s.a.down, .slice a.m.C x.s.b.s.length a.m.cc, .slice a.m.D x.s.b.t.length a.m.cd, .int .i64 x.s.b.cap, .bool x.s.b.down, .int .i64 x.s.n, .slice a.A x.l.dev.s.length a.ca, .slice a.B x.l.dev.t.length a.cb, .int .i64 x.l.dev.cap, .bool x.l.dev.down, .int .i64 x.l.first, .int .i64 x.l.next, .int .i64 (cx x.c 0), .int .i64 (cx x.c 1), .int .i64 (cx x.c 2), .int .i64 (cx x.c 3), .int .i64 (cx x.c 4), .int .i64 (cx x.c 5), .int .i64 (cx x.c 6), .int .i64 (cx x.c 7)] 32 (0, 0))).alloc (.cells #[.slice none 0 0, .slice none 0 0, .int .i64 0, .bool false, .slice none 0 0, .slice none 0 0, .int .i64 0, .bool false, .int .i64 0, .slice none 0 0, .slice none 0 0, .int .i64 0, .bool false, .int .i64 0, .int .i64 0, .int .i64 0, .int .i64 0, .int .i64 0, .int .i64 0, .int .i64 0, .int .i64 0, .int .i64 0, .int .i64 0] 32 (0, 0))) (w.heap.size + 1) [.slice none 0 0, .slice none 0 0, .int .i64 0, .bool false, .slice none 0 0, .slice none 0 0, .int .i64 0, .bool false, .int .i64 0, .slice none 0 0, .slice none 0 0, .int .i64 0, .bool false, .int .i64 0, .int .i64 0, .int .i64 0, .int .i64 0, .int .i64 0, .int .i64 0, .int .i64 0, .int .i64 0, .int .i64 0, .int .i64 0] := VB.box (new_plain (by simp))
  have hrv := hrx.var rfl
  go_wp2_with (refine list_ldJ rfl _ rfl rfl (VB.ab hbx abA) rfl ?_)
  refine (jcheck_any a x _ (h.ab abA) g hi).mono ?_
  rintro e w1 ⟨er, hr, rfl, hb1⟩
  have v1 := hbx.ab hb1
  have v2 := hrv.ab hb1
  have b1 : Ab w w1 := abA
  have z2 := v2.lt
  clear hbx hrv hrx hb1
  by_cases he : er = 0
  · obtain ⟨rs, n, c, rfl, hG⟩ := Jour.good_of_check hi (hr.out.symm.trans he)
    have HG := Lib.hid hG
    have HM := Lib.hid (show Jour.crashM x k keep (some rs) = _ from if_neg (by rw [← hr.out, he]; simp))
    obtain rfl : er = 0 := he
    clear hr hG
    by_cases hk : k < 0 ∨ 5 < k
    · have HX := Lib.hid (HM.out.trans (if_pos hk))
      rcases Int.lt_or_le k 0 with hk0 | hk0
      · have d0 : decide (k < 0) = true := by simpa using hk0
        clear hk hk0
        go_wp2_with (refine list_stJ rfl _ _ rfl rfl rfl (Var.ab v2 abA) rfl rfl ?_; intro w9 h9)
        refine bodyPost_ret (res_J2 Tryz.results26 _ rfl h9.v rfl) rfl ?_
        exact RetJE.zero HX.out.symm (h9.ab w abA (by omega))
      · have d0 : decide (k < 0) = false := by simp; omega
        have d5 : decide (5 < k) = true := by simp; omega
        clear hk hk0
        go_wp2_with (refine list_stJ rfl _ _ rfl rfl rfl (Var.ab v2 abA) rfl rfl ?_; intro w9 h9)
        refine bodyPost_ret (res_J2 Tryz.results26 _ rfl h9.v rfl) rfl ?_
        exact RetJE.zero HX.out.symm (h9.ab w abA (by omega))
    have HX := Lib.hid (HM.out.trans (if_neg hk))
    have d0 : decide (k < 0) = false := by simp; omega
    have d5 : decide (5 < k) = false := by simp; omega
    have k0 : 0 ≤ k := by omega
    have k5 : k ≤ 5 := by omega
    clear hk HM
    go_wp2_with (refine list_ldJ rfl _ rfl rfl (VB.ab v1 abA) rfl ?_)
    refine (jcrs_any a x _ (h.ab abA) HG.out.op k keep k0 k5).mono ?_
    rintro e w3 ⟨r3, er3, k3, hr3, rfl, hM3, hb3⟩
    have v3 := v1.ab hb3
    have v4 := v2.ab hb3
    have b3 := b1.trans hb3
    clear v1 v2 hb3 b1
    by_cases he3 : er3 = 0
    · obtain rfl : er3 = 0 := he3
      have HY := Lib.hid (HX.out.trans (if_neg (by rw [← hr3.out]; simp)))
      by_cases h1 : 1 < k
      · have d1 : decide (1 < k) = true := by simpa using h1
        have HK := Lib.hid (show (if 1 < k then (0 : Int) else keep) = 0 from if_pos h1)
        clear h1 HX
        have z3 := v4.lt
        have A3 := (Ab.refl w3).alloc (.cells #[.slice k3.A r3.a.s.length k3.ca, .slice k3.B r3.a.t.length k3.cb, .int .i64 r3.a.cap, .bool r3.a.down, .slice k3.C r3.b.s.length k3.cc, .slice k3.D r3.b.t.length k3.cd, .int .i64 r3.b.cap, .bool r3.b.down, .int .i64 r3.n] 27 (0, 0))
        have v5 : VB (w3.alloc (.cells #[.slice k3.A r3.a.s.length k3.ca, .slice k3.B r3.a.t.length k3.cb, .int .i64 r3.a.cap, .bool r3.a.down, .slice k3.C r3.b.s.length k3.cc, .slice k3.D r3.b.t.length k3.cd, .int .i64 r3.b.cap, .bool r3.b.down, .int .i64 r3.n] 27 (0, 0))) w3.heap.size [.slice k3.A r3.a.s.length k3.ca, .slice k3.B r3.a.t.length k3.cb, .int .i64 r3.a.cap, .bool r3.a.down, .slice k3.C r3.b.s.length k3.cc, .slice k3.D r3.b.t.length k3.cd, .int .i64 r3.b.cap, .bool r3.b.down, .int .i64 r3.n] := VB.box (new_plain rfl)
        have v3 := v3.ab A3
        have v4 := v4.ab A3
        have hM3 := hM3.ab A3
        have b3 := b3.trans A3
        have xq0 := (v3).at 9 rfl
        have xq1 := (v3).at 10 rfl
        have xq2 := (v3).at 11 rfl
        have xq3 := (v3).at 12 rfl
        have xq4 := (v3).at 13 rfl
        have xq5 := (v3).at 14 rfl
        go_wp2_with fail
        refine (logat_any a.A a.B a.ca a.cb x.l.dev.s x.l.dev.t x.l.dev.cap x.l.dev.down x.l.first x.l.next _ (h.l.p.ab b3) (h.l.q.ab b3) h.l.lp h.l.lq h.l.np h.l.nq rs HG.out.log k).mono ?_
        rintro e w5 ⟨⟨⟨s5, t5, cp5, dn5⟩, f5, n5⟩, D, E, cd, ce, hr5, rfl, hL5, hb5⟩
        dsimp only at hL5
        have z35 := (v5.ab hb5).lt
        obtain ⟨rs5, hg5⟩ := Jour.logAt_good HG.out.log k
        have hg5' : Wal.Good ⟨⟨s5, t5, cp5, dn5⟩, f5, n5⟩ rs5 := by rw [hr5.out]; exact hg5
        have HR5 := Lib.hid hr5.out
        have A5 := (Ab.refl w5).alloc (.cells #[.slice D s5.length cd, .slice E t5.length ce, .int .i64 cp5, .bool dn5, .int .i64 f5, .int .i64 n5] 29 (0, 0))
        have vl : VB (w5.alloc (.cells #[.slice D s5.length cd, .slice E t5.length ce, .int .i64 cp5, .bool dn5, .int .i64 f5, .int .i64 n5] 29 (0, 0))) w5.heap.size [.slice D s5.length cd, .slice E t5.length ce, .int .i64 cp5, .bool dn5, .int .i64 f5, .int .i64 n5] := VB.box (new_plain rfl)
        have v4 := v4.ab (hb5.trans A5)
        have v5 := v5.ab (hb5.trans A5)
        have hM3 := hM3.ab (hb5.trans A5)
        have hL5 := hL5.ab A5
        have b5 := b3.trans (hb5.trans A5)
        clear hr5 hb5 A5 A3 v3 xq0 xq1 xq2 xq3 xq4 xq5
        have yq0 := (vl).at 0 rfl
        have yq1 := (vl).at 1 rfl
        have yq2 := (vl).at 2 rfl
        have yq3 := (vl).at 3 rfl
        have yq4 := (vl).at 4 rfl
        have yq5 := (vl).at 5 rfl
        go_wp2_with fail
        refine (wcrash_any D E cd ce s5 t5 cp5 dn5 f5 n5 _ (hL5.p.ab abA) (hL5.q.ab abA) hL5.lp hL5.lq hL5.np hL5.nq (some rs5) hg5' (0)).mono ?_
        rintro e w6 ⟨⟨s6, t6, cp6, dn6⟩, er6, D6, E6, cd6, ce6, hr6, rfl, oD6, oE6, hb6⟩
        dsimp only at oD6 oE6
        have HR6 := Lib.hid (show (⟨s6, t6, cp6, dn6⟩, er6) = Disk.crash ⟨s5, t5, cp5, dn5⟩ (0) from hr6.out)
        have l6 : s6.length ≤ 1000000 ∧ t6.length ≤ 1000000 := by
          have := Slots.small_crash (d := ⟨s5, t5, cp5, dn5⟩) (0) ⟨hL5.np, hL5.nq⟩
          rw [← HR6.out] at this
          exact this
        have v4 := v4.ab hb6
        have v5 := v5.ab hb6
        have vl := vl.ab hb6
        have hM3 := hM3.ab hb6
        have b6 := b5.trans hb6
        have z5 := v5.lt
        have zl := vl.lt
        clear hr6 hb6 yq0 yq1 yq2 yq3 yq4 yq5
        go_upto_region 13 with (refine list_stO 24 infoD rfl _ _ rfl rfl rfl vl rfl rfl (Nat.le_of_ble_eq_true rfl) rfl rfl ?_; intro w7 h7)
        have v7 : VB w7 w5.heap.size [.slice D6 s6.length cd6, .slice E6 t6.length ce6, .int .i64 cp6, .bool dn6, .int .i64 f5, .int .i64 n5] := h7.v
        have v4 := v4.mid h7.m (by omega)
        have v5 := v5.mid h7.m (by omega)
        have b7 : Ab w w7 := h7.ab w b6 (by omega)
        by_cases he6 : er6 = 0
        · obtain rfl : er6 = 0 := he6
          have xq0 := (v5).at 0 rfl
          have xq1 := (v5).at 1 rfl
          have xq2 := (v5).at 2 rfl
          have xq3 := (v5).at 3 rfl
          have xq4 := (v5).at 4 rfl
          have xq5 := (v5).at 5 rfl
          have xq6 := (v5).at 6 rfl
          have xq7 := (v5).at 7 rfl
          have xq8 := (v5).at 8 rfl
          have yq0 := (v7).at 0 rfl
          have yq1 := (v7).at 1 rfl
          have yq2 := (v7).at 2 rfl
          have yq3 := (v7).at 3 rfl
          have yq4 := (v7).at 4 rfl
          have yq5 := (v7).at 5 rfl
          go_wp2_with (refine list_stJ rfl _ _ rfl rfl rfl (Var.ab v4 abA) rfl rfl ?_; intro w9 h9)
          refine bodyPost_ret (res_J2 Tryz.results26 _ rfl h9.v rfl) rfl ?_
          exact ⟨⟨r3, ⟨⟨s6, t6, cp6, dn6⟩, f5, n5⟩, Jour.zeros⟩, 0, ⟨k3, D6, E6, cd6, ce6⟩, Lib.hid (by rw [HY.out]; exact Jour.crash_end hr3.out HR5.out HR6.out HK.out), rfl, ⟨h9.slm (h7.slm hM3), ⟨h9.rb _ _ _ (h7.rb _ _ _ oD6.rb.zero), h9.rb _ _ _ (h7.rb _ _ _ oE6.rb.zero), oD6.le, oE6.le, l6.1, l6.2⟩, rfl⟩, h9.ab w b7 (by omega)⟩
        · have hne : (er6 != 0) = true := by simpa using he6
          have HE := Lib.hid he6
          clear he6
          go_wp2_with (refine list_stJ rfl _ _ rfl rfl rfl (Var.ab v4 abA) rfl rfl ?_; intro w9 h9)
          refine bodyPost_ret (res_J2 Tryz.results26 _ rfl h9.v rfl) rfl ?_
          exact RetJE.zero (by rw [HY.out]; exact Jour.crash_err HE.out HR5.out HR6.out HK.out) (h9.ab w b7 (by omega))
      · have d1 : decide (1 < k) = false := by simpa using h1
        have HK := Lib.hid (show (if 1 < k then (0 : Int) else keep) = keep from if_neg h1)
        clear h1 HX
        have z3 := v4.lt
        have A3 := (Ab.refl w3).alloc (.cells #[.slice k3.A r3.a.s.length k3.ca, .slice k3.B r3.a.t.length k3.cb, .int .i64 r3.a.cap, .bool r3.a.down, .slice k3.C r3.b.s.length k3.cc, .slice k3.D r3.b.t.length k3.cd, .int .i64 r3.b.cap, .bool r3.b.down, .int .i64 r3.n] 27 (0, 0))
        have v5 : VB (w3.alloc (.cells #[.slice k3.A r3.a.s.length k3.ca, .slice k3.B r3.a.t.length k3.cb, .int .i64 r3.a.cap, .bool r3.a.down, .slice k3.C r3.b.s.length k3.cc, .slice k3.D r3.b.t.length k3.cd, .int .i64 r3.b.cap, .bool r3.b.down, .int .i64 r3.n] 27 (0, 0))) w3.heap.size [.slice k3.A r3.a.s.length k3.ca, .slice k3.B r3.a.t.length k3.cb, .int .i64 r3.a.cap, .bool r3.a.down, .slice k3.C r3.b.s.length k3.cc, .slice k3.D r3.b.t.length k3.cd, .int .i64 r3.b.cap, .bool r3.b.down, .int .i64 r3.n] := VB.box (new_plain rfl)
        have v3 := v3.ab A3
        have v4 := v4.ab A3
        have hM3 := hM3.ab A3
        have b3 := b3.trans A3
        have xq0 := (v3).at 9 rfl
        have xq1 := (v3).at 10 rfl
        have xq2 := (v3).at 11 rfl
        have xq3 := (v3).at 12 rfl
        have xq4 := (v3).at 13 rfl
        have xq5 := (v3).at 14 rfl
        go_wp2_with fail
        refine (logat_any a.A a.B a.ca a.cb x.l.dev.s x.l.dev.t x.l.dev.cap x.l.dev.down x.l.first x.l.next _ (h.l.p.ab b3) (h.l.q.ab b3) h.l.lp h.l.lq h.l.np h.l.nq rs HG.out.log k).mono ?_
        rintro e w5 ⟨⟨⟨s5, t5, cp5, dn5⟩, f5, n5⟩, D, E, cd, ce, hr5, rfl, hL5, hb5⟩
        dsimp only at hL5
        have z35 := (v5.ab hb5).lt
        obtain ⟨rs5, hg5⟩ := Jour.logAt_good HG.out.log k
        have hg5' : Wal.Good ⟨⟨s5, t5, cp5, dn5⟩, f5, n5⟩ rs5 := by rw [hr5.out]; exact hg5
        have HR5 := Lib.hid hr5.out
        have A5 := (Ab.refl w5).alloc (.cells #[.slice D s5.length cd, .slice E t5.length ce, .int .i64 cp5, .bool dn5, .int .i64 f5, .int .i64 n5] 29 (0, 0))
        have vl : VB (w5.alloc (.cells #[.slice D s5.length cd, .slice E t5.length ce, .int .i64 cp5, .bool dn5, .int .i64 f5, .int .i64 n5] 29 (0, 0))) w5.heap.size [.slice D s5.length cd, .slice E t5.length ce, .int .i64 cp5, .bool dn5, .int .i64 f5, .int .i64 n5] := VB.box (new_plain rfl)
        have v4 := v4.ab (hb5.trans A5)
        have v5 := v5.ab (hb5.trans A5)
        have hM3 := hM3.ab (hb5.trans A5)
        have hL5 := hL5.ab A5
        have b5 := b3.trans (hb5.trans A5)
        clear hr5 hb5 A5 A3 v3 xq0 xq1 xq2 xq3 xq4 xq5
        have yq0 := (vl).at 0 rfl
        have yq1 := (vl).at 1 rfl
        have yq2 := (vl).at 2 rfl
        have yq3 := (vl).at 3 rfl
        have yq4 := (vl).at 4 rfl
        have yq5 := (vl).at 5 rfl
        go_wp2_with fail
        refine (wcrash_any D E cd ce s5 t5 cp5 dn5 f5 n5 _ (hL5.p.ab abA) (hL5.q.ab abA) hL5.lp hL5.lq hL5.np hL5.nq (some rs5) hg5' (keep)).mono ?_
        rintro e w6 ⟨⟨s6, t6, cp6, dn6⟩, er6, D6, E6, cd6, ce6, hr6, rfl, oD6, oE6, hb6⟩
        dsimp only at oD6 oE6
        have HR6 := Lib.hid (show (⟨s6, t6, cp6, dn6⟩, er6) = Disk.crash ⟨s5, t5, cp5, dn5⟩ (keep) from hr6.out)
        have l6 : s6.length ≤ 1000000 ∧ t6.length ≤ 1000000 := by
          have := Slots.small_crash (d := ⟨s5, t5, cp5, dn5⟩) (keep) ⟨hL5.np, hL5.nq⟩
          rw [← HR6.out] at this
          exact this
        have v4 := v4.ab hb6
        have v5 := v5.ab hb6
        have vl := vl.ab hb6
        have hM3 := hM3.ab hb6
        have b6 := b5.trans hb6
        have z5 := v5.lt
        have zl := vl.lt
        clear hr6 hb6 yq0 yq1 yq2 yq3 yq4 yq5
        go_upto_region 13 with (refine list_stO 24 infoD rfl _ _ rfl rfl rfl vl rfl rfl (Nat.le_of_ble_eq_true rfl) rfl rfl ?_; intro w7 h7)
        have v7 : VB w7 w5.heap.size [.slice D6 s6.length cd6, .slice E6 t6.length ce6, .int .i64 cp6, .bool dn6, .int .i64 f5, .int .i64 n5] := h7.v
        have v4 := v4.mid h7.m (by omega)
        have v5 := v5.mid h7.m (by omega)
        have b7 : Ab w w7 := h7.ab w b6 (by omega)
        by_cases he6 : er6 = 0
        · obtain rfl : er6 = 0 := he6
          have xq0 := (v5).at 0 rfl
          have xq1 := (v5).at 1 rfl
          have xq2 := (v5).at 2 rfl
          have xq3 := (v5).at 3 rfl
          have xq4 := (v5).at 4 rfl
          have xq5 := (v5).at 5 rfl
          have xq6 := (v5).at 6 rfl
          have xq7 := (v5).at 7 rfl
          have xq8 := (v5).at 8 rfl
          have yq0 := (v7).at 0 rfl
          have yq1 := (v7).at 1 rfl
          have yq2 := (v7).at 2 rfl
          have yq3 := (v7).at 3 rfl
          have yq4 := (v7).at 4 rfl
          have yq5 := (v7).at 5 rfl
          go_wp2_with (refine list_stJ rfl _ _ rfl rfl rfl (Var.ab v4 abA) rfl rfl ?_; intro w9 h9)
          refine bodyPost_ret (res_J2 Tryz.results26 _ rfl h9.v rfl) rfl ?_
          exact ⟨⟨r3, ⟨⟨s6, t6, cp6, dn6⟩, f5, n5⟩, Jour.zeros⟩, 0, ⟨k3, D6, E6, cd6, ce6⟩, Lib.hid (by rw [HY.out]; exact Jour.crash_end hr3.out HR5.out HR6.out HK.out), rfl, ⟨h9.slm (h7.slm hM3), ⟨h9.rb _ _ _ (h7.rb _ _ _ oD6.rb.zero), h9.rb _ _ _ (h7.rb _ _ _ oE6.rb.zero), oD6.le, oE6.le, l6.1, l6.2⟩, rfl⟩, h9.ab w b7 (by omega)⟩
        · have hne : (er6 != 0) = true := by simpa using he6
          have HE := Lib.hid he6
          clear he6
          go_wp2_with (refine list_stJ rfl _ _ rfl rfl rfl (Var.ab v4 abA) rfl rfl ?_; intro w9 h9)
          refine bodyPost_ret (res_J2 Tryz.results26 _ rfl h9.v rfl) rfl ?_
          exact RetJE.zero (by rw [HY.out]; exact Jour.crash_err HE.out HR5.out HR6.out HK.out) (h9.ab w b7 (by omega))
    · have HY := Lib.hid (show Jour.crashM x k keep (some rs) = (JX.zero, er3) by rw [HX.out, ← hr3.out]; exact if_pos he3)
      have hne : (er3 != 0) = true := by simpa using he3
      clear he3 hr3 HX
      go_wp2_with (refine list_stJ rfl _ _ rfl rfl rfl (Var.ab v4 abA) rfl rfl ?_; intro w9 h9)
      refine bodyPost_ret (res_J2 Tryz.results26 _ rfl h9.v rfl) rfl ?_
      exact RetJE.zero HY.out.symm (h9.ab w abA (by omega))
  · have HM := Lib.hid (show Jour.crashM x k keep g = _ from if_pos (by rw [← hr.out]; exact he))
    have HE := Lib.hid hr.out
    have hne : (er != 0) = true := by simpa using he
    clear hr he
    go_wp2_with (refine list_stJ rfl _ _ rfl rfl rfl (Var.ab v2 abA) rfl rfl ?_; intro w9 h9)
    refine bodyPost_ret (res_J2 Tryz.results26 _ rfl h9.v rfl) rfl ?_
    exact RetJE.zero (by rw [HM.out, ← HE.out]) (h9.ab w abA (by omega))
end Go.Proofs.YthgcfjhnnhigoaaGreat

/- Recover of package journal, walked. Own work. -/
namespace Go.Proofs.YthgcfjhnnhigoaaGreat
open Go.RowKit
open Slots (Sl)

theorem Jour.replayM_good {c e : List Int} {n : Int} {l : Wal.Log} {rs : List Frame.Rec} (h1 : l.first ≤ n) (h2 : n ≤ l.next) (h : Jour.replay c n rs = some e) : Jour.replayM c n l (some rs) = (e, 0) := by
  unfold Jour.replayM
  simp only
  rw [if_neg (by omega), h]
set_option maxRecDepth 100000 in
set_option maxHeartbeats 6400000 in
theorem jrecover_good (a : JA) (x : JX) (w : World) (h : JM w a x) {o : Sl} {l : Wal.Log} {e : List Int} {rs rs' : List Frame.Rec} {u : Nat} {n : Int} {c : List Int} (hop : Slots.open_ x.s = (o, 0)) (hsc : Frame.IsScan (x.l.dev.s ++ x.l.dev.t) rs u) (hlo : Wal.open_ x.l.dev n rs u = (l, 0)) (hG : Jour.Good ⟨o, l, e⟩ rs' n c) :
    Calls Tryz.prog 27 #[.agg #[.slice a.m.A x.s.a.s.length a.m.ca, .slice a.m.B x.s.a.t.length a.m.cb, .int .i64 x.s.a.cap, .bool x.s.a.down, .slice a.m.C x.s.b.s.length a.m.cc, .slice a.m.D x.s.b.t.length a.m.cd, .int .i64 x.s.b.cap, .bool x.s.b.down, .int .i64 x.s.n, .slice a.A x.l.dev.s.length a.ca, .slice a.B x.l.dev.t.length a.cb, .int .i64 x.l.dev.cap, .bool x.l.dev.down, .int .i64 x.l.first, .int .i64 x.l.next, .int .i64 (cx x.c 0), .int .i64 (cx x.c 1), .int .i64 (cx x.c 2), .int .i64 (cx x.c 3), .int .i64 (cx x.c 4), .int .i64 (cx x.c 5), .int .i64 (cx x.c 6), .int .i64 (cx x.c 7)]] w (RetJ3 w (⟨o, l, e⟩, l.next, 0)) := by
  have HO := Lib.hid hop
  have HL := Lib.hid hlo
  have HG := Lib.hid hG
  clear hop hlo hG
  go_enter Tryz.func27, Tryz.ntmps27
  have hbx : VB ((w.alloc (.cells #[.slice a.m.A x.s.a.s.length a.m.ca, .slice a.m.B x.s.a.t.length a.m.cb, .int .i64 x.s.a.cap, .bool x.s.a.down, .slice a.m.C x.s.b.s.length a.m.cc, .slice a.m.D x.s.b.t.length a.m.cd, .int .i64 x.s.b.cap, .bool x.s.b.down, .int .i64 x.s.n, .slice a.A x.l.dev.s.length a.ca, .slice a.B x.l.dev.t.length a.cb, .int .i64 x.l.dev.cap, .bool x.l.dev.down, .int .i64 x.l.first, .int .i64 x.l.next, .int .i64 (cx x.c 0), .int .i64 (cx x.c 1), .int .i64 (cx x.c 2), .int .i64 (cx x.c 3), .int .i64 (cx x.c 4), .int .i64 (cx x.c 5), .int .i64 (cx x.c 6), .int .i64 (cx x.c 7)] 32 (0, 0))).alloc (.cells #[.slice none 0 0, .slice none 0 0, .int .i64 0, .bool false, .slice none 0 0, .slice none 0 0, .int .i64 0, .bool false, .int .i64 0, .slice none 0 0, .slice none 0 0, .int .i64 0, .bool false, .int .i64 0, .int .i64 0, .int .i64 0, .int .i64 0, .int .i64 0, .int .i64 0, .int .i64 0, .int .i64 0, .int .i64 0, .int .i64 0] 32 (0, 0))) w.heap.size [.slice a.m.A x.s.a.s.length a.m.ca, .slice a.m.B x.s.a.t.length a.m.cb, .int .i64 x.s.a.cap, .bool x.s.a.down, .slice a.m.C x.s.b.s.length a.m.cc, .slice a.m.D x.s.b.t.length a.m.cd, .int .i64 x.s.b.cap, .bool x.s.b.down, .int .i64 x.s.n, .slice a.A x.l.dev.s.length a.ca, .slice a.B x.l.dev.t.length a.cb, .int .i64 x.l.dev.cap, .bool x.l.dev.down, .int .i64 x.l.first, .int .i64 x.l.next, .int .i64 (cx x.c 0), .int .i64 (cx x.c 1), .int .i64 (cx x.c 2), .int .i64 (cx x.c 3), .int .i64 (cx x.c 4), .int .i64 (cx x.c 5), .int .i64 (cx x.c 6), .int .i64 (cx x.c 7)] := VB.box (old_alloc (new_plain rfl))
  have hrx : VB ((w.alloc (.cells #[.slice a.m.A x.s.a.s.length a.m.ca, .slice a.m.B x.s.a.t.length a.m.cb, .int .i64 x.s.a.cap, .bool x.s.a.down, .slice a.m.C x.s.b.s.length a.m.cc, .slice a.m.D x.s.b.t.length a.m.cd, .int .i64 x.s.b.cap, .bool x.s.b.down, .int .i64 x.s.n, .slice a.A x.l.dev.s.length a.ca, .slice a.B x.l.dev.t.length a.cb, .int .i64 x.l.dev.cap, .bool x.l.dev.down, .int .i64 x.l.first, .int .i64 x.l.next, .int .i64 (cx x.c 0), .int .i64 (cx x.c 1), .int .i64 (cx x.c 2), .int .i64 (cx x.c 3), .int .i64 (cx x.c 4), .int .i64 (cx x.c 5), .int .i64 (cx x.c 6), .int .i64 (cx x.c 7)] 32 (0, 0))).alloc (.cells #[.slice none 0 0, .slice none 0 0, .int .i64 0, .bool false, .slice none 0 0, .slice none 0 0, .int .i64 0, .bool false, .int .i64 0, .slice none 0 0, .slice none 0 0, .int .i64 0, .bool false, .int .i64 0, .int .i64 0, .int .i64 0, .int .i64 0, .int .i64 0, .int .i64 0, .int .i64 0, .int .i64 0, .int .i64 0, .int .i64 0] 32 (0, 0))) (w.heap.size + 1) [.slice none 0 0, .slice none 0 0, .int .i64 0, .bool false, .slice none 0 0, .slice none 0 0, .int .i64 0, .bool false, .int .i64 0, .slice none 0 0, .slice none 0 0, .int .i64 0, .bool false, .int .i64 0, .int .i64 0, .int .i64 0, .int .i64 0, .int .i64 0, .int .i64 0, .int .i64 0, .int .i64 0, .int .i64 0, .int .i64 0] := VB.box (new_plain (by simp))
  have hrv := hrx.var rfl
  have xq0 := (hbx).at 0 rfl
  have xq1 := (hbx).at 1 rfl
  have xq2 := (hbx).at 2 rfl
  have xq3 := (hbx).at 3 rfl
  have xq4 := (hbx).at 4 rfl
  have xq5 := (hbx).at 5 rfl
  have xq6 := (hbx).at 6 rfl
  have xq7 := (hbx).at 7 rfl
  have xq8 := (hbx).at 8 rfl
  go_wp2_with fail
  refine (sopen_any a.m x.s _ (h.s.ab abA)).mono ?_
  rintro e1 w1 ⟨r1, er1, k1, hr1, rfl, hM1, hb1⟩
  obtain ⟨rfl, rfl⟩ := Prod.mk.inj (hr1.out.trans HO.out)
  have A1 := (Ab.refl w1).alloc (.cells #[.slice k1.A r1.a.s.length k1.ca, .slice k1.B r1.a.t.length k1.cb, .int .i64 r1.a.cap, .bool r1.a.down, .slice k1.C r1.b.s.length k1.cc, .slice k1.D r1.b.t.length k1.cd, .int .i64 r1.b.cap, .bool r1.b.down, .int .i64 r1.n] 27 (0, 0))
  have V5 : VB (w1.alloc (.cells #[.slice k1.A r1.a.s.length k1.ca, .slice k1.B r1.a.t.length k1.cb, .int .i64 r1.a.cap, .bool r1.a.down, .slice k1.C r1.b.s.length k1.cc, .slice k1.D r1.b.t.length k1.cd, .int .i64 r1.b.cap, .bool r1.b.down, .int .i64 r1.n] 27 (0, 0))) w1.heap.size [.slice k1.A r1.a.s.length k1.ca, .slice k1.B r1.a.t.length k1.cb, .int .i64 r1.a.cap, .bool r1.a.down, .slice k1.C r1.b.s.length k1.cc, .slice k1.D r1.b.t.length k1.cd, .int .i64 r1.b.cap, .bool r1.b.down, .int .i64 r1.n] := VB.box (new_plain rfl)
  have M5 := hM1.zero.ab A1
  have VJ := hbx.ab (hb1.trans A1)
  have VR := hrv.ab (hb1.trans A1)
  have BW : Ab w (w1.alloc (.cells #[.slice k1.A r1.a.s.length k1.ca, .slice k1.B r1.a.t.length k1.cb, .int .i64 r1.a.cap, .bool r1.a.down, .slice k1.C r1.b.s.length k1.cc, .slice k1.D r1.b.t.length k1.cd, .int .i64 r1.b.cap, .bool r1.b.down, .int .i64 r1.n] 27 (0, 0))) := (show Ab w w1 from abA).trans A1
  have hz1 := (hrv.ab hb1).lt
  clear hbx hrx hrv hr1 hM1 A1 hb1 xq0 xq1 xq2 xq3 xq4 xq5 xq6 xq7 xq8
  have xq0 := (V5).at 0 rfl
  have xq1 := (V5).at 1 rfl
  have xq2 := (V5).at 2 rfl
  have xq3 := (V5).at 3 rfl
  have xq4 := (V5).at 4 rfl
  have xq5 := (V5).at 5 rfl
  have xq6 := (V5).at 6 rfl
  have xq7 := (V5).at 7 rfl
  have xq8 := (V5).at 8 rfl
  go_wp2_with fail
  refine (baseof_any k1 r1 _ M5).mono ?_
  rintro e2 w2 ⟨num, dn2, c2, er2, hr2, rfl, hl2, hb2⟩
  have hb := Jour.baseM_some (Slots.Good.nb HG.out.op.1) HG.out.base
  obtain ⟨hnum, hb'⟩ := Prod.mk.inj (hr2.out.trans hb)
  obtain ⟨rfl, hb''⟩ := Prod.mk.inj hb'
  obtain ⟨rfl, rfl⟩ := Prod.mk.inj hb''
  have HST := Lib.hid (Jour.base_state HG.out.base)
  have A2 := (Ab.refl w2).alloc (.cells #[.int .i64 num, .int .i64 dn2, .int .i64 (cx c2 0), .int .i64 (cx c2 1), .int .i64 (cx c2 2), .int .i64 (cx c2 3), .int .i64 (cx c2 4), .int .i64 (cx c2 5), .int .i64 (cx c2 6), .int .i64 (cx c2 7)] 102 (0, 0))
  have V7 : VB (w2.alloc (.cells #[.int .i64 num, .int .i64 dn2, .int .i64 (cx c2 0), .int .i64 (cx c2 1), .int .i64 (cx c2 2), .int .i64 (cx c2 3), .int .i64 (cx c2 4), .int .i64 (cx c2 5), .int .i64 (cx c2 6), .int .i64 (cx c2 7)] 102 (0, 0))) w2.heap.size [.int .i64 num, .int .i64 dn2, .int .i64 (cx c2 0), .int .i64 (cx c2 1), .int .i64 (cx c2 2), .int .i64 (cx c2 3), .int .i64 (cx c2 4), .int .i64 (cx c2 5), .int .i64 (cx c2 6), .int .i64 (cx c2 7)] := VB.box (new_plain rfl)
  replace V5 := V5.ab (hb2.trans A2)
  replace M5 := M5.ab (hb2.trans A2)
  replace VJ := VJ.ab (hb2.trans A2)
  replace VR := VR.ab (hb2.trans A2)
  replace BW := BW.trans (hb2.trans A2)
  clear hr2 hb hnum hb' hb'' A2 hb2 xq0 xq1 xq2 xq3 xq4 xq5 xq6 xq7 xq8
  have xq0 := (VJ).at 9 rfl
  have xq1 := (VJ).at 10 rfl
  have xq2 := (VJ).at 11 rfl
  have xq3 := (VJ).at 12 rfl
  have xq4 := (VJ).at 13 rfl
  have xq5 := (VJ).at 14 rfl
  have dq := V7.at 1 rfl
  go_wp2_with fail
  refine (wopen_any a.A a.B a.ca a.cb x.l.dev.s x.l.dev.t x.l.dev.cap x.l.dev.down _ (h.l.p.ab BW) (h.l.q.ab BW) h.l.lp h.l.lq h.l.np h.l.nq dn2 rs u hsc).mono ?_
  rintro e3 w3 ⟨⟨⟨s3, t3, cp3, d3⟩, f3, n3⟩, er3, D, E, cd, ce, hr3, rfl, oD, oE, hb3⟩
  dsimp only at oD oE
  obtain ⟨rfl, rfl⟩ := Prod.mk.inj (hr3.out.trans HL.out)
  have l3 : s3.length ≤ 1000000 ∧ t3.length ≤ 1000000 := by
    have := HG.out.log.room
    simp only [Disk.Dev.size] at this
    omega
  have hz3 := (VR.ab hb3).lt
  have A3 := (Ab.refl w3).alloc (.cells #[.slice D s3.length cd, .slice E t3.length ce, .int .i64 cp3, .bool d3, .int .i64 f3, .int .i64 n3] 29 (0, 0))
  have V8 : VB (w3.alloc (.cells #[.slice D s3.length cd, .slice E t3.length ce, .int .i64 cp3, .bool d3, .int .i64 f3, .int .i64 n3] 29 (0, 0))) w3.heap.size [.slice D s3.length cd, .slice E t3.length ce, .int .i64 cp3, .bool d3, .int .i64 f3, .int .i64 n3] := VB.box (new_plain rfl)
  have D8 := oD.rb.zero.ab A3
  have E8 := oE.rb.zero.ab A3
  have lD := oD.le
  have lE := oE.le
  replace V5 := V5.ab (hb3.trans A3)
  replace M5 := M5.ab (hb3.trans A3)
  replace V7 := V7.ab (hb3.trans A3)
  replace VR := VR.ab (hb3.trans A3)
  replace BW := BW.trans (hb3.trans A3)
  clear hr3 A3 hb3 oD oE xq0 xq1 xq2 xq3 xq4 xq5 dq VJ
  have yq0 := (V7).at 0 rfl
  have yq1 := (V7).at 1 rfl
  have yq2 := (V7).at 2 rfl
  have yq3 := (V7).at 3 rfl
  have yq4 := (V7).at 4 rfl
  have yq5 := (V7).at 5 rfl
  have yq6 := (V7).at 6 rfl
  have yq7 := (V7).at 7 rfl
  have yq8 := (V7).at 8 rfl
  have yq9 := (V7).at 9 rfl
  have xq0 := (V8).at 0 rfl
  have xq1 := (V8).at 1 rfl
  have xq2 := (V8).at 2 rfl
  have xq3 := (V8).at 3 rfl
  have xq4 := (V8).at 4 rfl
  have xq5 := (V8).at 5 rfl
  go_wp2_with fail
  refine (replay_any num dn2 c2 hl2 HST.out.2.2.1 D E cd ce s3 t3 cp3 d3 f3 n3 _ (D8.ab abA) (E8.ab abA) lD lE l3.1 l3.2 (some rs') HG.out.log).mono ?_
  rintro e4 w4 ⟨e9, er4, hr4, rfl, hl4, hb4⟩
  obtain ⟨rfl, rfl⟩ := Prod.mk.inj (hr4.out.trans (Jour.replayM_good HG.out.lo HG.out.hi HG.out.rep))
  have hz4 := (VR.ab hb4).lt
  have A4 := (Ab.refl w4).alloc (.cells #[.int .i64 (cx e9 0), .int .i64 (cx e9 1), .int .i64 (cx e9 2), .int .i64 (cx e9 3), .int .i64 (cx e9 4), .int .i64 (cx e9 5), .int .i64 (cx e9 6), .int .i64 (cx e9 7)] 30 (0, 0))
  have V9 : VB (w4.alloc (.cells #[.int .i64 (cx e9 0), .int .i64 (cx e9 1), .int .i64 (cx e9 2), .int .i64 (cx e9 3), .int .i64 (cx e9 4), .int .i64 (cx e9 5), .int .i64 (cx e9 6), .int .i64 (cx e9 7)] 30 (0, 0))) w4.heap.size [.int .i64 (cx e9 0), .int .i64 (cx e9 1), .int .i64 (cx e9 2), .int .i64 (cx e9 3), .int .i64 (cx e9 4), .int .i64 (cx e9 5), .int .i64 (cx e9 6), .int .i64 (cx e9 7)] := VB.box (new_plain rfl)
  replace V5 := V5.ab (hb4.trans A4)
  replace M5 := M5.ab (hb4.trans A4)
  replace V8 := V8.ab (hb4.trans A4)
  replace D8 := D8.ab (hb4.trans A4)
  replace E8 := E8.ab (hb4.trans A4)
  replace VR := VR.ab (hb4.trans A4)
  replace BW := BW.trans (hb4.trans A4)
  clear hr4 A4 hb4 V7 xq0 xq1 xq2 xq3 xq4 xq5 yq0 yq1 yq2 yq3 yq4 yq5 yq6 yq7 yq8 yq9
  go_upto_region 13 with fail
  refine wp_region_held_drew (by kernel_rfl) (S := fun w' => Ab w w' ∧ VB w' w1.heap.size [.slice k1.A r1.a.s.length k1.ca, .slice k1.B r1.a.t.length k1.cb, .int .i64 r1.a.cap, .bool r1.a.down, .slice k1.C r1.b.s.length k1.cc, .slice k1.D r1.b.t.length k1.cd, .int .i64 r1.b.cap, .bool r1.b.down, .int .i64 r1.n] ∧ VB w' w3.heap.size [.slice D s3.length cd, .slice E t3.length ce, .int .i64 cp3, .bool d3, .int .i64 f3, .int .i64 n3] ∧ VB w' w4.heap.size [.int .i64 (cx e9 0), .int .i64 (cx e9 1), .int .i64 (cx e9 2), .int .i64 (cx e9 3), .int .i64 (cx e9 4), .int .i64 (cx e9 5), .int .i64 (cx e9 6), .int .i64 (cx e9 7)] ∧ Var w' (w.heap.size + 1) 23) ?_ (fun hHeld => ?_)
  · exact ⟨abA, V5.ab abA, V8.ab abA, V9.ab abA, VR.ab abA⟩
  (refine rtL 0 [.slice k1.A r1.a.s.length k1.ca, .slice k1.B r1.a.t.length k1.cb, .int .i64 r1.a.cap, .bool r1.a.down, .slice k1.C r1.b.s.length k1.cc, .slice k1.D r1.b.t.length k1.cd, .int .i64 r1.b.cap, .bool r1.b.down, .int .i64 r1.n] 0 (fun w hSw => VB.rangeAt (hSw.2.1) 0 9) Tryz.underlying27 ?_
   (try simp only [Act.put, stA, st0, st1]))
  (refine rtL 1 [.slice D s3.length cd, .slice E t3.length ce, .int .i64 cp3, .bool d3, .int .i64 f3, .int .i64 n3] 0 (fun w hSw => VB.rangeAt (hSw.2.2.1) 0 6) Tryz.underlying29 ?_
   (try simp only [Act.put, stA, st0, st1]))
  (refine rtL 2 [.int .i64 (cx e9 0), .int .i64 (cx e9 1), .int .i64 (cx e9 2), .int .i64 (cx e9 3), .int .i64 (cx e9 4), .int .i64 (cx e9 5), .int .i64 (cx e9 6), .int .i64 (cx e9 7)] 0 (fun w hSw => VB.rangeAt (hSw.2.2.2.1) 0 8) Tryz.underlying30 ?_
   (try simp only [Act.put, stA, st0, st1]))
  (refine rtA 3 ?_ ?_
   (try simp only [Act.put, stA, st0, st1]))
  (refine rtA 4 ?_ ?_
   (try simp only [Act.put, stA, st0, st1]))
  (refine wpAnyH_take (i := 5) (v := ?_) rfl (by kernel_rfl) (by kernel_rfl) (by kernel_rfl) (fun _ _ _ h => h) (Or.inl ⟨by kernel_rfl, ?_⟩) (by assumption) ?_
   rotate_left
   · (intro w hSw; have hq9 := hSw.2.2.1.at 5 rfl; go_simp; (try with_reducible rfl))
   (try simp only [Act.put, stA, st0, st1]))
  refine r1A 6 (fun K hK => ?_)
  have Z1 := VR.lt
  have Z2 : w.heap.size + 1 < w1.heap.size := by have := hz1; omega
  have Z3 : w.heap.size + 1 < w3.heap.size := by have := hz3; omega
  have Z4 : w.heap.size + 1 < w4.heap.size := by have := hz4; omega
  ((try simp only [Act.put, List.getElem_toArray, List.getElem_cons_succ, List.getElem_cons_zero, stA, st0, st1])
   refine if_go (by rfl) ?_
   refine wp_stJ _ _ rfl rfl rfl hHeld.2.2.2.2 rfl rfl ?_
   intro w9 h9
   (refine hK.out _ _ ?_ (fun hHeld => ?_)
    · (try dsimp only); exact ⟨h9.ab w hHeld.1 (by omega), hHeld.2.1.mid h9.m (by omega), hHeld.2.2.1.mid h9.m (by omega), hHeld.2.2.2.1.mid h9.m (by omega), h9.v.var rfl⟩
    clear hK K
    (try simp only [Act.put, stA, st0, st1])))
  refine r1A 7 (fun K hK => ?_)
  (go_simp
   (refine hK.out _ _ ?_ (fun hHeld => ?_)
    · (try dsimp only); exact hHeld
    clear hK K
    (try simp only [Act.put, stA, st0, st1])))
  refine r1A 8 (fun K hK => ?_)
  (go_simp
   (refine hK.out _ _ ?_ (fun hHeld => ?_)
    · (try dsimp only); exact hHeld
    clear hK K
    (try simp only [Act.put, stA, st0, st1])))
  refine wpAnyH_done (by kernel_rfl) ?_ _
  go_wp2
  refine bodyPost_ret (res_J3 Tryz.results27 _ rfl h9.v rfl) rfl ?_
  exact ⟨⟨r1, ⟨⟨s3, t3, cp3, d3⟩, f3, n3⟩, e9⟩, n3, 0, ⟨k1, D, E, cd, ce⟩, Lib.hid rfl, rfl, ⟨h9.slm (M5.ab abA), ⟨h9.rb _ _ _ (D8.ab abA), h9.rb _ _ _ (E8.ab abA), lD, lE, l3.1, l3.2⟩, hl4⟩, h9.ab w abA (by omega)⟩
end Go.Proofs.YthgcfjhnnhigoaaGreat

/- What Do, Sync and Save make of a good journal: plain mathematics. Own work. -/
namespace Go.Proofs.YthgcfjhnnhigoaaGreat
namespace Jour
open Frame (Rec enc)
theorem check_of_good {x : JX} {rs : List Rec} {n : Int} {c : List Int} (h : Good (JXj x) rs n c) : check x (some rs) = 0 := by
  unfold check
  rw [if_neg (by
    rintro (k | k)
    · exact Slots.Good.nb h.op.1 k
    · exact k h.op.2), show base x.s = some (n, c) from h.base]
  simp only
  exact if_pos (replayM_good h.lo h.hi h.rep)
theorem apply_good {c : List Int} {m : Move} (hc : State c) (hv : Valid m) (hs : State (bump c m)) : apply c [m] = (bump c m, 0) := by
  unfold apply
  rw [if_neg (by simpa using hc)]
  show (if ¬ Valid m then _ else if ¬ State (bump c m) then _ else _) = _
  rw [if_neg (by simpa using hv), if_neg (by simpa using hs)]
  rfl
theorem doM_good {sl : Slots.Sl} {s t : List UInt8} {cap f nx : Int} {cs : List Int} {rs : List Rec} {n : Int} {c : List Int} (h : Good ⟨sl, ⟨⟨s, t, cap, false⟩, f, nx⟩, cs⟩ rs n c) {m : Move} (hm : Valid m) (hs : State (bump cs m))
    (hn : nx ≤ 1000000000) (hr : (s.length : Int) + t.length + 21 ≤ cap) :
    doM ⟨sl, ⟨⟨s, t, cap, false⟩, f, nx⟩, cs⟩ m (some rs) = (⟨sl, ⟨⟨s, t ++ enc ⟨nx, written m⟩, cap, false⟩, f, nx + 1⟩, bump cs m⟩, nx, 0) := by
  have h1 := check_of_good (x := ⟨sl, ⟨⟨s, t, cap, false⟩, f, nx⟩, cs⟩) h
  have h2 : apply cs [m] = (bump cs m, 0) := apply_good h.state.1 hm hs
  have h3 : Wal.append ⟨⟨s, t, cap, false⟩, f, nx⟩ (written m) (some rs) = (⟨⟨s, t ++ enc ⟨nx, written m⟩, cap, false⟩, f, nx + 1⟩, nx, 0) := by
    show (if 1000 < (written m).length then (Wal.zero, 0, 4) else if 1000000000 < nx then (Wal.zero, 0, 2) else if cap - Disk.Dev.size ⟨s, t, cap, false⟩ < 12 + (written m).length then (Wal.zero, 0, 18) else (⟨⟨s, t ++ enc ⟨nx, written m⟩, cap, false⟩, f, nx + 1⟩, nx, 0)) = _
    rw [if_neg (by rw [written_length]; omega), if_neg (by omega), if_neg (by rw [written_length]; unfold Disk.Dev.size; simp only; omega)]
  unfold doM
  rw [h1, if_neg (by simp)]
  simp only
  rw [h2, if_neg (by simp), h3, if_neg (by simp)]
theorem syncM_good {sl : Slots.Sl} {s t : List UInt8} {cap f nx : Int} {cs : List Int} {rs : List Rec} {n : Int} {c : List Int} (h : Good ⟨sl, ⟨⟨s, t, cap, false⟩, f, nx⟩, cs⟩ rs n c) :
    syncM ⟨sl, ⟨⟨s, t, cap, false⟩, f, nx⟩, cs⟩ (some rs) = (⟨sl, ⟨⟨s ++ t, [], cap, false⟩, f, nx⟩, cs⟩, 0) := by
  have h1 := check_of_good (x := ⟨sl, ⟨⟨s, t, cap, false⟩, f, nx⟩, cs⟩) h
  unfold syncM
  rw [h1, if_neg (by simp)]
  rfl
theorem saveM_good {sl : Slots.Sl} {s t : List UInt8} {cap f nx : Int} {cs : List Int} {rs : List Rec} {n : Int} {c : List Int} (h : Good ⟨sl, ⟨⟨s, t, cap, false⟩, f, nx⟩, cs⟩ rs n c) (ha : Slots.asked sl (point nx cs) = 0) :
    saveM ⟨sl, ⟨⟨s, t, cap, false⟩, f, nx⟩, cs⟩ (some rs) = (⟨sl.put ⟨enc ⟨sl.n, point nx cs⟩, [], sl.cur.cap, false⟩ sl.oth (sl.n + 1), ⟨⟨[], [], cap, false⟩, nx, nx⟩, cs⟩, 0) := by
  have h1 := check_of_good (x := ⟨sl, ⟨⟨s, t, cap, false⟩, f, nx⟩, cs⟩) h
  have h2 := Slots.save_ok ha
  unfold saveM
  rw [h1, if_neg (by simp)]
  simp only
  rw [h2, if_neg (by simp)]
  rfl
end Jour
end Go.Proofs.YthgcfjhnnhigoaaGreat
