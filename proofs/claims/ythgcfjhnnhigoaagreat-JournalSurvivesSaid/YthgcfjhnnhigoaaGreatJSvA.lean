/- JournalSurvives: what is known on the way. Own work. -/
import Derived.Test.YthgcfjhnnhigoaaGreatJSvM
import Derived.Test.YthgcfjhnnhigoaaGreatOpq
set_option linter.unusedVariables false
set_option linter.unusedSimpArgs false
namespace Go.Proofs.YthgcfjhnnhigoaaGreat
open Go.RowKit

/-- What is known of the frame. -/
def VFrm (w : World) (A : Option Addr) (n0 c0 : Nat) (k keep : Int) (g len cs : Nat) (first safe : Int) (i : Nat) (T : Array Value) : Prop :=
  T.size = 253 ∧ T.getD 1 undef = .slice A n0 c0 ∧ T.getD 2 undef = .int .i64 k ∧ T.getD 3 undef = .int .i64 keep ∧ T.getD 4 undef = .pointer (some ⟨w.heap.size, 0, none⟩) ∧ T.getD 9 undef = .slice (some ⟨g, 0, none⟩) len cs ∧ T.getD 10 undef = .int .i64 first ∧ T.getD 11 undef = .int .i64 safe ∧ T.getD 14 undef = .int .i64 (i : Int)
/-- At the loop's head, when i steps are done. -/
def VSt (x : JX) (w : World) (A : Option Addr) (n0 c0 : Nat) (k keep : Int) (i : Nat) (act : Act) (wr : World) : Prop :=
  ∃ (r : JX) (m : JA) (g cs : Nat) (sts : List (List Int)) (safe : Int) (rs : List Frame.Rec) (n : Int) (c : List Int), act.defers = [] ∧ VFrm w A n0 c0 k keep g sts.length cs x.l.next safe i act.tmps ∧
    VB wr w.heap.size [.slice m.m.A r.s.a.s.length m.m.ca, .slice m.m.B r.s.a.t.length m.m.cb, .int .i64 r.s.a.cap, .bool r.s.a.down, .slice m.m.C r.s.b.s.length m.m.cc, .slice m.m.D r.s.b.t.length m.m.cd, .int .i64 r.s.b.cap, .bool r.s.b.down, .int .i64 r.s.n, .slice m.A r.l.dev.s.length m.ca, .slice m.B r.l.dev.t.length m.cb, .int .i64 r.l.dev.cap, .bool r.l.dev.down, .int .i64 r.l.first, .int .i64 r.l.next, .int .i64 (cx r.c 0), .int .i64 (cx r.c 1), .int .i64 (cx r.c 2), .int .i64 (cx r.c 3), .int .i64 (cx r.c 4), .int .i64 (cx r.c 5), .int .i64 (cx r.c 6), .int .i64 (cx r.c 7)] ∧ JM wr m r ∧ OwnSts (w.heap.size + 1) wr g cs sts ∧ Ab w wr ∧ Hid (Jour.Sv x i sts safe r rs n c)
/-- Ahead of the switch. -/
def VPre (x : JX) (w : World) (A : Option Addr) (n0 c0 : Nat) (k keep : Int) (i : Nat) (act : Act) (wr : World) : Prop :=
  ∃ (r : JX) (m : JA) (g cs : Nat) (sts : List (List Int)) (safe : Int) (rs : List Frame.Rec) (n : Int) (c : List Int) (b15 : Nat), act.defers = [] ∧ VFrm w A n0 c0 k keep g sts.length cs x.l.next safe i act.tmps ∧
    act.tmps.getD 15 undef = .pointer (some ⟨b15, 0, none⟩) ∧ act.tmps.getD 16 undef = .int .i64 0 ∧ VB wr w.heap.size [.slice m.m.A r.s.a.s.length m.m.ca, .slice m.m.B r.s.a.t.length m.m.cb, .int .i64 r.s.a.cap, .bool r.s.a.down, .slice m.m.C r.s.b.s.length m.m.cc, .slice m.m.D r.s.b.t.length m.m.cd, .int .i64 r.s.b.cap, .bool r.s.b.down, .int .i64 r.s.n, .slice m.A r.l.dev.s.length m.ca, .slice m.B r.l.dev.t.length m.cb, .int .i64 r.l.dev.cap, .bool r.l.dev.down, .int .i64 r.l.first, .int .i64 r.l.next, .int .i64 (cx r.c 0), .int .i64 (cx r.c 1), .int .i64 (cx r.c 2), .int .i64 (cx r.c 3), .int .i64 (cx r.c 4), .int .i64 (cx r.c 5), .int .i64 (cx r.c 6), .int .i64 (cx r.c 7)] ∧ VB wr b15 [.slice m.m.A r.s.a.s.length m.m.ca, .slice m.m.B r.s.a.t.length m.m.cb, .int .i64 r.s.a.cap, .bool r.s.a.down, .slice m.m.C r.s.b.s.length m.m.cc, .slice m.m.D r.s.b.t.length m.m.cd, .int .i64 r.s.b.cap, .bool r.s.b.down, .int .i64 r.s.n, .slice m.A r.l.dev.s.length m.ca, .slice m.B r.l.dev.t.length m.cb, .int .i64 r.l.dev.cap, .bool r.l.dev.down, .int .i64 r.l.first, .int .i64 r.l.next, .int .i64 (cx r.c 0), .int .i64 (cx r.c 1), .int .i64 (cx r.c 2), .int .i64 (cx r.c 3), .int .i64 (cx r.c 4), .int .i64 (cx r.c 5), .int .i64 (cx r.c 6), .int .i64 (cx r.c 7)] ∧ w.heap.size < b15 ∧ g < b15 ∧ JM wr m r ∧ OwnSts (w.heap.size + 1) wr g cs sts ∧ Ab w wr ∧ Hid (Jour.Sv x i sts safe r rs n c)
/-- Behind the switch. -/
def VMid (x : JX) (w : World) (A : Option Addr) (n0 c0 : Nat) (k keep : Int) (i : Nat) (act : Act) (wr : World) : Prop :=
  ∃ (r : JX) (m : JA) (g cs : Nat) (sts : List (List Int)) (safe : Int) (rs : List Frame.Rec) (n : Int) (c : List Int) (b15 : Nat), act.defers = [] ∧ VFrm w A n0 c0 k keep g sts.length cs x.l.next safe i act.tmps ∧
    act.tmps.getD 15 undef = .pointer (some ⟨b15, 0, none⟩) ∧ act.tmps.getD 16 undef = .int .i64 0 ∧ Var wr w.heap.size 23 ∧ VB wr b15 [.slice m.m.A r.s.a.s.length m.m.ca, .slice m.m.B r.s.a.t.length m.m.cb, .int .i64 r.s.a.cap, .bool r.s.a.down, .slice m.m.C r.s.b.s.length m.m.cc, .slice m.m.D r.s.b.t.length m.m.cd, .int .i64 r.s.b.cap, .bool r.s.b.down, .int .i64 r.s.n, .slice m.A r.l.dev.s.length m.ca, .slice m.B r.l.dev.t.length m.cb, .int .i64 r.l.dev.cap, .bool r.l.dev.down, .int .i64 r.l.first, .int .i64 r.l.next, .int .i64 (cx r.c 0), .int .i64 (cx r.c 1), .int .i64 (cx r.c 2), .int .i64 (cx r.c 3), .int .i64 (cx r.c 4), .int .i64 (cx r.c 5), .int .i64 (cx r.c 6), .int .i64 (cx r.c 7)] ∧ w.heap.size < b15 ∧ JM wr m r ∧ OwnSts (w.heap.size + 1) wr g cs sts ∧ Ab w wr ∧ Hid (Jour.Sv x (i + 1) sts safe r rs n c)
noncomputable def svBody : Code := ((Tryz.f4.body.bind loopIn).getD .skip)
noncomputable def svSwitch : Code := ((Tryz.f4.body.bind (findB 2)).getD .skip)
noncomputable def svDo : Code := thnC (sndC (elsC (sndC (elsC (sndC svSwitch)))))
noncomputable def svTail : Code := ((Tryz.f4.body.bind (tailR 29)).getD .skip)
set_option maxRecDepth 1000000 in
theorem lit_253 (g : Nat → Value) : (List.range 253).map g = g 0 :: g 1 :: g 2 :: g 3 :: g 4 :: g 5 :: g 6 :: g 7 :: g 8 :: g 9 :: g 10 :: g 11 :: g 12 :: g 13 :: g 14 :: g 15 :: g 16 :: g 17 :: g 18 :: g 19 :: g 20 :: g 21 :: g 22 :: g 23 :: g 24 :: g 25 :: g 26 :: g 27 :: g 28 :: g 29 :: g 30 :: g 31 :: g 32 :: g 33 :: g 34 :: g 35 :: g 36 :: g 37 :: g 38 :: g 39 :: g 40 :: g 41 :: g 42 :: g 43 :: g 44 :: g 45 :: g 46 :: g 47 :: g 48 :: g 49 :: g 50 :: g 51 :: g 52 :: g 53 :: g 54 :: g 55 :: g 56 :: g 57 :: g 58 :: g 59 :: g 60 :: g 61 :: g 62 :: g 63 :: g 64 :: g 65 :: g 66 :: g 67 :: g 68 :: g 69 :: g 70 :: g 71 :: g 72 :: g 73 :: g 74 :: g 75 :: g 76 :: g 77 :: g 78 :: g 79 :: g 80 :: g 81 :: g 82 :: g 83 :: g 84 :: g 85 :: g 86 :: g 87 :: g 88 :: g 89 :: g 90 :: g 91 :: g 92 :: g 93 :: g 94 :: g 95 :: g 96 :: g 97 :: g 98 :: g 99 :: g 100 :: g 101 :: g 102 :: g 103 :: g 104 :: g 105 :: g 106 :: g 107 :: g 108 :: g 109 :: g 110 :: g 111 :: g 112 :: g 113 :: g 114 :: g 115 :: g 116 :: g 117 :: g 118 :: g 119 :: g 120 :: g 121 :: g 122 :: g 123 :: g 124 :: g 125 :: g 126 :: g 127 :: g 128 :: g 129 :: g 130 :: g 131 :: g 132 :: g 133 :: g 134 :: g 135 :: g 136 :: g 137 :: g 138 :: g 139 :: g 140 :: g 141 :: g 142 :: g 143 :: g 144 :: g 145 :: g 146 :: g 147 :: g 148 :: g 149 :: g 150 :: g 151 :: g 152 :: g 153 :: g 154 :: g 155 :: g 156 :: g 157 :: g 158 :: g 159 :: g 160 :: g 161 :: g 162 :: g 163 :: g 164 :: g 165 :: g 166 :: g 167 :: g 168 :: g 169 :: g 170 :: g 171 :: g 172 :: g 173 :: g 174 :: g 175 :: g 176 :: g 177 :: g 178 :: g 179 :: g 180 :: g 181 :: g 182 :: g 183 :: g 184 :: g 185 :: g 186 :: g 187 :: g 188 :: g 189 :: g 190 :: g 191 :: g 192 :: g 193 :: g 194 :: g 195 :: g 196 :: g 197 :: g 198 :: g 199 :: g 200 :: g 201 :: g 202 :: g 203 :: g 204 :: g 205 :: g 206 :: g 207 :: g 208 :: g 209 :: g 210 :: g 211 :: g 212 :: g 213 :: g 214 :: g 215 :: g 216 :: g 217 :: g 218 :: g 219 :: g 220 :: g 221 :: g 222 :: g 223 :: g 224 :: g 225 :: g 226 :: g 227 :: g 228 :: g 229 :: g 230 :: g 231 :: g 232 :: g 233 :: g 234 :: g 235 :: g 236 :: g 237 :: g 238 :: g 239 :: g 240 :: g 241 :: g 242 :: g 243 :: g 244 :: g 245 :: g 246 :: g 247 :: g 248 :: g 249 :: g 250 :: g 251 :: g 252 :: [] := rfl
theorem OwnSts.keep {lo : Nat} {w w' : World} {g cap : Nat} {sts : List (List Int)} (h : OwnSts lo w g cap sts) (hg : w'.heap[g]? = w.heap[g]?) : OwnSts lo w' g cap sts := by
  refine ⟨h.1, ?_⟩
  rcases h.2 with hh | ⟨q, cp, cur, hv, hb, hq, hr⟩
  · exact .inl hh
  · have e : g = q := by injection hv with h1 h2 h3; injection h1 with h1; injection h1
    subst e
    exact .inr ⟨g, cp, cur, hv, hb, hg.trans hq, hr⟩
theorem OwnSts.stored {lo : Nat} {w w' : World} {g cap b : Nat} {sts : List (List Int)} {us : List Value} (h : OwnSts lo w g cap sts) (k : Stored w b us w') (hb : g ≠ b) : OwnSts lo w' g cap sts :=
  h.keep (k.m.block g h.rng.2 (by omega))
theorem VB.grown {w w' : World} {b : Nat} {vs : List Value} {row : Option Nat} (h : VB w b vs) (k : w.grownBy w' row) (hb : row ≠ some b) : VB w' b vs := by
  have hk := k.block b h.lt (Ne.symm hb)
  refine ⟨Nat.lt_of_lt_of_le h.lt k.size, fun i v hv => (World.cell?_of_block hk).trans (h.q i v hv), fun i => ?_⟩
  exact (frozen_of_block (p := ⟨b, i, none⟩) hk).trans (h.g i)
theorem RB.grown {w w' : World} {lo : Nat} {A : Option Addr} {l : List UInt8} {g : Nat} (h : RB w lo A l) (k : w.grownBy w' (some g)) (hb : g < lo) : RB w' lo A l := fun hl => by
  obtain ⟨a, ha, h1, h2⟩ := h hl
  refine ⟨a, ha, h1, fun i hi => ?_⟩
  have hc := h2 i hi
  exact (World.cell?_of_block (k.block _ (cell_lt hc) (by rw [addr_add_block]; intro e; injection e with e; omega))).trans hc
theorem JFar.grown {w w' : World} {lo g : Nat} {a : JA} {x : JX} (h : JM w a x) (f : JFar w lo a x) (k : w.grownBy w' (some g)) (hb : g < lo) : JM w' a x :=
  ⟨⟨(f.a.grown k hb).zero, (f.b.grown k hb).zero, (f.c.grown k hb).zero, (f.d.grown k hb).zero, h.s.la, h.s.lb, h.s.lc, h.s.ld, h.s.sa, h.s.sb, h.s.sc, h.s.sd⟩, ⟨(f.p.grown k hb).zero, (f.q.grown k hb).zero, h.l.lp, h.l.lq, h.l.np, h.l.nq⟩, h.hc⟩
theorem JFar.ab {w w' : World} {lo : Nat} {a : JA} {x : JX} (f : JFar w lo a x) (k : Ab w w') : JFar w' lo a x := ⟨f.a.ab k, f.b.ab k, f.c.ab k, f.d.ab k, f.p.ab k, f.q.ab k⟩
theorem JFar.stored {w w' : World} {lo b : Nat} {us : List Value} {a : JA} {x : JX} (f : JFar w lo a x) (k : Stored w b us w') : JFar w' lo a x := ⟨k.rb _ _ _ f.a, k.rb _ _ _ f.b, k.rb _ _ _ f.c, k.rb _ _ _ f.d, k.rb _ _ _ f.p, k.rb _ _ _ f.q⟩

set_option maxRecDepth 100000 in
set_option maxHeartbeats 6400000 in
theorem jsafely_any (a : JA) (x : JX) (w : World) (h : JM w a x) {rs : List Frame.Rec} {n : Int} {c : List Int} (hG : Jour.GoodX x rs n c) (hn : x.l.next ≤ 1000000000) (ha : Slots.asked x.s (Jour.point x.l.next x.c) = 0) :
    Calls Tryz.prog 24 #[.agg #[.slice a.m.A x.s.a.s.length a.m.ca, .slice a.m.B x.s.a.t.length a.m.cb, .int .i64 x.s.a.cap, .bool x.s.a.down, .slice a.m.C x.s.b.s.length a.m.cc, .slice a.m.D x.s.b.t.length a.m.cd, .int .i64 x.s.b.cap, .bool x.s.b.down, .int .i64 x.s.n, .slice a.A x.l.dev.s.length a.ca, .slice a.B x.l.dev.t.length a.cb, .int .i64 x.l.dev.cap, .bool x.l.dev.down, .int .i64 x.l.first, .int .i64 x.l.next, .int .i64 (cx x.c 0), .int .i64 (cx x.c 1), .int .i64 (cx x.c 2), .int .i64 (cx x.c 3), .int .i64 (cx x.c 4), .int .i64 (cx x.c 5), .int .i64 (cx x.c 6), .int .i64 (cx x.c 7)]] w fun e w' => e = .returned (.tuple #[.int .i64 (Jour.sure x.l.first n rs x.l.dev.s.length), .int .i64 0]) ∧ Ab w w' := by
  have HG := Lib.hid hG
  have HA := Lib.hid ha
  have HN := Lib.hid hn
  clear hG ha hn
  go_enter Tryz.func24, Tryz.ntmps24
  have V0 : VB (w.alloc (.cells #[.slice a.m.A x.s.a.s.length a.m.ca, .slice a.m.B x.s.a.t.length a.m.cb, .int .i64 x.s.a.cap, .bool x.s.a.down, .slice a.m.C x.s.b.s.length a.m.cc, .slice a.m.D x.s.b.t.length a.m.cd, .int .i64 x.s.b.cap, .bool x.s.b.down, .int .i64 x.s.n, .slice a.A x.l.dev.s.length a.ca, .slice a.B x.l.dev.t.length a.cb, .int .i64 x.l.dev.cap, .bool x.l.dev.down, .int .i64 x.l.first, .int .i64 x.l.next, .int .i64 (cx x.c 0), .int .i64 (cx x.c 1), .int .i64 (cx x.c 2), .int .i64 (cx x.c 3), .int .i64 (cx x.c 4), .int .i64 (cx x.c 5), .int .i64 (cx x.c 6), .int .i64 (cx x.c 7)] 32 (0, 0))) w.heap.size [.slice a.m.A x.s.a.s.length a.m.ca, .slice a.m.B x.s.a.t.length a.m.cb, .int .i64 x.s.a.cap, .bool x.s.a.down, .slice a.m.C x.s.b.s.length a.m.cc, .slice a.m.D x.s.b.t.length a.m.cd, .int .i64 x.s.b.cap, .bool x.s.b.down, .int .i64 x.s.n, .slice a.A x.l.dev.s.length a.ca, .slice a.B x.l.dev.t.length a.cb, .int .i64 x.l.dev.cap, .bool x.l.dev.down, .int .i64 x.l.first, .int .i64 x.l.next, .int .i64 (cx x.c 0), .int .i64 (cx x.c 1), .int .i64 (cx x.c 2), .int .i64 (cx x.c 3), .int .i64 (cx x.c 4), .int .i64 (cx x.c 5), .int .i64 (cx x.c 6), .int .i64 (cx x.c 7)] := VB.box (new_plain rfl)
  have BW : Ab w (w.alloc (.cells #[.slice a.m.A x.s.a.s.length a.m.ca, .slice a.m.B x.s.a.t.length a.m.cb, .int .i64 x.s.a.cap, .bool x.s.a.down, .slice a.m.C x.s.b.s.length a.m.cc, .slice a.m.D x.s.b.t.length a.m.cd, .int .i64 x.s.b.cap, .bool x.s.b.down, .int .i64 x.s.n, .slice a.A x.l.dev.s.length a.ca, .slice a.B x.l.dev.t.length a.cb, .int .i64 x.l.dev.cap, .bool x.l.dev.down, .int .i64 x.l.first, .int .i64 x.l.next, .int .i64 (cx x.c 0), .int .i64 (cx x.c 1), .int .i64 (cx x.c 2), .int .i64 (cx x.c 3), .int .i64 (cx x.c 4), .int .i64 (cx x.c 5), .int .i64 (cx x.c 6), .int .i64 (cx x.c 7)] 32 (0, 0))) := abA
  go_wp2_with (first | (refine list_ldJ rfl _ rfl rfl V0 rfl ?_))
  refine (jcrash_any a x _ (h.ab abA) 0 0 (some rs) HG.out.is).mono ?_
  rintro e w1 ⟨r1, e1, m1, hr1, rfl, J1, hb1⟩
  obtain ⟨rfl, o, l, e, rs0, rs', u, m, c', hB, hl⟩ := Jour.sure_of HG.out HN.out HA.out hr1.out
  have HB := Lib.hid hB
  have HL := Lib.hid hl
  replace BW := BW.trans hb1
  clear hr1 hB hl V0
  go_wp2_with (first
    | (refine list_stJ rfl _ _ rfl rfl rfl (VB.var (vs := [.slice none 0 0, .slice none 0 0, .int .i64 0, .bool false, .slice none 0 0, .slice none 0 0, .int .i64 0, .bool false, .int .i64 0, .slice none 0 0, .slice none 0 0, .int .i64 0, .bool false, .int .i64 0, .int .i64 0, .int .i64 0, .int .i64 0, .int .i64 0, .int .i64 0, .int .i64 0, .int .i64 0, .int .i64 0, .int .i64 0]) (VB.box (new_plain rfl)) rfl) rfl rfl ?_
       intro w2 h2
       have b2 := h2.ab w1 ((Ab.refl w1).alloc _) (Nat.le_refl _)
       replace BW := BW.trans b2
       have V1 := h2.v
       replace J1 := JM.stored (JM.ab J1 ((Ab.refl w1).alloc _)) h2
       clear h2 b2 hb1)
    | (refine list_ldJ rfl _ rfl rfl V1 rfl ?_))
  refine (jrecover_good m1 r1 _ J1 HB.out.op HB.out.scan HB.out.lop HB.out.good).mono ?_
  rintro e w3 ⟨r3, n3, e3, m3, hr3, rfl, J3, hb3⟩
  obtain ⟨h31, h32⟩ := Prod.mk.inj hr3.out
  obtain ⟨h33, rfl⟩ := Prod.mk.inj h32
  obtain rfl : n3 = _ := h33.trans HL.out
  clear hr3 h31 h32
  replace BW := BW.trans hb3
  go_wp2_with (first
    | (refine list_stJ rfl _ _ rfl rfl rfl (VB.var (vs := [.slice none 0 0, .slice none 0 0, .int .i64 0, .bool false, .slice none 0 0, .slice none 0 0, .int .i64 0, .bool false, .int .i64 0, .slice none 0 0, .slice none 0 0, .int .i64 0, .bool false, .int .i64 0, .int .i64 0, .int .i64 0, .int .i64 0, .int .i64 0, .int .i64 0, .int .i64 0, .int .i64 0, .int .i64 0, .int .i64 0]) (VB.box (new_plain rfl)) rfl) rfl rfl ?_
       intro w4 h4
       replace BW := BW.trans (h4.ab w3 ((Ab.refl w3).alloc _) (Nat.le_refl _))
       clear h4))
  refine bodyPost_ret (v := .tuple #[.int .i64 (Jour.sure x.l.first n rs x.l.dev.s.length), .int .i64 0]) (by simp [results, Tryz.results24, go_sem, *]) rfl ?_
  exact ⟨rfl, BW⟩
end Go.Proofs.YthgcfjhnnhigoaaGreat
