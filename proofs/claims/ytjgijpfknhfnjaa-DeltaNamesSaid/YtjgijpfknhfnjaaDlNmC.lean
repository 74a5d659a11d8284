/- DeltaNames: regions 27 to 34. Written by gendl_ng.py. A frame of 370 slots as letters; the code from a region on. Own work. -/
import Derived.Test.YtjgijpfknhfnjaaDlNmA
import Derived.Deep.Cut
set_option linter.unusedVariables false
set_option linter.unusedSimpArgs false
namespace Go.Proofs.Ytjgijpfknhfnjaa
open Go.RowKit
theorem dq_lit (n : Nat) (T : Array Value) (hs : T.size = n) : ∃ g : Nat → Value, (∀ i, g i = T.getD i undef) ∧ T = ((List.range n).map g).toArray := by
  refine ⟨fun i => T.getD i undef, fun _ => rfl, ?_⟩
  apply Array.ext
  · simp [hs]
  · intro i h1 h2
    simp [Array.getD, h1]
set_option maxRecDepth 1000000 in
theorem lit_370 (g : Nat → Value) : (List.range 370).map g = g 0 :: g 1 :: g 2 :: g 3 :: g 4 :: g 5 :: g 6 :: g 7 :: g 8 :: g 9 :: g 10 :: g 11 :: g 12 :: g 13 :: g 14 :: g 15 :: g 16 :: g 17 :: g 18 :: g 19 :: g 20 :: g 21 :: g 22 :: g 23 :: g 24 :: g 25 :: g 26 :: g 27 :: g 28 :: g 29 :: g 30 :: g 31 :: g 32 :: g 33 :: g 34 :: g 35 :: g 36 :: g 37 :: g 38 :: g 39 :: g 40 :: g 41 :: g 42 :: g 43 :: g 44 :: g 45 :: g 46 :: g 47 :: g 48 :: g 49 :: g 50 :: g 51 :: g 52 :: g 53 :: g 54 :: g 55 :: g 56 :: g 57 :: g 58 :: g 59 :: g 60 :: g 61 :: g 62 :: g 63 :: g 64 :: g 65 :: g 66 :: g 67 :: g 68 :: g 69 :: g 70 :: g 71 :: g 72 :: g 73 :: g 74 :: g 75 :: g 76 :: g 77 :: g 78 :: g 79 :: g 80 :: g 81 :: g 82 :: g 83 :: g 84 :: g 85 :: g 86 :: g 87 :: g 88 :: g 89 :: g 90 :: g 91 :: g 92 :: g 93 :: g 94 :: g 95 :: g 96 :: g 97 :: g 98 :: g 99 :: g 100 :: g 101 :: g 102 :: g 103 :: g 104 :: g 105 :: g 106 :: g 107 :: g 108 :: g 109 :: g 110 :: g 111 :: g 112 :: g 113 :: g 114 :: g 115 :: g 116 :: g 117 :: g 118 :: g 119 :: g 120 :: g 121 :: g 122 :: g 123 :: g 124 :: g 125 :: g 126 :: g 127 :: g 128 :: g 129 :: g 130 :: g 131 :: g 132 :: g 133 :: g 134 :: g 135 :: g 136 :: g 137 :: g 138 :: g 139 :: g 140 :: g 141 :: g 142 :: g 143 :: g 144 :: g 145 :: g 146 :: g 147 :: g 148 :: g 149 :: g 150 :: g 151 :: g 152 :: g 153 :: g 154 :: g 155 :: g 156 :: g 157 :: g 158 :: g 159 :: g 160 :: g 161 :: g 162 :: g 163 :: g 164 :: g 165 :: g 166 :: g 167 :: g 168 :: g 169 :: g 170 :: g 171 :: g 172 :: g 173 :: g 174 :: g 175 :: g 176 :: g 177 :: g 178 :: g 179 :: g 180 :: g 181 :: g 182 :: g 183 :: g 184 :: g 185 :: g 186 :: g 187 :: g 188 :: g 189 :: g 190 :: g 191 :: g 192 :: g 193 :: g 194 :: g 195 :: g 196 :: g 197 :: g 198 :: g 199 :: g 200 :: g 201 :: g 202 :: g 203 :: g 204 :: g 205 :: g 206 :: g 207 :: g 208 :: g 209 :: g 210 :: g 211 :: g 212 :: g 213 :: g 214 :: g 215 :: g 216 :: g 217 :: g 218 :: g 219 :: g 220 :: g 221 :: g 222 :: g 223 :: g 224 :: g 225 :: g 226 :: g 227 :: g 228 :: g 229 :: g 230 :: g 231 :: g 232 :: g 233 :: g 234 :: g 235 :: g 236 :: g 237 :: g 238 :: g 239 :: g 240 :: g 241 :: g 242 :: g 243 :: g 244 :: g 245 :: g 246 :: g 247 :: g 248 :: g 249 :: g 250 :: g 251 :: g 252 :: g 253 :: g 254 :: g 255 :: g 256 :: g 257 :: g 258 :: g 259 :: g 260 :: g 261 :: g 262 :: g 263 :: g 264 :: g 265 :: g 266 :: g 267 :: g 268 :: g 269 :: g 270 :: g 271 :: g 272 :: g 273 :: g 274 :: g 275 :: g 276 :: g 277 :: g 278 :: g 279 :: g 280 :: g 281 :: g 282 :: g 283 :: g 284 :: g 285 :: g 286 :: g 287 :: g 288 :: g 289 :: g 290 :: g 291 :: g 292 :: g 293 :: g 294 :: g 295 :: g 296 :: g 297 :: g 298 :: g 299 :: g 300 :: g 301 :: g 302 :: g 303 :: g 304 :: g 305 :: g 306 :: g 307 :: g 308 :: g 309 :: g 310 :: g 311 :: g 312 :: g 313 :: g 314 :: g 315 :: g 316 :: g 317 :: g 318 :: g 319 :: g 320 :: g 321 :: g 322 :: g 323 :: g 324 :: g 325 :: g 326 :: g 327 :: g 328 :: g 329 :: g 330 :: g 331 :: g 332 :: g 333 :: g 334 :: g 335 :: g 336 :: g 337 :: g 338 :: g 339 :: g 340 :: g 341 :: g 342 :: g 343 :: g 344 :: g 345 :: g 346 :: g 347 :: g 348 :: g 349 :: g 350 :: g 351 :: g 352 :: g 353 :: g 354 :: g 355 :: g 356 :: g 357 :: g 358 :: g 359 :: g 360 :: g 361 :: g 362 :: g 363 :: g 364 :: g 365 :: g 366 :: g 367 :: g 368 :: g 369 :: [] := rfl
/-- The code from the region of a number on. -/
def tailQ (n : Nat) : Code → Option Code
  | .seq a b => match a with
    | .region id ops d => if id = n then some (.seq (.region id ops d) b) else tailQ n b
    | a => match tailQ n a with
      | some c => some c
      | none => tailQ n b
  | .loop c => tailQ n c
  | .block _ c => tailQ n c
  | .scope c => tailQ n c
  | .cond _ a b => match tailQ n a with
    | some c => some c
    | none => tailQ n b
  | .region id ops d => if id = n then some (.region id ops d) else none
  | _ => none
noncomputable def dtail27 : Code := ((Try.f3.body.bind (tailQ 27)).getD .skip)
noncomputable def dtail25 : Code := ((Try.f3.body.bind (tailQ 25)).getD .skip)
/-- Behind region 26. -/
def DSt27 (W : World) (act : Act) (wx : World) : Prop :=
  act.defers = [] ∧ act.tmps.size = 370 ∧ act.tmps.getD 11 undef = .bool true ∧ act.tmps.getD 32 undef = .bool true ∧ act.tmps.getD 34 undef = .int .i64 4 ∧ act.tmps.getD 36 undef = .int .i64 4 ∧ act.tmps.getD 38 undef = .int .i64 0 ∧
  ∃ (AO : Option Addr) (qo : Nat), act.tmps.getD 37 undef = .slice AO 11 qo ∧ RB wx 0 AO [3, 2, 3, 2, 1, 2, 1, 4, 2, 1, 122] ∧ Ab W wx
/-- Behind region 12. -/
def DSt13 (W : World) (act : Act) (wx : World) : Prop :=
  act.defers = [] ∧ act.tmps.size = 370 ∧ act.tmps.getD 11 undef = .bool true ∧ ∃ pg : Nat, act.tmps.getD 10 undef = .slice (some ⟨pg, 0, none⟩) 1 1 ∧ Pts wx (some ⟨pg, 0, none⟩) 1 [⟨2, 3, none, [], 0⟩] ∧ Ab W wx
noncomputable def dtail13 : Code := ((Try.f3.body.bind (tailQ 13)).getD .skip)
/-- Behind region 24. -/
def DSt25 (W : World) (act : Act) (wx : World) : Prop :=
  act.defers = [] ∧ act.tmps.size = 370 ∧ act.tmps.getD 11 undef = .bool true ∧ act.tmps.getD 32 undef = .bool true ∧ act.tmps.getD 34 undef = .int .i64 4 ∧ Ab W wx

set_option maxRecDepth 1000000 in
set_option maxHeartbeats 32000000 in
theorem dpart27 (W w0 : World) (hM : MaxL W) (HA0 : Ab W w0) (T : Array Value) (hsT : T.size = 370) (AO : Option Addr) (qo : Nat) (RCo : RB w0 0 AO [3, 2, 3, 2, 1, 2, 1, 4, 2, 1, 122])
    (f11 : T.getD 11 undef = .bool true) (f32 : T.getD 32 undef = .bool true) (f34 : T.getD 34 undef = .int .i64 4) (f36 : T.getD 36 undef = .int .i64 4) (f37 : T.getD 37 undef = .slice AO 11 qo) (f38 : T.getD 38 undef = .int .i64 0) :
    Code.wp Try.prog dtail27 (bodyPost Try.prog Try.f3 (RetTrue W)) ⟨T, []⟩ w0 := by
  have HM := Lib.hid hM
  have BP := Lib.hid HA0
  clear hM HA0
  have cye : Ab w0 w0 := Ab.refl w0
  obtain ⟨g, hg, hT⟩ := dq_lit 370 T hsT
  rw [lit_370] at hT
  have e11 := (hg 11).trans f11
  have e32 := (hg 32).trans f32
  have e34 := (hg 34).trans f34
  have e36 := (hg 36).trans f36
  have e37 := (hg 37).trans f37
  have e38 := (hg 38).trans f38
  clear hg hsT f11 f32 f34 f36 f37 f38
  subst hT
  rw [e11, e32, e34, e36, e37, e38]
  clear e11 e32 e34 e36 e37 e38
  conv => arg 2; whnf
  go_wp2_with fail
  refine (decode_n _ 8 [3, 1, 3, 2, 1, 2, 1, 0] rfl (by omega) _ (lit_at [3, 1, 3, 2, 1, 2, 1, 0] (cs := #[.int .u8 3, .int .u8 1, .int .u8 3, .int .u8 2, .int .u8 1, .int .u8 2, .int .u8 1, .int .u8 0]) (fr := (0, 0)) (by (repeat (first | exact new_plain wnA | with_reducible refine old_alloc ?_ | with_reducible refine old_drew ?_ | with_reducible refine old_set ?_ wnA | with_reducible refine old_ab (by assumption) ?_))) rfl) 0 12 Dl.dec_a rfl).mono ?_
  rintro e yf ⟨Q0, r0, rfl, hb⟩
  have dd : Ab w0 yf := Ab.trans (by exact abA) hb
  have cyf := cye.trans dd
  have RCo := RCo.ab dd
  clear hb cye
  clear dd
  go_wp2_with fail
  refine (decode_n _ 4 [3, 1, 2, 0] rfl (by omega) _ (lit_at [3, 1, 2, 0] (cs := #[.int .u8 3, .int .u8 1, .int .u8 2, .int .u8 0]) (fr := (0, 0)) (by (repeat (first | exact new_plain wnA | with_reducible refine old_alloc ?_ | with_reducible refine old_drew ?_ | with_reducible refine old_set ?_ wnA | with_reducible refine old_ab (by assumption) ?_))) rfl) 0 12 Dl.dec_b rfl).mono ?_
  rintro e yg ⟨Q1, r1, rfl, hb⟩
  have dd : Ab yf yg := Ab.trans (by exact abA) hb
  have cyg := cyf.trans dd
  have RCo := RCo.ab dd
  clear hb cyf
  clear dd
  go_wp2_with fail
  refine (decode_n _ 8 [3, 1, 3, 2, 1, 1, 1, 2] rfl (by omega) _ (lit_at [3, 1, 3, 2, 1, 1, 1, 2] (cs := #[.int .u8 3, .int .u8 1, .int .u8 3, .int .u8 2, .int .u8 1, .int .u8 1, .int .u8 1, .int .u8 2]) (fr := (0, 0)) (by (repeat (first | exact new_plain wnA | with_reducible refine old_alloc ?_ | with_reducible refine old_drew ?_ | with_reducible refine old_set ?_ wnA | with_reducible refine old_ab (by assumption) ?_))) rfl) 0 12 Dl.dec_c rfl).mono ?_
  rintro e yh ⟨Q2, r2, rfl, hb⟩
  have dd : Ab yg yh := Ab.trans (by exact abA) hb
  have cyh := cyg.trans dd
  have RCo := RCo.ab dd
  clear hb cyg
  clear dd
  go_wp2_with fail
  refine (decode_n _ 2 [1, 0] rfl (by omega) _ (lit_at [1, 0] (cs := #[.int .u8 1, .int .u8 0]) (fr := (0, 0)) (by (repeat (first | exact new_plain wnA | with_reducible refine old_alloc ?_ | with_reducible refine old_drew ?_ | with_reducible refine old_set ?_ wnA | with_reducible refine old_ab (by assumption) ?_))) rfl) 0 12 Dl.dec_d rfl).mono ?_
  rintro e yi ⟨Q3, r3, rfl, hb⟩
  have dd : Ab yh yi := Ab.trans (by exact abA) hb
  have cyi := cyh.trans dd
  have RCo := RCo.ab dd
  clear hb cyh
  clear dd
  go_wp2_with fail
  refine (decode_n _ 10 [3, 1, 3, 3, 1, 2, 1, 2, 1, 2] rfl (by omega) _ (lit_at [3, 1, 3, 3, 1, 2, 1, 2, 1, 2] (cs := #[.int .u8 3, .int .u8 1, .int .u8 3, .int .u8 3, .int .u8 1, .int .u8 2, .int .u8 1, .int .u8 2, .int .u8 1, .int .u8 2]) (fr := (0, 0)) (by (repeat (first | exact new_plain wnA | with_reducible refine old_alloc ?_ | with_reducible refine old_drew ?_ | with_reducible refine old_set ?_ wnA | with_reducible refine old_ab (by assumption) ?_))) rfl) 0 12 Dl.dec_e rfl).mono ?_
  rintro e yj ⟨Q4, r4, rfl, hb⟩
  have dd : Ab yi yj := Ab.trans (by exact abA) hb
  have cyj := cyi.trans dd
  have RCo := RCo.ab dd
  clear hb cyi
  clear dd
  go_wp2_with fail
  refine (decode_n _ 2 [3, 0] rfl (by omega) _ (lit_at [3, 0] (cs := #[.int .u8 3, .int .u8 0]) (fr := (0, 0)) (by (repeat (first | exact new_plain wnA | with_reducible refine old_alloc ?_ | with_reducible refine old_drew ?_ | with_reducible refine old_set ?_ wnA | with_reducible refine old_ab (by assumption) ?_))) rfl) 0 0 Dl.dec_f rfl).mono ?_
  rintro e yk ⟨Q5, r5, rfl, hb⟩
  have dd : Ab yj yk := Ab.trans (by exact abA) hb
  have cyk := cyj.trans dd
  have RCo := RCo.ab dd
  clear hb cyj
  clear dd
  go_upto_region 33 with fail
  focus
    go_wp2_with fail
    refine (same_n AO _ qo _ 11 [3, 2, 3, 2, 1, 2, 1, 4, 2, 1, 122] _ (RCo.ab abA) (lit_at [3, 2, 3, 2, 1, 2, 1, 4, 2, 1, 122] (cs := #[.int .u8 3, .int .u8 2, .int .u8 3, .int .u8 2, .int .u8 1, .int .u8 2, .int .u8 1, .int .u8 4, .int .u8 2, .int .u8 1, .int .u8 122]) (fr := (0, 0)) (by (repeat (first | exact new_plain wnA | with_reducible refine old_alloc ?_ | with_reducible refine old_drew ?_ | with_reducible refine old_set ?_ wnA | with_reducible refine old_ab (by assumption) ?_))) rfl) rfl (by omega)).mono ?_
    rintro e yl ⟨rfl, hb⟩
    have dd : Ab yk yl := Ab.trans (by exact abA) hb
    have cyl := cyk.trans dd
    have RCo := RCo.ab dd
    clear hb cyk
    clear RCo
    clear dd
    go_wp2_with fail
    refine (dalive_any _ (HM.out.ab (BP.out.trans (cyl.trans abA)))).mono ?_
    rintro e ym ⟨rfl, hb⟩
    have dd : Ab yl ym := Ab.trans (by exact abA) hb
    have cym := cyl.trans dd
    clear hb cyl
    clear dd
    go_wp2
    go_ret
    exact ⟨rfl, BP.out.trans (cym.trans abA)⟩
end Go.Proofs.Ytjgijpfknhfnjaa
