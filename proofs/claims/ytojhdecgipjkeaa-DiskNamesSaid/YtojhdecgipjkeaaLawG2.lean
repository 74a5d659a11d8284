import Derived.Test.YtojhdecgipjkeaaLawG1
import Derived.Deep.DeepCutAuto
set_option linter.unusedVariables false
set_option linter.unusedSimpArgs false
namespace Go.Proofs.Ytojhdecgipjkeaa
open Go.RowKit Disk

def firstLoop : Code → Option Code
  | .loop c => some c
  | .seq a b => match firstLoop a with
    | some c => some c
    | none => firstLoop b
  | .block _ c => firstLoop c
  | .scope c => firstLoop c
  | .cond _ a b => match firstLoop a with
    | some c => some c
    | none => firstLoop b
  | _ => none
noncomputable def namesBody : Code := ((Try.f3.body.bind firstLoop).getD .skip)
theorem getD_set (t : Array Value) (i j : Nat) (v u : Value) : (t.setIfInBounds i v).getD j u = if i = j ∧ j < t.size then v else t.getD j u := by
  simp only [Array.getD_eq_getD_getElem?, Array.getElem?_setIfInBounds]
  by_cases h : i = j
  · subst h
    by_cases h2 : i < t.size <;> simp [h2]
  · simp [h]
theorem lit_frame (n : Nat) (T : Array Value) (hs : T.size = n) : ∃ g : Nat → Value, (∀ i, g i = T.getD i undef) ∧ T = ((List.range n).map g).toArray := by
  refine ⟨fun i => T.getD i undef, fun _ => rfl, ?_⟩
  apply Array.ext
  · simp [hs]
  · intro i h1 h2
    simp [Array.getD, h1]
set_option maxRecDepth 1000000 in
theorem lit_375 (g : Nat → Value) : (List.range 375).map g = [g 0, g 1, g 2, g 3, g 4, g 5, g 6, g 7, g 8, g 9, g 10, g 11, g 12, g 13, g 14, g 15, g 16, g 17, g 18, g 19, g 20, g 21, g 22, g 23, g 24, g 25, g 26, g 27, g 28, g 29, g 30, g 31, g 32, g 33, g 34, g 35, g 36, g 37, g 38, g 39, g 40, g 41, g 42, g 43, g 44, g 45, g 46, g 47, g 48, g 49, g 50, g 51, g 52, g 53, g 54, g 55, g 56, g 57, g 58, g 59, g 60, g 61, g 62, g 63, g 64, g 65, g 66, g 67, g 68, g 69, g 70, g 71, g 72, g 73, g 74, g 75, g 76, g 77, g 78, g 79, g 80, g 81, g 82, g 83, g 84, g 85, g 86, g 87, g 88, g 89, g 90, g 91, g 92, g 93, g 94, g 95, g 96, g 97, g 98, g 99, g 100, g 101, g 102, g 103, g 104, g 105, g 106, g 107, g 108, g 109, g 110, g 111, g 112, g 113, g 114, g 115, g 116, g 117, g 118, g 119, g 120, g 121, g 122, g 123, g 124, g 125, g 126, g 127, g 128, g 129, g 130, g 131, g 132, g 133, g 134, g 135, g 136, g 137, g 138, g 139, g 140, g 141, g 142, g 143, g 144, g 145, g 146, g 147, g 148, g 149, g 150, g 151, g 152, g 153, g 154, g 155, g 156, g 157, g 158, g 159, g 160, g 161, g 162, g 163, g 164, g 165, g 166, g 167, g 168, g 169, g 170, g 171, g 172, g 173, g 174, g 175, g 176, g 177, g 178, g 179, g 180, g 181, g 182, g 183, g 184, g 185, g 186, g 187, g 188, g 189, g 190, g 191, g 192, g 193, g 194, g 195, g 196, g 197, g 198, g 199, g 200, g 201, g 202, g 203, g 204, g 205, g 206, g 207, g 208, g 209, g 210, g 211, g 212, g 213, g 214, g 215, g 216, g 217, g 218, g 219, g 220, g 221, g 222, g 223, g 224, g 225, g 226, g 227, g 228, g 229, g 230, g 231, g 232, g 233, g 234, g 235, g 236, g 237, g 238, g 239, g 240, g 241, g 242, g 243, g 244, g 245, g 246, g 247, g 248, g 249, g 250, g 251, g 252, g 253, g 254, g 255, g 256, g 257, g 258, g 259, g 260, g 261, g 262, g 263, g 264, g 265, g 266, g 267, g 268, g 269, g 270, g 271, g 272, g 273, g 274, g 275, g 276, g 277, g 278, g 279, g 280, g 281, g 282, g 283, g 284, g 285, g 286, g 287, g 288, g 289, g 290, g 291, g 292, g 293, g 294, g 295, g 296, g 297, g 298, g 299, g 300, g 301, g 302, g 303, g 304, g 305, g 306, g 307, g 308, g 309, g 310, g 311, g 312, g 313, g 314, g 315, g 316, g 317, g 318, g 319, g 320, g 321, g 322, g 323, g 324, g 325, g 326, g 327, g 328, g 329, g 330, g 331, g 332, g 333, g 334, g 335, g 336, g 337, g 338, g 339, g 340, g 341, g 342, g 343, g 344, g 345, g 346, g 347, g 348, g 349, g 350, g 351, g 352, g 353, g 354, g 355, g 356, g 357, g 358, g 359, g 360, g 361, g 362, g 363, g 364, g 365, g 366, g 367, g 368, g 369, g 370, g 371, g 372, g 373, g 374] := by rfl
theorem getD_ne (t : Array Value) (i j : Nat) (v u : Value) (h : i ≠ j) : (t.setIfInBounds i v).getD j u = t.getD j u := by
  rw [getD_set, if_neg (fun e => h e.1)]
theorem getD_at (t : Array Value) (i n : Nat) (v u : Value) (hs : t.size = n) (h : i < n) : (t.setIfInBounds i v).getD i u = v := by
  rw [getD_set, if_pos ⟨rfl, by omega⟩]
theorem size_set (t : Array Value) (i n : Nat) (v : Value) (hs : t.size = n) : (t.setIfInBounds i v).size = n := by
  rw [Array.size_setIfInBounds, hs]
theorem opaque_frame {P : Program} {c : Code} {Q : Exit → Act → World → Prop} {t : Array Value} {d : List Deferred} {w : World} (h : ∀ T : Array Value, T = t → Code.wp P c Q ⟨T, d⟩ w) : Code.wp P c Q ⟨t, d⟩ w := h t rfl
/-- What is read of the frame behind the loop's head. -/
def Frm (a : Addr) (T : Array Value) (k : Nat) : Prop :=
  T.size = 375 ∧ T.getD 50 undef = .slice (some a) 6 6 ∧ T.getD 51 undef = .int .i64 (k : Int) ∧ T.getD 1 undef = .bool true ∧ T.getD 26 undef = .bool true ∧ T.getD 49 undef = .bool true
/-- What holds at each head of the loop. -/
def NI (wq : World) (a : Addr) (act : Act) (wr : World) : Prop := ∃ k : Nat, k ≤ 6 ∧ act.defers = [] ∧ Frm a act.tmps k ∧ Ab wq wr
def NX (wq : World) (a : Addr) (act : Act) (wr : World) : Prop := act.defers = [] ∧ Frm a act.tmps 6 ∧ Ab wq wr
def NMu (act : Act) : Nat := 6 - (intOf (act.tmps.getD 51 undef)).toNat
/-- Behind the call. -/
def NJ (wr : World) (a : Addr) (k : Nat) (act : Act) (wx : World) : Prop :=
  act.defers = [] ∧ Frm a act.tmps k ∧ BadRel wr (act.tmps.getD 52 undef) (act.tmps.getD 53 undef) (act.tmps.getD 54 undef) wx

set_option maxRecDepth 1000000 in
set_option maxHeartbeats 9600000 in
theorem names_round (wq : World) (a : Addr) (xs : List OpM) (hx : Ops wq (some a) 6 xs) (hbx : ∀ o ∈ xs, ¬ Op.ok o.op ∧ o.b.length ≤ 1) (Q0 : Exit → Act → World → Prop)
    (hexit : ∀ act w', NX wq a act w' → Q0 (.exit 0) act w') (act : Act) (wr : World) (hI : NI wq a act wr) :
    Code.wp Try.prog namesBody (Exit.then (fun a' w' => NI wq a a' w' ∧ NMu a' < NMu act) Q0) act wr := by
  obtain ⟨k, hk, hd, ⟨hs, f50, f51, f1, f26, f49⟩, hbr⟩ := hI
  obtain ⟨T, d⟩ := act
  simp only at hd hs f50 f51 f1 f26 f49
  subst hd
  have gs := getD_set
  by_cases hlt : k < 6
  · clear hexit
    obtain ⟨a', ha, ho⟩ := (hx.ab hbr).2 (by omega)
    cases ha
    have hkx : k < xs.length := by rw [hx.1]; exact hlt
    obtain ⟨h0, h1, h2⟩ := ho.cells hkx
    obtain ⟨_, _, _, hob, hoc, _⟩ := ho k hkx
    obtain ⟨hok, hol⟩ := hbx xs[k] (List.getElem_mem hkx)
    generalize xs[k] = o at *
    have HOK := Lib.hid hok; clear hok
    have i0 : (0 : Int) ≤ (k : Int) := by omega
    have i1 : (k : Int) < 6 := by omega
    have zk : (a.add (k * 3)).block < wr.heap.size := cell_lt h0
    have hdm : ∀ p ∈ [(⟨2, none, 0, [], 0⟩ : OpM), o, ⟨2, none, 0, [], 0⟩], p.b.length ≤ 3000 := by
      intro p hp
      simp only [List.mem_cons, List.not_mem_nil, or_false] at hp
      rcases hp with rfl | rfl | rfl
      · simp
      · omega
      · simp
    have HDM := Lib.hid hdm; clear hdm
    have hdk : decide ((k : Int) < 6) = true := by simp; omega
    conv => arg 2; whnf
    go_wp2
    refine wp_cond (t := true) (by simp [Act.eval, gs, hs, hdk]) ?_
    go_wp2
    refine wp_cut (NJ wr a k) ?_ ?_
    · clear ho h0 h1 h2 hob hoc hol HOK HDM
      rintro ⟨T2, d2⟩ wx ⟨hd2, ⟨hs2, g50, g51, g1, g26, g49⟩, hbad⟩
      simp only at hd2 hs2 g50 g51 g1 g26 g49 hbad
      subst hd2
      obtain ⟨h, D, cd, e52, e53, e54, hc, hrb, hab⟩ := hbad
      have cv : (convert 24 9 (.slice D 5 cd)).run Try.prog wx = .ok (.string ⟨#[97, 98, 99, 100, 101]⟩) wx := conv_rb cd hrb
      have hab2 := Ab.trans hbr hab
      have HMu : Hid (NMu ⟨T, []⟩ = 6 - k) := Lib.hid (by unfold NMu; rw [f51]; simp [intOf])
      clear hrb hab hbr f50 f51 f1 f26 f49 hdk
      have HA := Lib.hid hab2; clear hab2 hx hbx gs
      obtain ⟨g, hg, hT⟩ := lit_frame 375 T2 hs2
      rw [lit_375] at hT
      have e50 := (hg 50).trans g50
      have e51 := (hg 51).trans g51
      have e1 := (hg 1).trans g1
      have e26 := (hg 26).trans g26
      have e49 := (hg 49).trans g49
      have d52 := (hg 52).trans e52
      have d53 := (hg 53).trans e53
      have d54 := (hg 54).trans e54
      clear hg g50 g51 g1 g26 g49 e52 e53 e54 hs2
      subst hT
      rw [e50, e51, e1, e26, e49, d52, d53, d54]
      clear e50 e51 e1 e26 e49 d52 d53 d54
      go_wp2
      refine ⟨⟨k + 1, by omega, rfl, ⟨by simp, by simp, by simp, by simp, by simp, by simp⟩, HA.out⟩, ?_⟩
      rw [HMu.out]
      simp [NMu, intOf]
      omega
    · intro J K' hJ hK'
      go_region_held3 (fun w' => w'.cell? (a.add (k * 3)) = some (.int .u8 o.k) ∧ w'.cell? ⟨(a.add (k * 3)).block, (a.add (k * 3)).off + 1, none⟩ = some (.slice o.A o.b.length o.c) ∧ w'.cell? ⟨(a.add (k * 3)).block, (a.add (k * 3)).off + 2, none⟩ = some (.int .i64 o.n))
        ((refine ⟨?_, ?_, ?_⟩ <;> (repeat (first | with_reducible assumption | (simp [go_sem]; done) | with_reducible apply cell_alloc | with_reducible apply cell_drew | with_reducible apply cell_drewN | (with_reducible apply Ab.at; with_reducible assumption) | (with_reducible refine cell_set ?_ ?_; rotate_left; focus (first | (simp; done) | (simp; omega))) | (with_reducible refine cell_setb ?_ ?_; rotate_left; focus (first | omega | (simp only; omega) | (simp; omega)))))))
        ((first
          | (go_at_call 11
             refine (given_any _).mono ?_
             rintro e w5 ⟨A5, B5, c5, d5, rfl, p5, q5, l5, m5, hb5⟩
             have zz5 := hb5.size; (try simp at zz5))
          | (go_at_call 22
             refine (run_any A5 B5 c5 d5 [97, 98] [99, 100, 101] 10 false _ (RB.ab p5.zero (by repeat (first | with_reducible exact Ab.refl _ | with_reducible assumption | with_reducible refine Ab.drew ?_ | with_reducible refine Ab.drewN ?_ _ | with_reducible refine Ab.alloc ?_ _ | with_reducible refine Ab.trans ?_ (by assumption) | with_reducible refine Ab.set ?_ (by first | (simp; done) | omega | (simp; omega)) _))) (RB.ab q5.zero (by repeat (first | with_reducible exact Ab.refl _ | with_reducible assumption | with_reducible refine Ab.drew ?_ | with_reducible refine Ab.drewN ?_ _ | with_reducible refine Ab.alloc ?_ _ | with_reducible refine Ab.trans ?_ (by assumption) | with_reducible refine Ab.set ?_ (by first | (simp; done) | omega | (simp; omega)) _))) l5 m5 (by simp) (by simp) (some ⟨_, 0, none⟩) 3 3 [⟨2, none, 0, [], 0⟩, o, ⟨2, none, 0, [], 0⟩] (opsMid (by (repeat (first | exact new_plain (by first | (simp; done) | omega | (simp; omega)) | with_reducible refine old_alloc ?_ | with_reducible refine old_drew ?_ | with_reducible refine old_set ?_ (by first | (simp; done) | omega | (simp; omega)) | with_reducible refine old_ab (by assumption) ?_))) (RB.ab hob (by repeat (first | with_reducible exact Ab.refl _ | with_reducible assumption | with_reducible refine Ab.drew ?_ | with_reducible refine Ab.drewN ?_ _ | with_reducible refine Ab.alloc ?_ _ | with_reducible refine Ab.trans ?_ (by assumption) | with_reducible refine Ab.set ?_ (by first | (simp; done) | omega | (simp; omega)) _))) hoc hol) (by omega) HDM.out).mono ?_
             rintro e w7 ⟨r7, n7, f7, D7, E7, cd7, ce7, h7, rfl, p7, q7, hb7⟩
             obtain ⟨rfl, h7'⟩ := Prod.mk.inj (h7.out.trans (bad_run o.op HOK.out))
             obtain ⟨rfl, rfl⟩ := Prod.mk.inj h7'
             clear h7 h7' q7
             (first
               | (refine bring (p := w7.heap[wr.heap.size]? = some (.cells #[.slice none 0 0, .slice none 0 0, .int .i64 0, .bool false] 26)) ?_ (fun hzz => ?_)
                  · ((repeat (first | (refine new_plain ?_; (simp; done)) | with_reducible refine old_alloc ?_ | with_reducible refine old_drew ?_ | with_reducible refine old_ab (by assumption) ?_)); done)
                  obtain ⟨vq0, vq1, vq2, vq3, vr0, vr1, vr2, vr3⟩ := zbox_facts hzz)
               | (refine bring (p := w7.heap[wr.heap.size + 1]? = some (.cells #[.slice none 0 0, .slice none 0 0, .int .i64 0, .bool false] 26)) ?_ (fun hzz => ?_)
                  · ((repeat (first | (refine new_plain ?_; (simp; done)) | with_reducible refine old_alloc ?_ | with_reducible refine old_drew ?_ | with_reducible refine old_ab (by assumption) ?_)); done)
                  obtain ⟨vq0, vq1, vq2, vq3, vr0, vr1, vr2, vr3⟩ := zbox_facts hzz)
               | (refine bring (p := w7.heap[w5.heap.size]? = some (.cells #[.slice none 0 0, .slice none 0 0, .int .i64 0, .bool false] 26)) ?_ (fun hzz => ?_)
                  · ((repeat (first | (refine new_plain ?_; (simp; done)) | with_reducible refine old_alloc ?_ | with_reducible refine old_drew ?_ | with_reducible refine old_ab (by assumption) ?_)); done)
                  obtain ⟨vq0, vq1, vq2, vq3, vr0, vr1, vr2, vr3⟩ := zbox_facts hzz)
               | (refine bring (p := w7.heap[w5.heap.size + 1]? = some (.cells #[.slice none 0 0, .slice none 0 0, .int .i64 0, .bool false] 26)) ?_ (fun hzz => ?_)
                  · ((repeat (first | (refine new_plain ?_; (simp; done)) | with_reducible refine old_alloc ?_ | with_reducible refine old_drew ?_ | with_reducible refine old_ab (by assumption) ?_)); done)
                  obtain ⟨vq0, vq1, vq2, vq3, vr0, vr1, vr2, vr3⟩ := zbox_facts hzz)
               | skip))))
      all_goals refine hK' _ _ (Met.intro (hJ _ _ ?_))
      all_goals refine ⟨rfl, ⟨by simp [hs], (by (repeat rw [getD_ne _ _ _ _ _ (by decide)]); exact f50), (by (repeat rw [getD_ne _ _ _ _ _ (by decide)]); exact f51), (by (repeat rw [getD_ne _ _ _ _ _ (by decide)]); exact f1), (by (repeat rw [getD_ne _ _ _ _ _ (by decide)]); exact f26), (by (repeat rw [getD_ne _ _ _ _ _ (by decide)]); exact f49)⟩, ?_⟩
      all_goals (repeat (first | rw [getD_ne _ _ _ _ _ (by decide)] | rw [getD_at _ _ 375 _ _ (by (repeat rw [Array.size_setIfInBounds]); exact hs) (by decide)]))
      all_goals clear gs hs f50 f51 f1 f26 f49 h0 h1 h2 ho HOK HDM hdk hJ hK'
      all_goals refine ⟨_, D7, cd7, rfl, rfl, rfl, (by first | (simp [go_sem]; done) | (simp [go_sem, vq0, vq1, vq2, vq3]; done)), ?_, (by repeat (first | with_reducible exact Ab.refl _ | with_reducible assumption | with_reducible refine Ab.drew ?_ | with_reducible refine Ab.drewN ?_ _ | with_reducible refine Ab.alloc ?_ _ | with_reducible refine Ab.trans ?_ (by assumption) | with_reducible refine Ab.set ?_ (by first | (simp; done) | omega | (simp; omega)) _))⟩
      all_goals first | (with_reducible refine or_set4 p7 (by first | (simp; done) | omega | (simp; omega)) _ _ _ _) | (refine RB.ab p7.rb.zero ?_; ((repeat (first | with_reducible exact Ab.refl _ | with_reducible assumption | with_reducible refine Ab.drew ?_ | with_reducible refine Ab.drewN ?_ _ | with_reducible refine Ab.alloc ?_ _ | with_reducible refine Ab.trans ?_ (by assumption) | with_reducible refine Ab.set ?_ (by first | (simp; done) | omega | (simp; omega)) _)); done))
  · obtain rfl : k = 6 := by omega
    have hexit' : Q0 (.exit 0) ⟨(((T.setIfInBounds 317 (.int .i64 6)).setIfInBounds 318 (.slice (some a) 6 6)).setIfInBounds 319 (.int .i64 6)).setIfInBounds 320 (.bool false), []⟩ wr :=
      hexit _ _ ⟨rfl, ⟨by simp [hs], by simp [gs, f50], by simp [gs, f51], by simp [gs, f1], by simp [gs, f26], by simp [gs, f49]⟩, hbr⟩
    have HE := Lib.hid hexit'
    clear hexit hexit'
    conv => arg 2; whnf
    go_wp2
    refine wp_cond (t := false) (by simp [Act.eval, gs, hs]) ?_
    go_wp2
    exact HE.out
end Go.Proofs.Ytojhdecgipjkeaa
