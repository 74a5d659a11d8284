/- DeltaNames' mathematics: the examples' values. Own work. -/
import Derived.Test.YtjgijpfknhfnjaaDlForm
import Derived.Test.YtjgijpfknhfnjaaDlSame
set_option linter.unusedVariables false
set_option linter.unusedSimpArgs false
namespace Go.Proofs.Ytjgijpfknhfnjaa
open Codec (V)

namespace Dl
def z (n : Nat) : List UInt8 := List.replicate n 0
theorem z_len (n : Nat) : (z n).length = n := by simp [z]
/-- The parts that are neither a copy nor an insert. -/
def bads (b : List UInt8) : List Part := [⟨0, 0, []⟩, ⟨1, 0, []⟩, ⟨0, -1, []⟩, ⟨-1, 1, []⟩, ⟨0, 1, [1]⟩, ⟨1, 0, [1]⟩, ⟨0, 2001, []⟩, ⟨2001, 1, []⟩, ⟨0, 0, b⟩]
theorem bads_bad {b : List UInt8} (h : b.length = 2001) : ∀ x ∈ bads b, valid [x] = 8 := by
  intro x hx
  have : fine x = false := by
    unfold bads at hx
    simp only [List.mem_cons, List.not_mem_nil, or_false] at hx
    rcases hx with rfl | rfl | rfl | rfl | rfl | rfl | rfl | rfl | rfl
    · decide
    · decide
    · decide
    · decide
    · decide
    · decide
    · decide
    · decide
    · unfold fine copies inserts
      simp [h]
  unfold valid
  rw [if_neg (by simp), if_neg (by simp [this])]
theorem bad_check {x : Part} (h : valid [x] = 8) (n : Int) : check [x] n = 8 := by unfold check; rw [h]; rfl
theorem bad_cost {x : Part} (h : valid [x] = 8) : cost [x] = (0, 8) := by unfold cost; rw [h]; rfl
theorem bad_encode {x : Part} (h : valid [x] = 8) : encode [x] = ([], 8) := by unfold encode; rw [h]; rfl
theorem bad_apply {x : Part} (h : valid [x] = 8) {s : List UInt8} (hs : s.length = 2000) : apply s [x] = ([], 8) := by
  unfold apply; rw [if_neg (by omega), bad_check h]; rfl
theorem check_5 : check [⟨2, 3, []⟩] 5 = 0 := by decide
theorem check_4 : check [⟨2, 3, []⟩] 4 = 16 := by decide
theorem check_1 : check [⟨2, 3, []⟩] (-1) = 16 := by decide
theorem check_no : check [] 0 = 0 := by decide
theorem valid_many {l : List Part} (h : l.length = 201) : valid l = 4 := by unfold valid; rw [if_pos (by omega)]
theorem check_many {l : List Part} (h : l.length = 201) (n : Int) : check l n = 4 := by unfold check; rw [valid_many h]; rfl
theorem encode_many {l : List Part} (h : l.length = 201) : encode l = ([], 4) := by unfold encode; rw [valid_many h]; rfl
theorem apply_2001 {s : List UInt8} (h : s.length = 2001) : apply s [] = ([], 4) := by unfold apply; rw [if_pos (by omega)]
theorem apply_abcd : apply [97, 98, 99, 100] [⟨2, 3, []⟩] = ([], 16) := by decide
theorem apply_abcde : apply [97, 98, 99, 100, 101] [⟨2, 3, []⟩] = ([99, 100, 101], 0) := by decide
theorem apply_1001 {s : List UInt8} (h : s.length = 1001) : apply s [⟨0, 1000, []⟩, ⟨0, 1001, []⟩] = ([], 4) := by
  have hc : check [⟨0, 1000, []⟩, ⟨0, 1001, []⟩] s.length = 0 := by rw [h]; decide
  have ho : (out s [⟨0, 1000, []⟩, ⟨0, 1001, []⟩]).length = 2001 := by
    unfold out
    simp only [List.map_cons, List.map_nil, List.flatten_cons, List.flatten_nil, List.append_nil, List.length_append]
    have a1 : (app1 s ⟨0, 1000, []⟩).length = 1000 := by
      unfold app1; rw [if_pos (by decide)]; simp [h]
    have a2 : (app1 s ⟨0, 1001, []⟩).length = 1001 := by
      unfold app1; rw [if_pos (by decide)]; simp [h]
    omega
  unfold apply
  rw [if_neg (by omega), if_pos hc, if_pos (by omega)]
theorem apply_1000 {s : List UInt8} (h : s.length = 1000) : (apply s [⟨0, 1000, []⟩, ⟨0, 1000, []⟩]).2 = 0 ∧ (apply s [⟨0, 1000, []⟩, ⟨0, 1000, []⟩]).1.length = 2000 := by
  have hc : check [⟨0, 1000, []⟩, ⟨0, 1000, []⟩] s.length = 0 := by rw [h]; decide
  have ho : (out s [⟨0, 1000, []⟩, ⟨0, 1000, []⟩]).length = 2000 := by
    unfold out
    simp only [List.map_cons, List.map_nil, List.flatten_cons, List.flatten_nil, List.append_nil, List.length_append]
    have a1 : (app1 s ⟨0, 1000, []⟩).length = 1000 := by
      unfold app1; rw [if_pos (by decide)]; simp [h]
    omega
  unfold apply
  rw [if_neg (by omega), if_pos hc, if_neg (by omega)]
  exact ⟨rfl, ho⟩
theorem make_no {B : List UInt8} {F : Nat → Int} {G : Nat → Nat} {l : List Part} (hm : Mk B [] F G 0 l) : l = [] := by
  rcases hm.head with h | ⟨k, cp, r, s, _, _⟩
  · exact h
  · have h1 := s.one; have h2 := s.room; simp at h2; omega
theorem make_abc {F : Nat → Int} {G : Nat → Nat} {l : List Part} (ht : Tab [] [97, 98, 99] F G 0) (hm : Mk [] [97, 98, 99] F G 0 l) : l = [⟨0, 0, [97, 98, 99]⟩] :=
  (least_is (f := [4, 3, 2, 0]) (g := [0, 0, 0]) (r := [(3, false)]) (by decide +kernel) ht hm).trans (by rfl)
/-- A value's numbers and lengths, checked. -/
def wfb : Nat → V → Bool
  | 0, _ => false
  | d + 1, v => decide (-9223372036854775808 ≤ v.num) && (decide (v.num ≤ 9223372036854775807) && (decide (v.b.length < 9223372036854775808) && (decide (v.l.length < 9223372036854775808) && v.l.all (wfb d))))
theorem wfx : ∀ {d : Nat} (v : V), wfb d v = true → Codec.wf d v := by
  intro d
  induction d with
  | zero => intro v h; cases h
  | succ d ih =>
    intro v h
    unfold wfb at h
    simp only [Bool.and_eq_true, decide_eq_true_eq, List.all_eq_true] at h
    exact ⟨h.1, h.2.1, h.2.2.1, h.2.2.2.1, fun x hx => ih x (h.2.2.2.2 x hx)⟩
theorem dec_of {v : V} {b : List UInt8} (he : Codec.enc 6 v = b) (hk : Codec.kinds 6 v = true) (hw : Codec.wf 6 v) (hl : b.length ≤ 3000) : decode b = if v.kind ≠ 3 ∨ 200 < v.l.length then ([], 12) else if v.l.all okp then (v.l.map rp, 0) else ([], 12) := by
  have hc : Codec.check v = 0 := by unfold Codec.check; rw [hk, if_neg (by simp), if_neg (by rw [he]; omega)]
  have hd := Codec.decode_enc hc hw
  rw [he] at hd
  rw [← rdecode_eq (by omega)]
  unfold rdecode
  rw [hd]
  by_cases h : v.kind ≠ 3 ∨ 200 < v.l.length
  · rw [if_pos (.inr h), if_pos h]
  · rw [if_neg (fun e => e.elim (fun h => h rfl) h), if_neg h]
theorem dec_a : decode [3, 1, 3, 2, 1, 2, 1, 0] = ([], 12) := by
  have he : Codec.enc 6 (Obj.L [Obj.L [Obj.N 1, Obj.N 0]]) = [3, 1, 3, 2, 1, 2, 1, 0] := by
    show 3 :: (Codec.code 1 ++ ((3 :: (Codec.code 2 ++ ((1 :: Codec.code (Codec.fold 1)) ++ ((1 :: Codec.code (Codec.fold 0)) ++ [])))) ++ [])) = _
    simp only [show Codec.fold 1 = 2 from rfl, show Codec.fold 0 = 0 from rfl, show Codec.fold (-1) = 1 from rfl, Codec.code_small (show 0 < 128 by decide), Codec.code_small (show 1 < 128 by decide), Codec.code_small (show 2 < 128 by decide), Codec.code_small (show 3 < 128 by decide)]
    rfl
  refine (dec_of he rfl ?_ (by decide)).trans rfl
  exact wfx _ (by decide)
theorem dec_b : decode [3, 1, 2, 0] = ([], 12) := by
  have he : Codec.enc 6 (Obj.L [Obj.B []]) = [3, 1, 2, 0] := by
    show 3 :: (Codec.code 1 ++ ((2 :: (Codec.code 0 ++ [])) ++ [])) = _
    simp only [show Codec.fold 1 = 2 from rfl, show Codec.fold 0 = 0 from rfl, show Codec.fold (-1) = 1 from rfl, Codec.code_small (show 0 < 128 by decide), Codec.code_small (show 1 < 128 by decide), Codec.code_small (show 2 < 128 by decide), Codec.code_small (show 3 < 128 by decide)]
    rfl
  refine (dec_of he rfl ?_ (by decide)).trans rfl
  exact wfx _ (by decide)
theorem dec_c : decode [3, 1, 3, 2, 1, 1, 1, 2] = ([], 12) := by
  have he : Codec.enc 6 (Obj.L [Obj.L [Obj.N (-1), Obj.N 1]]) = [3, 1, 3, 2, 1, 1, 1, 2] := by
    show 3 :: (Codec.code 1 ++ ((3 :: (Codec.code 2 ++ ((1 :: Codec.code (Codec.fold (-1))) ++ ((1 :: Codec.code (Codec.fold 1)) ++ [])))) ++ [])) = _
    simp only [show Codec.fold 1 = 2 from rfl, show Codec.fold 0 = 0 from rfl, show Codec.fold (-1) = 1 from rfl, Codec.code_small (show 0 < 128 by decide), Codec.code_small (show 1 < 128 by decide), Codec.code_small (show 2 < 128 by decide), Codec.code_small (show 3 < 128 by decide)]
    rfl
  refine (dec_of he rfl ?_ (by decide)).trans rfl
  exact wfx _ (by decide)
theorem dec_d : decode [1, 0] = ([], 12) := by
  have he : Codec.enc 6 (Obj.N 0) = [1, 0] := by
    show 1 :: Codec.code (Codec.fold 0) = _
    simp only [show Codec.fold 1 = 2 from rfl, show Codec.fold 0 = 0 from rfl, show Codec.fold (-1) = 1 from rfl, Codec.code_small (show 0 < 128 by decide), Codec.code_small (show 1 < 128 by decide), Codec.code_small (show 2 < 128 by decide), Codec.code_small (show 3 < 128 by decide)]
    rfl
  refine (dec_of he rfl ?_ (by decide)).trans rfl
  exact wfx _ (by decide)
theorem dec_e : decode [3, 1, 3, 3, 1, 2, 1, 2, 1, 2] = ([], 12) := by
  have he : Codec.enc 6 (Obj.L [Obj.L [Obj.N 1, Obj.N 1, Obj.N 1]]) = [3, 1, 3, 3, 1, 2, 1, 2, 1, 2] := by
    show 3 :: (Codec.code 1 ++ ((3 :: (Codec.code 3 ++ ((1 :: Codec.code (Codec.fold 1)) ++ ((1 :: Codec.code (Codec.fold 1)) ++ ((1 :: Codec.code (Codec.fold 1)) ++ []))))) ++ [])) = _
    simp only [show Codec.fold 1 = 2 from rfl, show Codec.fold 0 = 0 from rfl, show Codec.fold (-1) = 1 from rfl, Codec.code_small (show 0 < 128 by decide), Codec.code_small (show 1 < 128 by decide), Codec.code_small (show 2 < 128 by decide), Codec.code_small (show 3 < 128 by decide)]
    rfl
  refine (dec_of he rfl ?_ (by decide)).trans rfl
  exact wfx _ (by decide)
theorem dec_f : decode [3, 0] = ([], 0) := by
  have he : Codec.enc 6 (Obj.L []) = [3, 0] := by
    show 3 :: (Codec.code 0 ++ []) = _
    simp only [show Codec.fold 1 = 2 from rfl, show Codec.fold 0 = 0 from rfl, show Codec.fold (-1) = 1 from rfl, Codec.code_small (show 0 < 128 by decide), Codec.code_small (show 1 < 128 by decide), Codec.code_small (show 2 < 128 by decide), Codec.code_small (show 3 < 128 by decide)]
    rfl
  refine (dec_of he rfl ?_ (by decide)).trans rfl
  exact wfx _ (by decide)
theorem has_z {m n : Nat} (h : m ≤ n) : has (z n) (z m) = true := by
  rw [has_iff]
  refine ⟨0, by omega, ?_⟩
  rw [List.drop_zero]
  exact ⟨z (n - m), by unfold z; rw [List.replicate_append_replicate]; congr 1; omega⟩
theorem drop_z (n i : Nat) : (z n).drop i = z (n - i) := by unfold z; rw [List.drop_replicate]
theorem take_z (n m : Nat) : (z n).take m = z (min m n) := by unfold z; rw [List.take_replicate]
def fz (i : Nat) : Int := if i < 299 then 3 else if i = 299 then 2 else 0
theorem tab_z : Tab (z 300) (z 300) fz (fun i => 300 - i) 0 := by
  refine ⟨fun i _ hi => ⟨?_, ?_, fun m hm _ => ?_⟩, ?_, fun i m _ hi h1 h2 => ?_, fun i m _ hi h1 h2 => ?_, fun i _ hi => ?_⟩
  · rw [drop_z, z_len]; exact Nat.le_refl _
  · rw [drop_z, take_z]; exact has_z (by omega)
  · rw [drop_z, z_len] at hm; exact hm
  · rw [z_len]; rfl
  · rw [z_len] at hi
    unfold fz
    split <;> (split <;> (try split) <;> (try split) <;> omega)
  · rw [z_len] at hi h2
    unfold fz
    split <;> (split <;> (try split) <;> (try split) <;> omega)
  · rw [z_len] at hi
    rw [z_len]
    by_cases h : i < 299
    · exact ⟨300 - i, by omega, by omega, .inl ⟨Nat.le_refl _, by unfold fz; rw [if_pos h, if_neg (by omega), if_neg (by omega)]; rfl⟩⟩
    · exact ⟨1, by omega, by omega, .inr (by unfold fz; rw [if_neg h, if_pos (by omega), if_neg (by omega), if_neg (by omega)]; rfl)⟩
theorem make_same {F : Nat → Int} {G : Nat → Nat} {l : List Part} (ht : Tab (z 300) (z 300) F G 0) (hm : Mk (z 300) (z 300) F G 0 l) : l = [⟨0, 300, []⟩] := by
  have hs : Start (z 300).length fz (fun i => 300 - i) 0 300 true := ⟨by omega, by rw [z_len]; omega, fun _ => ⟨by omega, rfl, fun m h1 h2 => by omega⟩, fun h => by cases h⟩
  have h1 : Mk (z 300) (z 300) fz (fun i => 300 - i) (0 + 300) [] := by
    have := Mk.done (B := z 300) (T := z 300) (f := fz) (g := fun i => 300 - i)
    rw [z_len] at this
    exact this
  have h2 := Mk.same ht tab_z hm (.step hs h1)
  rw [h2]
  have h3 : Lib.index (z 300) (z 300) = 0 := by
    have ho : Lib.occAt (z 300) (z 300) 0 = true := by unfold Lib.occAt; rw [List.drop_zero]; exact List.isPrefixOf_iff_prefix.2 (List.prefix_refl _)
    rcases Lib.index_spec (z 300) (z 300) with ⟨_, h⟩ | ⟨i, h1, h2, h3, h4⟩
    · rw [h 0 (by omega)] at ho; cases ho
    · by_cases h0 : i = 0
      · rw [h1, h0]; rfl
      · rw [h4 0 (by omega)] at ho; cases ho
  unfold part
  rw [if_pos rfl, List.drop_zero, take_z]
  show [(⟨Lib.index (z 300) (z 300), 300, []⟩ : Part)] = _
  rw [h3]
theorem enc_code : encode [⟨1, 2, []⟩, ⟨0, 0, [122]⟩] = ([3, 2, 3, 2, 1, 2, 1, 4, 2, 1, 122], 0) := by
  have he : Codec.enc 6 (dv [⟨1, 2, []⟩, ⟨0, 0, [122]⟩]) = [3, 2, 3, 2, 1, 2, 1, 4, 2, 1, 122] := by
    show 3 :: (Codec.code 2 ++ ((3 :: (Codec.code 2 ++ ((1 :: Codec.code (Codec.fold 1)) ++ ((1 :: Codec.code (Codec.fold 2)) ++ [])))) ++ ((2 :: (Codec.code 1 ++ [122])) ++ []))) = _
    rw [show Codec.fold 1 = 2 from rfl, show Codec.fold 2 = 4 from rfl, Codec.code_small (by omega : 2 < 128), Codec.code_small (by omega : 4 < 128), Codec.code_small (by omega : 1 < 128)]
    rfl
  have hc : Codec.check (dv [⟨1, 2, []⟩, ⟨0, 0, [122]⟩]) = 0 := by
    unfold Codec.check
    rw [kinds_dv, he]
    decide
  rw [enc_of (by decide) hc, he]
theorem enc_great {a b : List UInt8} (ha : a.length = 2000) (hb : b.length = 2000) : encode [⟨0, 0, a⟩, ⟨0, 0, b⟩] = ([], 4) := by
  have fa : inserts ⟨0, 0, a⟩ = true := by rw [inserts_iff]; exact ⟨rfl, rfl, by show 1 ≤ a.length; omega, by show a.length ≤ 2000; omega⟩
  have fb : inserts ⟨0, 0, b⟩ = true := by rw [inserts_iff]; exact ⟨rfl, rfl, by show 1 ≤ b.length; omega, by show b.length ≤ 2000; omega⟩
  have hv : valid [⟨0, 0, a⟩, ⟨0, 0, b⟩] = 0 := valid_zero.2 ⟨by simp, fun x hx => by
    simp only [List.mem_cons, List.not_mem_nil, or_false] at hx
    rcases hx with rfl | rfl
    · unfold fine; rw [fa, Bool.or_true]
    · unfold fine; rw [fb, Bool.or_true]⟩
  have hl : 3000 < (Codec.enc 6 (dv [⟨0, 0, a⟩, ⟨0, 0, b⟩])).length := by
    have e : dv [⟨0, 0, a⟩, ⟨0, 0, b⟩] = Obj.L [Obj.B a, Obj.B b] := by
      show Obj.L [pv ⟨0, 0, a⟩, pv ⟨0, 0, b⟩] = _
      unfold pv
      rw [if_pos fa, if_pos fb]
    rw [e]
    show 3000 < (3 :: (Codec.code 2 ++ ((2 :: (Codec.code a.length ++ a)) ++ ((2 :: (Codec.code b.length ++ b)) ++ [])))).length
    simp only [List.length_cons, List.length_append, List.length_nil]
    omega
  have hc : Codec.check (dv [⟨0, 0, a⟩, ⟨0, 0, b⟩]) = 4 := by
    unfold Codec.check
    rw [kinds_dv, if_neg (by simp), if_pos hl]
  unfold encode
  rw [if_pos hv]
  unfold Codec.encode
  rw [if_pos (by rw [hc]; simp), hc]
end Dl
end Go.Proofs.Ytjgijpfknhfnjaa
