/- Split, Join and Common of package lines, walked. Own work. -/
import Derived.Test.YtegnkmfdchljkaaDoorLnFunA
import Derived.Test.YtegnkmfdchljkaaDoorLit
set_option linter.unusedVariables false
set_option linter.unusedSimpArgs false
namespace Go.Proofs.YtegnkmfdchljkaaDoor
open Go.RowKit

theorem lnconv_str {w : World} {A : Option Addr} {l : List UInt8} (c : Nat) (h : RB w 0 A l) : (convert 22 9 (.slice A l.length c)).run Tryd.prog w = .ok (.string ⟨l.toArray⟩) w := by
  cases A with
  | none =>
    have : l = [] := by
      cases l with
      | nil => rfl
      | cons x t => obtain ⟨_, h1, _⟩ := h (by simp); cases h1
    subst this
    exact run_convert_bytes_nil w 22 5 Tryd.underlying22 Tryd.underlying5 0 c 9 Tryd.underlying9
  | some a => exact run_convert_bytes_back w 22 9 5 a c l Tryd.underlying22 Tryd.underlying5 Tryd.underlying9 (fun j hj => h.cell hj rfl)
theorem lnSplit_any (s : ByteArray) (w : World) (hs : s.size ≤ 4294967280) : Calls Tryd.prog 22 #[.string s, .string ⟨#[10]⟩] w fun e w' => ∃ ps : List ByteArray, Ln.L ps = Ln.parts s.data.toList ∧ e = .returned (.slice (some ⟨w.heap.size, 0, none⟩) ps.length ps.length) ∧ w' = w.alloc (.cells (ps.map Value.string).toArray 9) := by
  have hI : ∀ (x : ByteArray) (c : Array Value), x.size ≤ s.size → Calls Tryd.prog 45 #[.string x, .string ⟨#[10]⟩] (w.alloc (.cells c 9)) fun e w' => e = .returned (.int .i64 (Lib.indexB x ⟨#[10]⟩)) ∧ w' = w.alloc (.cells c 9) := fun x c _ => by
    have := Go.Proofs.Any.strings_Index_one Go.Proofs.Tryd.lays143 x 10 (w.alloc (.cells c 9))
    rw [← Lib.index_one] at this
    exact this
  have hC : Calls Tryd.prog 44 #[.string s, .string ⟨#[10]⟩] w fun e w' => e = .returned (.int .i64 (Lib.countB s ⟨#[10]⟩)) ∧ w' = w := by
    have := Go.Proofs.Any.strings_Count_one Go.Proofs.Tryd.lays138 s 10 w
    have e : Lib.countByte s.data.toList 10 = Lib.countB s ⟨#[10]⟩ := (Lib.count_one 10 s.data.toList).symm
    rw [e] at this
    exact this
  have hle := Lib.countB_le ⟨#[10]⟩ (Nat.le_refl _) s.size s (Nat.le_refl _)
  have hlen := Lib.splitB_all ⟨#[10]⟩ (Nat.le_refl _) 0 _ s rfl
  have G := Go.Proofs.Any.strings_genSplit_core Go.Proofs.Tryd.lays221 (by kernel_rfl) s ⟨#[10]⟩ 0 (-1) (Lib.countB s ⟨#[10]⟩ + 1) w (by omega) (Nat.le_refl _) (Nat.zero_le _) hI hC (by decide) (by decide) (by rw [if_pos (by decide)]; omega)
  rw [Nat.add_sub_cancel] at G
  have HP := Lib.hid (Ln.splitB_parts s)
  have e2 : Lib.cellsOf (Lib.splitB ⟨#[10]⟩ 0 (Lib.countB s ⟨#[10]⟩) s) (Lib.countB s ⟨#[10]⟩ + 1) = ((Lib.splitB ⟨#[10]⟩ 0 (Lib.countB s ⟨#[10]⟩) s).map Value.string).toArray := by rw [← hlen]; exact Lib.cellsOf_full _
  rw [e2, ← hlen] at G
  clear hI hC hle hlen e2
  generalize Lib.splitB ⟨#[10]⟩ 0 (Lib.countB s ⟨#[10]⟩) s = ps at *
  go_enter Tryd.func22, Tryd.ntmps22
  go_wp2_with fail
  refine G.mono ?_
  rintro e w1 ⟨rfl, rfl⟩
  go_wp2
  go_ret
  exact ⟨ps, HP.out, rfl, rfl⟩
theorem Ln.parts_le : ∀ (l : List UInt8), ∀ p ∈ Ln.parts l, p.length ≤ l.length
  | [] => by simp [Ln.parts]
  | c :: l => by
    have ih := Ln.parts_le l
    obtain ⟨p, ps, e⟩ := Ln.parts_ne l
    rw [e] at ih
    by_cases h : c = 10
    · subst h
      rw [Ln.parts_feed, e]
      intro q hq
      rw [List.mem_cons] at hq
      rcases hq with rfl | hq
      · simp
      · have := ih q hq; simp only [List.length_cons]; omega
    · rw [Ln.parts_cons h e]
      intro q hq
      rw [List.mem_cons] at hq
      rcases hq with rfl | hq
      · have := ih p List.mem_cons_self; simp only [List.length_cons]; omega
      · have := ih q (List.mem_cons_of_mem _ hq); simp only [List.length_cons]; omega
theorem Ln.chk_zero {l : List UInt8} (h : Ln.chk l = 0) : l.length ≤ 2000 ∧ l.count 10 < 60 := by
  unfold Ln.chk at h
  split at h
  · cases h
  · omega
theorem Ln.chk_cases (l : List UInt8) : Ln.chk l = 4 ∨ Ln.chk l = 0 := by
  unfold Ln.chk
  split
  · exact .inl rfl
  · exact .inr rfl
/-- Strings fresh in a row of their own. -/
theorem sm_alloc (w : World) (ps : List ByteArray) (h1 : ps.length ≤ 100000) (h2 : ∀ p ∈ ps, p.size ≤ 100000) : SM (w.alloc (.cells (ps.map Value.string).toArray 9)) (some ⟨w.heap.size, 0, none⟩) ps.length ps :=
  ⟨fun _ => ⟨_, _, rfl, fun j hj => by
    unfold World.cell?
    rw [show (w.alloc (.cells (ps.map Value.string).toArray 9)).heap[w.heap.size]? = some (.cells (ps.map Value.string).toArray 9) from by (repeat (first | exact new_plain wnA | with_reducible refine old_alloc ?_ | with_reducible refine old_drew ?_ | with_reducible refine old_set ?_ wnA | with_reducible refine old_ab (by assumption) ?_))]
    simp [hj]⟩, Nat.le_refl _, by omega, h1, h2⟩
/-- What Split returns. -/
def RetSp (w : World) (l : List UInt8) (e : Ending) (w' : World) : Prop := ∃ B d ps, e = .returned (.tuple #[.slice B ps.length d, .int .i64 (Ln.chk l : Nat)]) ∧ Ln.L ps = (if Ln.chk l = 0 then Ln.parts l else []) ∧ SM w' B d ps ∧ Ab w w'
theorem RetSp.mk {w w' : World} {l : List UInt8} {e : Ending} {k : Nat} (hk : Hid (Ln.chk l = k)) (B : Option Addr) (d : Nat) (ps : List ByteArray) (he : e = .returned (.tuple #[.slice B ps.length d, .int .i64 (k : Nat)])) (hL : Ln.L ps = (if k = 0 then Ln.parts l else [])) (h1 : SM w' B d ps) (h2 : Ab w w') : RetSp w l e w' := by
  have hk := hk.out
  subst hk
  exact ⟨B, d, ps, he, hL, h1, h2⟩
theorem split_any (A : Option Addr) (l : List UInt8) (c : Nat) (w : World) (hb : RB w 0 A l) (hc : l.length ≤ c) (ll : l.length ≤ 9223372036854775807) : Calls Tryd.prog 9 #[.slice A l.length c] w (RetSp w l) := by
  have C := fun w' (hk : Ab w w') => check_any A l c w' (hb.ab hk) hc ll
  by_cases h : Ln.chk l = 0
  · obtain ⟨hl, hn⟩ := Ln.chk_zero h
    have CS := fun w' (hk : Ab w w') => lnconv_str c (hb.ab hk)
    have S := fun w' => lnSplit_any ⟨l.toArray⟩ w' (show l.length ≤ _ by omega)
    have H := Lib.hid h
    rw [h] at C
    clear h
    go_enter Tryd.func9, Tryd.ntmps9
    go_wp2_with fail
    refine (C _ abA).mono ?_
    rintro e w1 ⟨rfl, hb1⟩
    have cs := CS w1 hb1
    go_wp2_with fail
    refine (S _).mono ?_
    rintro e w2 ⟨ps, hP, rfl, rfl⟩
    have HQ := Lib.hid hP
    clear hP
    go_wp2
    go_ret2
    refine RetSp.mk H _ _ ps rfl HQ.out ?_ abA
    have e1 := congrArg List.length HQ.out
    rw [List.length_map, Ln.parts_length] at e1
    refine sm_alloc _ ps (by omega) (fun p hp => ?_)
    have h1 : p.data.toList ∈ Ln.parts l := by rw [← HQ.out]; exact List.mem_map.2 ⟨p, hp, rfl⟩
    have h2 := Ln.parts_le _ _ h1
    have h3 : p.data.toList.length = p.size := by simp
    omega
  · obtain h4 := (Ln.chk_cases l).resolve_right h
    have H := Lib.hid h4
    rw [h4] at C
    clear h h4
    go_enter Tryd.func9, Tryd.ntmps9
    go_wp2_with fail
    refine (C _ abA).mono ?_
    rintro e w1 ⟨rfl, hb1⟩
    go_wp2
    go_ret2
    exact RetSp.mk H none 0 [] rfl rfl (SM.none (by omega)) abA
/-- What Join returns. -/
def RetJn (w : World) (L : List (List UInt8)) (e : Ending) (w' : World) : Prop := ∃ B d y, e = .returned (.tuple #[.slice B y.length d, .int .i64 (Ln.err L : Nat)]) ∧ y = (if Ln.err L = 0 then Ln.text L else []) ∧ RB w' 0 B y ∧ y.length ≤ d ∧ y.length ≤ 2000 ∧ Ab w w'
theorem RetJn.mk {w w' : World} {L : List (List UInt8)} {e : Ending} {k : Nat} (hk : Hid (Ln.err L = k)) (B : Option Addr) (d : Nat) (y : List UInt8) (he : e = .returned (.tuple #[.slice B y.length d, .int .i64 (k : Nat)])) (hL : y = (if k = 0 then Ln.text L else [])) (h1 : RB w' 0 B y) (h2 : y.length ≤ d) (h3 : y.length ≤ 2000) (h4 : Ab w w') : RetJn w L e w' := by
  have hk := hk.out
  subst hk
  exact ⟨B, d, y, he, hL, h1, h2, h3, h4⟩
theorem join_any (A : Option Addr) (c : Nat) (ps : List ByteArray) (w : World) (hp : SM w A c ps) : Calls Tryd.prog 11 #[.slice A ps.length c] w (RetJn w (Ln.L ps)) := by
  have C := fun w' (hk : Ab w w') => valid_any A c ps w' (hp.ab hk)
  by_cases h : Ln.err (Ln.L ps) = 0
  · obtain ⟨e1, e2, e3, e4⟩ := Ln.err_zero h
    have htl := Ln.text_len _ e3
    have hlen : 0 < ps.length := by
      cases ps with
      | nil => exact absurd rfl e3
      | cons x t => simp
    obtain ⟨g, o, rfl, hR⟩ := hp.r hlen
    have J := fun w' (hk : Ab w w') => Go.Proofs.Any.strings_Join Go.Proofs.Tryd.lays156 Go.Proofs.Tryd.Builder_Extra_156 g o c ps ⟨#[10]⟩ w' (fun j x hx => by
      obtain ⟨hj, rfl⟩ := List.getElem?_eq_some_iff.1 hx
      exact hk.at (hR j hj)) (by have := cell_lt (hk.at (hR 0 hlen)); exact this) (by have := hp.k; omega) hp.n (by show (Ln.text (Ln.L ps)).length ≤ _; omega)
    have J : ∀ w', Ab w w' → Calls Tryd.prog 25 #[.slice (some ⟨g, o, none⟩) ps.length c, .string ⟨#[10]⟩] w' fun e w2 => e = .returned (.string ⟨(Ln.text (Ln.L ps)).toArray⟩) ∧ Ab w' w2 := J
    have H := Lib.hid h
    rw [h] at C
    have hle : (Ln.text (Ln.L ps)).length ≤ 2000 := by omega
    clear hR e1 e2 e3 e4 htl hlen h hp
    obtain ⟨t, ht⟩ : ∃ t, t = Ln.text (Ln.L ps) := ⟨_, rfl⟩
    rw [← ht] at J hle
    have HT := Lib.hid ht
    clear ht
    go_enter Tryd.func11, Tryd.ntmps11
    go_wp2_with fail
    refine (C _ abA).mono ?_
    rintro e w1 ⟨rfl, hb1⟩
    go_wp2_with fail
    refine (J _ abA).mono ?_
    rintro e w2 ⟨rfl, hb2⟩
    have hcv := conv_bytes w2 t
    have hge := grownCap_ge w2 t.length 0 5
    have hb3 : RB (w2.drew.alloc (.cells (bytesRow ⟨t.toArray⟩ (grownCap w2 t.length 0 5)) 5 ((bytesRow ⟨t.toArray⟩ (grownCap w2 t.length 0 5)).size, (bytesRow ⟨t.toArray⟩ (grownCap w2 t.length 0 5)).size + 1))) 0 (some ⟨w2.heap.size, 0, none⟩) t := rb_row (by (repeat (first | exact new_plain wnA | with_reducible refine old_alloc ?_ | with_reducible refine old_drew ?_ | with_reducible refine old_set ?_ wnA | with_reducible refine old_ab (by assumption) ?_)))
    generalize grownCap w2 t.length 0 5 = cp at *
    have hcp : t.length ≤ cp := by omega
    go_wp2
    go_ret2
    exact RetJn.mk H _ _ t rfl HT.out hb3 hcp hle abA
  · have hz : ¬ (Ln.err (Ln.L ps) : Int) = 0 := by omega
    have HZ := Lib.hid h
    clear h
    obtain ⟨n, hn⟩ : ∃ n, Ln.err (Ln.L ps) = n := ⟨_, rfl⟩
    have H := Lib.hid hn
    rw [hn] at C hz HZ
    clear hn
    go_enter Tryd.func11, Tryd.ntmps11
    go_wp2_with fail
    refine (C _ abA).mono ?_
    rintro e w1 ⟨rfl, hb1⟩
    go_wp2
    go_ret2
    exact RetJn.mk H none 0 [] rfl (by rw [if_neg HZ.out]) RB.nil (Nat.le_refl _) (by simp) abA
end Go.Proofs.YtegnkmfdchljkaaDoor
