/- What DeltaNames makes: rows of parts, parts of a row. Own work. -/
import Derived.Test.YtjgijpfknhfnjaaDlNm
import Derived.Test.YtjgijpfknhfnjaaDlAlive
import Derived.Test.YtjgijpfknhfnjaaDlEnc
import Derived.Test.YtjgijpfknhfnjaaDlDecB
import Derived.Test.YtjgijpfknhfnjaaCvTry
set_option linter.unusedVariables false
set_option linter.unusedSimpArgs false
namespace Go.Proofs.Ytjgijpfknhfnjaa
open Go.RowKit

/-- s[k:k+1] of nine parts. -/
theorem run_one (b k : Nat) (w : World) (h : k < 9) :
    (Instr.slice 25 (.slice (some ⟨b, 0, none⟩) 9 9) (some (.int .i64 (k : Int))) (some (.int .i64 ((k : Int) + 1))) none).run Try.prog w = .ok (.slice (some ⟨b, k * 3, none⟩) 1 (9 - k)) w := by
  have hu : Try.prog.underlying 25 = some (.slice (Try.prog.elem 25)) := by kernel_rfl
  obtain ⟨i0, hi0, _, hz1, _⟩ := info_parts infoPt
  have he : Try.prog.elem 25 = 24 := by kernel_rfl
  rw [run_slice_lh w 25 (some ⟨b, 0, none⟩) 9 9 hu .i64 .i64 (k : Int) ((k : Int) + 1) (by omega) (by omega) (by omega), he]
  simp only [sizeOf, typeInfo, sliced, Int.toNat_natCast, Sem.run_bind, Sem.run_pure]
  have hne : ¬ 9 = k := by omega
  have e1 : ((k : Int) + 1).toNat = k + 1 := by omega
  rw [e1]
  simp [hi0, hz1, hne, Addr.add]
  intro h0
  omega
/-- What make([]api.DeltaPart, n) lays. -/
theorem pcells_zero (n : Nat) : ∀ i, i < n * 3 → (pcells (List.replicate n PM.zero))[i]? = some (match i % 3 with | 2 => .slice none 0 0 | _ => .int .i64 0) := by
  intro i hi
  have hr : i % 3 < 3 := Nat.mod_lt _ (by omega)
  have := pcells_at (List.replicate n PM.zero) (i / 3) (by simp; omega) (i % 3) (match i % 3 with | 2 => .slice none 0 0 | _ => .int .i64 0) (by
    simp only [List.getElem_replicate]
    generalize i % 3 = r at *
    match r, hr with
    | 0, _ => rfl
    | 1, _ => rfl
    | 2, _ => rfl)
  rw [show i / 3 * 3 + i % 3 = i by omega] at this
  exact this
theorem pcells_len (xs : List PM) : (pcells xs).length = xs.length * 3 := by
  induction xs with
  | nil => rfl
  | cons x xs ih =>
    have e : pcells (x :: xs) = x.cells ++ pcells xs := by simp [pcells]
    rw [e, List.length_append, ih, PM.len, List.length_cons]; omega
theorem make_parts (n : Nat) (hn : n ≤ 100000) (v : Int) (hv : v = (n : Int)) : ∃ Z : Array Value,
    (∀ w : World, (Instr.makeSlice 25 (.int .i64 v) (.int .i64 v)).run Try.prog w = .ok (.slice (some ⟨w.heap.size, 0, none⟩) n n) (w.alloc (.cells Z 24))) ∧
    Hid (∀ (w : World) (g : Nat), w.heap[g]? = some (.cells Z 24 (0, 0)) → VB w g (pcells (List.replicate n PM.zero))) := by
  subst hv
  have hi8 : (Try.prog.info? 24).map (fun i => (i.zero, i.size, i.bytes)) = some (some (.agg #[.int .i64 0, .int .i64 0, .slice none 0 0]), 3, 40) := by kernel_rfl
  obtain ⟨i0, hi, hz, hs, hb⟩ := info_parts hi8
  refine ⟨madeCells (Value.agg #[.int .i64 0, .int .i64 0, .slice none 0 0]).cells (n * 3), fun w => ?_, ?_⟩
  · have := run_makeSlice (P := Try.prog) w 25 24 i0 _ Try.underlying25 hi hz .i64 .i64 n n (by omega) (Int.le_refl _) (by rw [hs]; simp; omega) (by rw [hb]; omega) (by omega)
    rw [hs, Int.toNat_natCast] at this
    exact this
  · unfold Hid
    intro w g hg
    have h0 := VB.box hg
    have e : (madeCells (Value.agg #[.int .i64 0, .int .i64 0, .slice none 0 0]).cells (n * 3)).toList = pcells (List.replicate n PM.zero) := by
      apply List.ext_getElem?
      intro i
      by_cases hi : i < n * 3
      · rw [pcells_zero n i hi, Array.getElem?_toList]
        unfold madeCells
        rw [Array.getElem?_map, Array.getElem?_eq_getElem (by simpa using hi)]
        have hr : i % 3 < 3 := Nat.mod_lt _ (by omega)
        simp only [Option.map_some, Array.getElem_range]
        show some ((#[Value.int .i64 0, .int .i64 0, .slice none 0 0] : Array Value)[i % 3]!) = _
        generalize i % 3 = r at *
        match r, hr with
        | 0, _ => rfl
        | 1, _ => rfl
        | 2, _ => rfl
      · rw [List.getElem?_eq_none (by rw [Array.length_toList, size_madeCells]; omega), List.getElem?_eq_none (by rw [pcells_len]; simp; omega)]
    rw [e] at h0
    exact h0
/-- A row of parts that lies in a block is a list of parts. -/
theorem pts_row {w : World} {g k c : Nat} (xs : List PM) (h : w.rangeAt g k (pcells xs)) (hp : ∀ x ∈ xs, PL w x) (hc : xs.length ≤ c) (hn : xs.length ≤ 9223372036854775807) : Pts w (some ⟨g, k, none⟩) c xs :=
  ⟨fun _ => ⟨g, k, rfl, fun i hi j v hv => by have := h _ v (pcells_at xs i hi j v hv); rw [Nat.add_assoc]; exact this⟩, hp, hc, hn⟩
theorem pts_no (w : World) (c : Nat) : Pts w none c [] := ⟨fun h => absurd h (by simp), fun x hx => absurd hx (by simp), Nat.zero_le _, by simp⟩
theorem pl_copy (w : World) {p n : Int} (h0 : -9223372036854775808 ≤ p) (h1 : p ≤ 9223372036854775807) (h2 : -9223372036854775808 ≤ n) (h3 : n ≤ 9223372036854775807) : PL w ⟨p, n, none, [], 0⟩ := ⟨(RS.nil (S := fun _ => True)).rb, by simp, by simp, h0, h1, h2, h3⟩
theorem pl_data {w : World} {p n : Int} {A : Option Addr} {b : List UInt8} {c : Nat} (h : RB w 0 A b) (hc : b.length ≤ c) (hl : b.length ≤ 100000) (h0 : -9223372036854775808 ≤ p) (h1 : p ≤ 9223372036854775807) (h2 : -9223372036854775808 ≤ n) (h3 : n ≤ 9223372036854775807) : PL w ⟨p, n, A, b, c⟩ := ⟨h, hc, by show b.length ≤ _; omega, h0, h1, h2, h3⟩
theorem lit_at {w : World} {g : Nat} {cs : Array Value} {fr : Nat × Nat} (l : List UInt8) (hg : w.heap[g]? = some (.cells cs 5 fr)) (h : cs = (l.map cb).toArray) : RB w 0 (some ⟨g, 0, none⟩) l := by
  intro hl
  refine ⟨_, rfl, Nat.zero_le _, fun i hi => ?_⟩
  have e : (⟨g, 0, none⟩ : Addr).add i = ⟨g, i, none⟩ := by unfold Addr.add; split <;> simp_all
  rw [e]
  unfold World.cell?
  rw [hg]
  subst h
  simp [hi, Value.cells, cb]
theorem apply_n (g n : Nat) (l : List UInt8) (hl : l.length = n) (hn : n ≤ 100000) (A : Option Addr) (c q : Nat) (xs : List PM) (w : World) (hb : RB w 0 (some ⟨g, 0, none⟩) l) (h : Pts w A c xs) (hq : xs.length = q) (m : List UInt8 × Int) (hm : Dl.apply l (xs.map PM.d) = m) :
    Calls Try.prog 11 #[.slice (some ⟨g, 0, none⟩) n n, .slice A q c] w (RetAp w m) := by
  subst hl hm hq
  exact dapply_any _ _ _ _ _ _ _ hb (Nat.le_refl _) (by omega) h
theorem make_n (A D : Option Addr) (s T : List UInt8) (n m : Nat) (w : World) (hM : MaxL w) (hs : RB w 0 A s) (ht : RB w 0 D T) (hn : s.length = n) (hm : T.length = m) (h1 : n ≤ 100000) (h2 : m ≤ 100000) (hA : A = none → n = 0) :
    Calls Try.prog 13 #[.slice A n n, .slice D m m] w (RetMk s T w) := by
  subst hn hm
  exact make_any A D _ _ s T w hM hs ht (Nat.le_refl _) (Nat.le_refl _) hA (by omega) (by omega)
theorem decode_n (g n : Nat) (l : List UInt8) (hl : l.length = n) (hn : n ≤ 100000) (w : World) (hb : RB w 0 (some ⟨g, 0, none⟩) l) (q : Nat) (er : Int) (hm : Dl.decode l = ([], er)) (hq : q = 0) :
    Calls Try.prog 15 #[.slice (some ⟨g, 0, none⟩) n n] w fun e w' => ∃ (P : Option Addr) (cp : Nat), e = .returned (.tuple #[.slice P 0 cp, .int .i64 er]) ∧ Ab w w' := by
  subst hl
  refine (ddecode_any _ _ _ _ hb (Nat.le_refl _) (by omega)).mono ?_
  rintro e w' ⟨P, cp, ps, e2, rfl, hd, _, hb'⟩
  rw [hm] at hd
  obtain ⟨h1, rfl⟩ := Prod.mk.inj hd.out
  have h2 : ps = [] := by
    cases ps with
    | nil => rfl
    | cons x t => cases h1
  subst h2
  exact ⟨P, cp, rfl, hb'⟩
theorem check_n (A : Option Addr) (c q : Nat) (xs : List PM) (n v : Int) (w : World) (h : Pts w A c xs) (hq : xs.length = q) (hv : Dl.check (xs.map PM.d) n = v) : Calls Try.prog 12 #[.slice A q c, .int .i64 n] w fun e w' => e = .returned (.int .i64 v) ∧ Ab w w' := by
  subst hq hv
  exact dcheck_any A c xs n w h
theorem one_cost (A : Option Addr) (c : Nat) (x : PM) (w : World) (h : Pts w A c [x]) (hv : Dl.valid [x.d] = 8) : Calls Try.prog 9 #[.slice A 1 c] w fun e w' => e = .returned (.tuple #[.int .i64 0, .int .i64 8]) ∧ Ab w w' := by
  have := cost_any A c [x] w h
  rw [show [x].map PM.d = [x.d] from rfl, Dl.bad_cost hv] at this
  exact this
theorem enc_n (A : Option Addr) (c n : Nat) (xs : List PM) (w : World) (h : Pts w A c xs) (hn : xs.length = n) (er : Int) (hv : Dl.encode (xs.map PM.d) = ([], er)) : Calls Try.prog 10 #[.slice A n c] w fun e w' => ∃ (B : Option Addr) (d : Nat), e = .returned (.tuple #[.slice B 0 d, .int .i64 er]) ∧ Ab w w' := by
  subst hn
  refine (dencode_any A c xs w h).mono ?_
  rintro e w' ⟨B, d, L, e2, rfl, he, _, hb⟩
  rw [hv] at he
  obtain ⟨rfl, rfl⟩ := Prod.mk.inj he.out
  exact ⟨B, d, rfl, hb⟩
theorem pts_lit {w : World} {g : Nat} {cs : Array Value} (xs : List PM) (hg : w.heap[g]? = some (.cells cs 24 (0, 0))) (h : cs = (pcells xs).toArray) (hp : ∀ x ∈ xs, PL w x) (hn : xs.length ≤ 1000) : Pts w (some ⟨g, 0, none⟩) xs.length xs := by
  have hv := VB.box hg
  rw [h] at hv
  exact pts_row xs hv.range hp (Nat.le_refl _) (by omega)
theorem pts_zero {w : World} {g : Nat} (n : Nat) (hn : n ≤ 1000) (h : VB w g (pcells (List.replicate n PM.zero))) : Pts w (some ⟨g, 0, none⟩) n (List.replicate n PM.zero) :=
  pts_row _ h.range (fun x hx => by obtain rfl := List.eq_of_mem_replicate hx; exact pl_copy _ (by omega) (by omega) (by omega) (by omega)) (Nat.le_of_eq List.length_replicate) (by rw [List.length_replicate]; omega)
theorem rb_no (w : World) : RB w 0 none [] := fun h => absurd h (by simp)
theorem mk_great {s T : List UInt8} {er : Int} {ps : List PM} (hr : Hid (if 300 < s.length ∨ 300 < T.length then er = 4 ∧ ps = [] else er = 0 ∧ ∃ (f : Nat → Int) (gf : Nat → Nat), Dl.Tab s T f gf 0 ∧ Dl.Mk s T f gf 0 (ps.map PM.d))) (h : 300 < s.length ∨ 300 < T.length) : er = 4 ∧ ps = [] := by
  have := hr.out
  rw [if_pos h] at this
  exact this
theorem mk_small {s T : List UInt8} {er : Int} {ps : List PM} (hr : Hid (if 300 < s.length ∨ 300 < T.length then er = 4 ∧ ps = [] else er = 0 ∧ ∃ (f : Nat → Int) (gf : Nat → Nat), Dl.Tab s T f gf 0 ∧ Dl.Mk s T f gf 0 (ps.map PM.d))) (h : ¬ (300 < s.length ∨ 300 < T.length)) (l : List Dl.Part) (hl : ∀ F G l', Dl.Tab s T F G 0 → Dl.Mk s T F G 0 l' → l' = l) : er = 0 ∧ ps.map PM.d = l := by
  have := hr.out
  rw [if_neg h] at this
  obtain ⟨h1, f, g, h2, h3⟩ := this
  exact ⟨h1, hl f g _ h2 h3⟩
theorem same_n (A B : Option Addr) (c d n : Nat) (x : List UInt8) (w : World) (hx : RB w 0 A x) (hy : RB w 0 B x) (hn : x.length = n) (hl : n ≤ 100000) :
    Calls Try.prog 16 #[.slice A x.length c, .slice B n d] w fun e w' => e = .returned (.bool true) ∧ Ab w w' := by
  subst hn
  exact (sameBytes_all A B c d x x w hx hy (by omega) (by omega)).mono fun e w' h => ⟨by rw [h.1, beq_self_eq_true], by obtain ⟨_, n, rfl⟩ := h; exact abA⟩
theorem dsame_n (A B : Option Addr) (c d n : Nat) (xs ys : List PM) (w : World) (h : Pts w A c xs) (k : Pts w B d ys) (hn : ys.length = n) (he : xs.map PM.d = ys.map PM.d) :
    Calls Try.prog 14 #[.slice A xs.length c, .slice B n d] w (RetTrue w) := by
  subst hn
  exact dsame_any A B c d xs ys w h k he
theorem enc_r (A : Option Addr) (c n : Nat) (xs : List PM) (w : World) (h : Pts w A c xs) (hn : xs.length = n) : Calls Try.prog 10 #[.slice A n c] w (RetEd w (xs.map PM.d)) := by
  subst hn
  exact dencode_any A c xs w h
theorem zeros_eq {l : List UInt8} {n : Nat} (h : l.length = n) (h0 : ∀ i (h : i < l.length), l[i] = 0) : l = Dl.z n := by
  unfold Dl.z
  exact List.eq_replicate_iff.2 ⟨h, fun b hb => by obtain ⟨i, hi, rfl⟩ := List.getElem_of_mem hb; exact h0 i hi⟩
end Go.Proofs.Ytjgijpfknhfnjaa
