/- The examples of layer 3. Own work. -/
import Derived.Test.YtegdamjblljobaaFrScan
import Derived.Test.YtegdamjblljobaaFrAll
set_option linter.unusedVariables false
set_option linter.unusedSimpArgs false
namespace Go.Proofs.Ytegdamjblljobaa
open Go.RowKit

theorem letter_any (num : Int) (x : UInt8) (v : Int) (hv : v = (x.toNat : Int)) (w : World) :
    Calls Try.prog 14 #[.int .i64 num, .int .u8 v] w fun e w' => ∃ B, e = .returned (.agg #[.int .i64 num, .slice B 1 1]) ∧ RB w' 0 B [x] ∧ Ab w w' := by
  subst hv
  go_enter Try.func14, Try.ntmps14
  go_wp2
  refine bodyPost_ret (v := .agg #[.int .i64 num, .slice (some ⟨w.heap.size + 1, 0, none⟩) 1 1]) (by simp [results, Try.results14, go_sem]) rfl ?_
  exact ⟨_, rfl, RB.blk (T := 5) (fr := (0, 0)) (by (repeat (first | exact new_plain (by first | (simp; done) | omega | (simp; omega)) | with_reducible refine old_alloc ?_ | with_reducible refine old_drew ?_ | with_reducible refine old_set ?_ (by first | (simp; done) | omega | (simp; omega)) | with_reducible refine old_ab (by assumption) ?_))) (Nat.zero_le _), (by repeat (first | with_reducible exact Ab.refl _ | with_reducible assumption | with_reducible refine Ab.drew ?_ | with_reducible refine Ab.drewN ?_ _ | with_reducible refine Ab.alloc ?_ _ | with_reducible refine Ab.trans ?_ (by assumption) | with_reducible refine Ab.set ?_ (by first | (simp; done) | omega | (simp; omega)) _))⟩

theorem Recs.blk {w : World} {g : Nat} {xs : List RecM} {T : TypeId} {fr : Nat × Nat} (hg : w.heap[g]? = some (.cells (cellsOf xs).toArray T fr)) (hl : ∀ i (h : i < xs.length), Laid w 0 xs[i]) : Recs w 0 (some ⟨g, 0, none⟩) xs := by
  intro _
  refine ⟨_, rfl, Nat.zero_le _, fun i hi => ?_⟩
  obtain ⟨c0, c1⟩ := cellsOf_at xs i hi
  have e : ∀ j, (⟨g, 0, none⟩ : Addr).add j = ⟨g, j, none⟩ := fun j => by unfold Addr.add; split <;> simp_all
  rw [e, e]
  unfold World.cell?
  rw [hg]
  exact ⟨by simpa using c0, by simpa using c1, hl i hi⟩

set_option maxHeartbeats 800000 in
theorem lfound_any (A : Option Addr) (c : Nat) (xs : List RecM) (m : Nat) (l : List Frame.Rec) (u : Nat) (w : World) (h : Recs w 0 A xs) (hn : xs.length ≤ 100000) (hE : AllE (recs xs) (Frame.all (recs xs)) 0)
    (hm : m ≤ (Frame.all (recs xs)).length) (hs : Frame.IsScan ((Frame.all (recs xs)).take m) l u) :
    Calls Try.prog 13 #[.slice A xs.length c, .int .i64 (m : Int)] w fun e w' => e = .returned (.tuple #[.int .i64 (l.length : Int), .int .i64 (u : Int)]) ∧ Ab w w' := by
  have HE := Lib.hid hE
  have HS := Lib.hid hs
  have HM := Lib.hid hm
  clear hE hs hm
  go_enter Try.func13, Try.ntmps13
  go_wp2_with fail
  refine (all_any A c xs _ h hn).mono ?_
  rintro e w1 ⟨B, d, L, er, hL, rfl, o1, b1⟩
  obtain ⟨h1, rfl⟩ := AllE.unique hL.out HE.out
  have HL := Lib.hid h1
  have h20 : L.length ≤ 20000 := by
    rcases HE.out with ⟨_, _, h⟩ | ⟨_, _, _, h⟩ | ⟨_, h, _⟩
    · omega
    · omega
    · rw [h1]; exact h
  have hmL : m ≤ L.length := by rw [h1]; exact HM.out
  clear h1 hL
  have hi1 : (m : Int) ≤ (d : Int) := by have := o1.le; omega
  have hi2 : ¬ (L.length : Int) < (m : Int) := by omega
  have hi3 : (0 : Int) ≤ (m : Int) := by omega
  have hmd : m ≤ d := by have := o1.le; omega
  have hl : (L.take m).length = m := by simp; omega
  have S0 : ∀ w', Ab w1 w' → Calls Try.prog 11 #[.slice B m d] w' (fun e w'' => ∃ B' d' ys u er, Hid (ScanE (L.take m) (recs ys) u er) ∧ e = .returned (.tuple #[.slice B' ys.length d', .int .i64 u, .int .i64 er]) ∧
      OwnRecs w'.heap.size w'' B' d' ys ∧ Ab w' w'') := fun w' hw => by
    have := scan_any B (L.take m) d w' ((o1.rb.zero.ab hw).take m) (by rw [hl]; exact hmd) (by rw [hl]; omega)
    rw [hl] at this
    exact this
  clear hl hmd
  go_wp2_with fail
  refine (S0 _ (by repeat (first | with_reducible exact Ab.refl _ | with_reducible assumption | with_reducible refine Ab.drew ?_ | with_reducible refine Ab.drewN ?_ _ | with_reducible refine Ab.alloc ?_ _ | with_reducible refine Ab.trans ?_ (by assumption) | with_reducible refine Ab.set ?_ (by first | (simp; done) | omega | (simp; omega)) _))).mono ?_
  rintro e w2 ⟨B', d', ys, u', er', hS, rfl, o2, b2⟩
  have hS2 : ScanE (L.take m) l u 0 := .inr ⟨by simp; omega, rfl, u, rfl, by rw [HL.out]; exact HS.out⟩
  obtain ⟨e1, rfl, rfl⟩ := ScanE.unique hS.out hS2
  have hlen : Hid (ys.length = l.length) := Lib.hid (by rw [← e1, recs_length])
  clear e1 hS2 hS
  go_wp2
  go_ret2
  exact ⟨by first | rfl | (rw [hlen.out]; rfl), (by repeat (first | with_reducible exact Ab.refl _ | with_reducible assumption | with_reducible refine Ab.drew ?_ | with_reducible refine Ab.drewN ?_ _ | with_reducible refine Ab.alloc ?_ _ | with_reducible refine Ab.trans ?_ (by assumption) | with_reducible refine Ab.set ?_ (by first | (simp; done) | omega | (simp; omega)) _))⟩

def r1 : Frame.Rec := ⟨1, [97]⟩
def r2 : Frame.Rec := ⟨2, [98]⟩
def r3 : Frame.Rec := ⟨3, [98]⟩
theorem all2 (a b : Frame.Rec) : Frame.all [a, b] = Frame.enc a ++ Frame.enc b := by simp [Frame.all]
theorem alle2 (a b : Frame.Rec) (ha : Frame.Valid a) (hb : Frame.Valid b) (h1 : a.data.length = 1) (h2 : b.data.length = 1) : AllE [a, b] (Frame.all [a, b]) 0 := by
  refine .inr (.inr ⟨fun i hi => ?_, by rw [all2, List.length_append, Frame.enc_length, Frame.enc_length]; omega, rfl, rfl⟩)
  match i, hi with
  | 0, _ => exact ha
  | 1, _ => exact hb
theorem v1 : Frame.Valid r1 := by unfold Frame.Valid r1; simp
theorem v2 : Frame.Valid r2 := by unfold Frame.Valid r2; simp
theorem v3 : Frame.Valid r3 := by unfold Frame.Valid r3; simp
theorem foll12 : Frame.Foll [r1, r2] := by
  intro i hi
  match i, hi with
  | 0, _ => exact ⟨v1, fun h => absurd h (by omega)⟩
  | 1, _ => exact ⟨v2, fun _ => rfl⟩
theorem scan26 : Frame.IsScan ((Frame.all [r1, r2]).take 26) [r1, r2] 26 :=
  Frame.scan_torn foll12 26 2 (by simp) (by rw [all2, List.length_append, Frame.enc_length, Frame.enc_length]; simp [r1, r2]) (by rw [show [r1, r2].take 2 = [r1, r2] from rfl, all2, List.length_append, Frame.enc_length, Frame.enc_length]; simp [r1, r2]) (.inl rfl)
theorem scan25 : Frame.IsScan ((Frame.all [r1, r2]).take 25) [r1] 13 :=
  Frame.scan_torn foll12 25 1 (by simp) (by rw [all2, List.length_append, Frame.enc_length, Frame.enc_length]; simp [r1, r2]) (by rw [show [r1, r2].take 1 = [r1] from rfl, Frame.all_one, Frame.enc_length]; simp [r1]) (.inr (by rw [show [r1, r2].take (1 + 1) = [r1, r2] from rfl, all2, List.length_append, Frame.enc_length, Frame.enc_length]; simp [r1, r2]))
theorem foll1 (r : Frame.Rec) (h : Frame.Valid r) : Frame.Foll [r] := by
  intro i hi
  match i, hi with
  | 0, _ => exact ⟨h, fun h => absurd h (by omega)⟩
/-- Behind a comes b, whose number is not the next one. -/
theorem scan_gap (a b : Frame.Rec) (ha : Frame.Valid a) (hb : Frame.Valid b) (hn : b.num ≠ a.num + 1) (n : Nat) (hl : (Frame.all [a, b]).length = n) (m : Nat) (hm : (Frame.enc a).length = m) : Frame.IsScan ((Frame.all [a, b]).take n) [a] m := by
  rw [← hl, List.take_length, all2]
  refine ⟨foll1 a ha, by rw [Frame.all_one, hm], by rw [Frame.all_one]; exact List.prefix_append _ _, fun r hr h => ?_⟩
  rw [← hm, List.drop_left' rfl] at hr
  have e := Frame.pre_unique hr ⟨hb, List.prefix_refl _⟩
  subst e
  exact hn (h (by simp))
theorem scan13 : Frame.IsScan ((Frame.all [r1, r3]).take 26) [r1] 13 :=
  scan_gap r1 r3 v1 v3 (by decide) 26 (by rw [all2, List.length_append, Frame.enc_length, Frame.enc_length]; simp [r1, r3]) 13 (by rw [Frame.enc_length]; simp [r1])

set_option maxHeartbeats 1600000 in
theorem alive_true (w : World) : Calls Try.prog 15 #[] w (RetTrue w) := by
  go_enter Try.func15, Try.ntmps15
  go_wp2_with fail
  refine (letter_any 1 97 97 rfl _).mono ?_
  rintro e w1 ⟨B1, rfl, hB1, b1⟩
  go_wp2_with fail
  refine (encode_any 1 B1 [97] 1 _ hB1 (by simp)).mono ?_
  rintro e w2 ⟨A2, c2, L, er, hE, rfl, o2, b2⟩
  obtain ⟨h1, rfl⟩ := EncE.unique hE.out (show EncE ⟨1, [97]⟩ (Frame.enc ⟨1, [97]⟩) 0 from .inl ⟨v1, rfl, rfl⟩)
  have hlen : L.length = 13 := by rw [h1, Frame.enc_length]; rfl
  obtain ⟨g, rfl, _, _⟩ := o2.at_ (by omega)
  have k0 : L[0] = 1 := by subst h1; rfl
  have k4 : L[4] = 1 := by subst h1; rfl
  have k12 : L[12] = 97 := by subst h1; rfl
  have c0 := o2.cellAt (i := 0) (by omega)
  have c4 := o2.cellAt (i := 4) (by omega)
  have c12 := o2.cellAt (i := 12) (by omega)
  rw [k0] at c0
  rw [k4] at c4
  rw [k12] at c12
  change w2.cell? ⟨g, 0, none⟩ = some (.int .u8 1) at c0
  change w2.cell? ⟨g, 4, none⟩ = some (.int .u8 1) at c4
  change w2.cell? ⟨g, 12, none⟩ = some (.int .u8 97) at c12
  have bw2 : Ab w w2 := (by repeat (first | with_reducible exact Ab.refl _ | with_reducible assumption | with_reducible refine Ab.drew ?_ | with_reducible refine Ab.drewN ?_ _ | with_reducible refine Ab.alloc ?_ _ | with_reducible refine Ab.trans ?_ (by assumption) | with_reducible refine Ab.set ?_ (by first | (simp; done) | omega | (simp; omega)) _))
  clear k0 k4 k12 h1 hE o2 b1 b2
  go_wp2_with fail
  refine (letter_any 1 97 97 rfl _).mono ?_
  rintro e w3 ⟨Px1, rfl, hPx1, bpx1⟩
  go_wp2_with fail
  refine (letter_any 2 98 98 rfl _).mono ?_
  rintro e w4 ⟨Qx1, rfl, hQx1, bqx1⟩
  go_wp2_with fail
  refine (lfound_any (some ⟨w4.heap.size, 0, none⟩) 2 [⟨1, Px1, 1, [97]⟩, ⟨2, Qx1, 1, [98]⟩] 26 [r1, r2] 26 _ (Recs.blk (T := 27) (fr := (0, 0)) (by (repeat (first | exact new_plain (by first | (simp; done) | omega | (simp; omega)) | with_reducible refine old_alloc ?_ | with_reducible refine old_drew ?_ | with_reducible refine old_set ?_ (by first | (simp; done) | omega | (simp; omega)) | with_reducible refine old_ab (by assumption) ?_))) (fun i hi => match i, hi with
    | 0, _ => ⟨RB.ab hPx1 (by repeat (first | with_reducible exact Ab.refl _ | with_reducible assumption | with_reducible refine Ab.drew ?_ | with_reducible refine Ab.drewN ?_ _ | with_reducible refine Ab.alloc ?_ _ | with_reducible refine Ab.trans ?_ (by assumption) | with_reducible refine Ab.set ?_ (by first | (simp; done) | omega | (simp; omega)) _)), Nat.le_refl _, by simp⟩
    | 1, _ => ⟨RB.ab hQx1 (by repeat (first | with_reducible exact Ab.refl _ | with_reducible assumption | with_reducible refine Ab.drew ?_ | with_reducible refine Ab.drewN ?_ _ | with_reducible refine Ab.alloc ?_ _ | with_reducible refine Ab.trans ?_ (by assumption) | with_reducible refine Ab.set ?_ (by first | (simp; done) | omega | (simp; omega)) _)), Nat.le_refl _, by simp⟩)) (by simp) (alle2 r1 r2 v1 v2 rfl rfl) (by show _ ≤ (Frame.all [r1, r2]).length; rw [all2, List.length_append, Frame.enc_length, Frame.enc_length]; simp [r1, r2]) scan26).mono ?_
  rintro e wa ⟨rfl, bfx1⟩
  go_wp2_with fail
  refine (letter_any 1 97 97 rfl _).mono ?_
  rintro e w5 ⟨Px2, rfl, hPx2, bpx2⟩
  go_wp2_with fail
  refine (letter_any 3 98 98 rfl _).mono ?_
  rintro e w6 ⟨Qx2, rfl, hQx2, bqx2⟩
  go_wp2_with fail
  refine (lfound_any (some ⟨w6.heap.size, 0, none⟩) 2 [⟨1, Px2, 1, [97]⟩, ⟨3, Qx2, 1, [98]⟩] 26 [r1] 13 _ (Recs.blk (T := 27) (fr := (0, 0)) (by (repeat (first | exact new_plain (by first | (simp; done) | omega | (simp; omega)) | with_reducible refine old_alloc ?_ | with_reducible refine old_drew ?_ | with_reducible refine old_set ?_ (by first | (simp; done) | omega | (simp; omega)) | with_reducible refine old_ab (by assumption) ?_))) (fun i hi => match i, hi with
    | 0, _ => ⟨RB.ab hPx2 (by repeat (first | with_reducible exact Ab.refl _ | with_reducible assumption | with_reducible refine Ab.drew ?_ | with_reducible refine Ab.drewN ?_ _ | with_reducible refine Ab.alloc ?_ _ | with_reducible refine Ab.trans ?_ (by assumption) | with_reducible refine Ab.set ?_ (by first | (simp; done) | omega | (simp; omega)) _)), Nat.le_refl _, by simp⟩
    | 1, _ => ⟨RB.ab hQx2 (by repeat (first | with_reducible exact Ab.refl _ | with_reducible assumption | with_reducible refine Ab.drew ?_ | with_reducible refine Ab.drewN ?_ _ | with_reducible refine Ab.alloc ?_ _ | with_reducible refine Ab.trans ?_ (by assumption) | with_reducible refine Ab.set ?_ (by first | (simp; done) | omega | (simp; omega)) _)), Nat.le_refl _, by simp⟩)) (by simp) (alle2 r1 r3 v1 v3 rfl rfl) (by show _ ≤ (Frame.all [r1, r3]).length; rw [all2, List.length_append, Frame.enc_length, Frame.enc_length]; simp [r1, r3]) scan13).mono ?_
  rintro e wb ⟨rfl, bfx2⟩
  go_wp2_with fail
  refine (letter_any 1 97 97 rfl _).mono ?_
  rintro e w7 ⟨Px3, rfl, hPx3, bpx3⟩
  go_wp2_with fail
  refine (letter_any 2 98 98 rfl _).mono ?_
  rintro e w8 ⟨Qx3, rfl, hQx3, bqx3⟩
  go_wp2_with fail
  refine (lfound_any (some ⟨w8.heap.size, 0, none⟩) 2 [⟨1, Px3, 1, [97]⟩, ⟨2, Qx3, 1, [98]⟩] 25 [r1] 13 _ (Recs.blk (T := 27) (fr := (0, 0)) (by (repeat (first | exact new_plain (by first | (simp; done) | omega | (simp; omega)) | with_reducible refine old_alloc ?_ | with_reducible refine old_drew ?_ | with_reducible refine old_set ?_ (by first | (simp; done) | omega | (simp; omega)) | with_reducible refine old_ab (by assumption) ?_))) (fun i hi => match i, hi with
    | 0, _ => ⟨RB.ab hPx3 (by repeat (first | with_reducible exact Ab.refl _ | with_reducible assumption | with_reducible refine Ab.drew ?_ | with_reducible refine Ab.drewN ?_ _ | with_reducible refine Ab.alloc ?_ _ | with_reducible refine Ab.trans ?_ (by assumption) | with_reducible refine Ab.set ?_ (by first | (simp; done) | omega | (simp; omega)) _)), Nat.le_refl _, by simp⟩
    | 1, _ => ⟨RB.ab hQx3 (by repeat (first | with_reducible exact Ab.refl _ | with_reducible assumption | with_reducible refine Ab.drew ?_ | with_reducible refine Ab.drewN ?_ _ | with_reducible refine Ab.alloc ?_ _ | with_reducible refine Ab.trans ?_ (by assumption) | with_reducible refine Ab.set ?_ (by first | (simp; done) | omega | (simp; omega)) _)), Nat.le_refl _, by simp⟩)) (by simp) (alle2 r1 r2 v1 v2 rfl rfl) (by show _ ≤ (Frame.all [r1, r2]).length; rw [all2, List.length_append, Frame.enc_length, Frame.enc_length]; simp [r1, r2]) scan25).mono ?_
  rintro e wc ⟨rfl, bfx3⟩
  go_wp2_with fail
  go_wp2
  go_ret
  exact ⟨rfl, (by repeat (first | with_reducible exact Ab.refl _ | with_reducible assumption | with_reducible refine Ab.drew ?_ | with_reducible refine Ab.drewN ?_ _ | with_reducible refine Ab.alloc ?_ _ | with_reducible refine Ab.trans ?_ (by assumption) | with_reducible refine Ab.set ?_ (by first | (simp; done) | omega | (simp; omega)) _))⟩
end Go.Proofs.Ytegdamjblljobaa
