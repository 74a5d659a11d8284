/- FrameNames, walked. Own work. -/
import Derived.Test.YtegdamjblljobaaFrAlive
import Derived.Test.YtegdamjblljobaaMake
set_option linter.unusedVariables false
set_option linter.unusedSimpArgs false
namespace Go.Proofs.Ytegdamjblljobaa
open Go.RowKit

theorem size_n (num : Int) (B : Option Addr) (d : List UInt8) (n cd : Nat) (w : World) (hn : d.length = n) (r er : Int) (h : SizeE ⟨num, d⟩ r er) :
    Calls Try.prog 9 #[.agg #[.int .i64 num, .slice B n cd]] w fun e w' => e = .returned (.tuple #[.int .i64 r, .int .i64 er]) ∧ Ab w w' := by
  subst hn
  refine (size_any num B d cd w).mono ?_
  rintro e w' ⟨n, er', hS, rfl, hb⟩
  obtain ⟨rfl, rfl⟩ := SizeE.unique hS.out h
  exact ⟨rfl, hb⟩
theorem encode_n (num : Int) (B : Option Addr) (d : List UInt8) (n cd m : Nat) (w : World) (hn : d.length = n) (hd : RB w 0 B d) (hcd : n ≤ cd) (L : List UInt8) (er : Int) (h : EncE ⟨num, d⟩ L er) (hm : L.length = m) :
    Calls Try.prog 10 #[.agg #[.int .i64 num, .slice B n cd]] w fun e w' => ∃ A c, e = .returned (.tuple #[.slice A m c, .int .i64 er]) ∧ RB w' 0 A L ∧ m ≤ c ∧ Ab w w' := by
  subst hn
  refine (encode_any num B d cd w hd hcd).mono ?_
  rintro e w' ⟨A, c, L', er', hS, rfl, o, hb⟩
  obtain ⟨rfl, rfl⟩ := EncE.unique hS.out h
  rw [hm]
  exact ⟨A, c, rfl, o.rb.zero, by rw [← hm]; exact o.le, hb⟩
theorem scan_n (A : Option Addr) (b : List UInt8) (n c k : Nat) (w : World) (hn : b.length = n) (hb : RB w 0 A b) (hc : n ≤ c) (hl : n ≤ 1000000) (l : List Frame.Rec) (u er : Int) (h : ScanE b l u er) (hk : l.length = k) :
    Calls Try.prog 11 #[.slice A n c] w fun e w' => ∃ B d xs, Hid (recs xs = l) ∧ e = .returned (.tuple #[.slice B k d, .int .i64 u, .int .i64 er]) ∧ Recs w' 0 B xs ∧ Ab w w' := by
  subst hn
  refine (scan_any A b c w hb hc (by omega)).mono ?_
  rintro e w' ⟨B, d, xs, u', er', hS, rfl, o, hbw⟩
  obtain ⟨h1, rfl, rfl⟩ := ScanE.unique hS.out h
  have h2 : xs.length = k := by rw [← hk, ← h1, recs_length]
  rw [h2]
  exact ⟨B, d, xs, Lib.hid h1, rfl, o.recs.mono (Nat.zero_le _), hbw⟩
theorem all_n (A : Option Addr) (n c m : Nat) (xs : List RecM) (w : World) (hn : xs.length = n) (h : Recs w 0 A xs) (hl : n ≤ 100000) (L : List UInt8) (er : Int) (hE : AllE (recs xs) L er) (hm : L.length = m) :
    Calls Try.prog 12 #[.slice A n c] w fun e w' => ∃ B d, e = .returned (.tuple #[.slice B m d, .int .i64 er]) ∧ Ab w w' := by
  subst hn
  refine (all_any A c xs w h hl).mono ?_
  rintro e w' ⟨B, d, L', er', hS, rfl, o, hb⟩
  obtain ⟨rfl, rfl⟩ := AllE.unique hS.out hE
  rw [hm]
  exact ⟨B, d, rfl, hb⟩

theorem RB.raise {w : World} {lo g o : Nat} {l : List UInt8} (h : RB w 0 (some ⟨g, o, none⟩) l) (hg : lo ≤ g) : RB w lo (some ⟨g, o, none⟩) l := by
  intro hl
  obtain ⟨ad, h1, _, h3⟩ := h hl
  obtain rfl := Option.some.inj h1
  exact ⟨_, rfl, hg, h3⟩
def r0 : Frame.Rec := ⟨0, []⟩
theorem v0 : Frame.Valid r0 := by unfold Frame.Valid r0; simp
theorem scan12 : ScanE (Frame.enc r0) [r0] 12 0 := by
  refine .inr ⟨by rw [Frame.enc_length]; simp [r0], rfl, 12, rfl, foll1 r0 v0, by rw [Frame.all_one, Frame.enc_length]; rfl, by rw [Frame.all_one]; exact List.prefix_refl _, fun r hr => ?_⟩
  exact absurd hr (Frame.no_short (by rw [List.length_drop, Frame.enc_length]; simp [r0]) r)
theorem scan_none {b : List UInt8} (h : ∀ r, ¬ Frame.Pre r b) (hl : b.length ≤ 20000) : ScanE b [] 0 0 :=
  .inr ⟨hl, rfl, 0, rfl, Frame.foll_nil, rfl, List.nil_prefix, fun r hr => absurd hr (h r)⟩
theorem scan_nil : ScanE [] [] 0 0 := scan_none (fun r => Frame.no_short (by simp) r) (by simp)
theorem crc8 : Crc.sum (List.replicate 8 (0 : UInt8)) ≠ 0#32 := by decide +kernel
theorem scan24 {b : List UInt8} (hl : b.length = 24) (h0 : ∀ i (h : i < b.length), b[i] = 0) : ScanE b [] 0 0 := by
  obtain rfl : b = List.replicate 24 0 := List.eq_replicate_iff.2 ⟨hl, fun x hx => by
    obtain ⟨i, hi, rfl⟩ := List.getElem_of_mem hx
    exact h0 i hi⟩
  refine scan_none (fun r => Frame.no_sum ?_ r) (by simp)
  have e1 : Frame.rd (List.replicate 24 0) 8 = 0#32 := by decide +kernel
  have e2 : (Frame.rd (List.replicate 24 0) 0).toNat = 0 := by decide +kernel
  rw [e1, e2]
  exact fun h => crc8 h.symm
def r2a : Frame.Rec := ⟨2, [97]⟩
theorem v2a : Frame.Valid r2a := by unfold Frame.Valid r2a; simp
theorem scan_2 : Frame.IsScan ((Frame.all [r2a, r2]).take 26) [r2a] 13 :=
  scan_gap r2a r2 v2a v2 (by decide) 26 (by rw [all2, List.length_append, Frame.enc_length, Frame.enc_length]; simp [r2a, r2]) 13 (by rw [Frame.enc_length]; simp [r2a])

set_option maxRecDepth 100000 in
set_option maxHeartbeats 8000000 in
theorem names_walk (W : World) : Calls Try.prog 3 #[] W (RetTrue W) := by
  obtain ⟨Z1, l1, k1, _, m1, z1⟩ := make_bytes 1001 (by omega) 1001 rfl
  obtain ⟨Z2, l2, k2, _, m2, z2⟩ := make_bytes 1000 (by omega) 1000 rfl
  obtain ⟨Z3, l3, k3, _, m3, z3⟩ := make_bytes 20001 (by omega) 20001 rfl
  obtain ⟨Z4, l4, k4, _, m4, z4⟩ := make_bytes 988 (by omega) 988 rfl
  obtain ⟨Z5, l5, k5, f5, m5, z5⟩ := make_bytes 24 (by omega) 24 rfl
  go_enter Try.func3, Try.ntmps3
  go_wp2_with fail
  refine (size_n (-1) none [] 0 0 _ rfl 0 8 (.inr ⟨fun h => by have := h.1; simp at this, rfl, rfl⟩)).mono ?_
  rintro e w1 ⟨rfl, b1⟩
  go_wp2_with fail
  refine (size_n 1000000001 none [] 0 0 _ rfl 0 8 (.inr ⟨fun h => by have := h.2.1; simp at this, rfl, rfl⟩)).mono ?_
  rintro e w2 ⟨rfl, b2⟩
  go_wp2_with fail
  refine (encode_n 0 (some ⟨w2.heap.size, 0, none⟩) l1 1001 1001 0 _ k1.out (z1.out _ _ (0, 0) (by (repeat (first | exact new_plain (by first | (simp; done) | omega | (simp; omega)) | with_reducible refine old_alloc ?_ | with_reducible refine old_drew ?_ | with_reducible refine old_set ?_ (by first | (simp; done) | omega | (simp; omega)) | with_reducible refine old_ab (by assumption) ?_)))) (by omega) [] 8 (.inr ⟨fun h => by have := h.2.2; rw [k1.out] at this; omega, rfl, rfl⟩) rfl).mono ?_
  rintro e w3 ⟨A3, c3, rfl, _, _, b3⟩
  go_wp2_with fail
  refine (size_n 1000000000 (some ⟨w3.heap.size, 0, none⟩) l2 1000 1000 _ k2.out 1012 0 (.inl ⟨⟨by simp, by simp, by simp only; rw [k2.out]; omega⟩, by simp only; rw [k2.out]; rfl, rfl⟩)).mono ?_
  rintro e w4 ⟨rfl, b4⟩
  go_wp2_with fail
  refine (encode_n 0 none [] 0 0 12 _ rfl RB.nil (Nat.le_refl _) (Frame.enc r0) 0 (.inl ⟨v0, rfl, rfl⟩) (by rw [Frame.enc_length]; rfl)).mono ?_
  rintro e w5 ⟨A5, c5, rfl, h5, hc5, b5⟩
  go_wp2_with fail
  refine (scan_n A5 (Frame.enc r0) 12 c5 1 _ (by rw [Frame.enc_length]; rfl) h5 hc5 (by omega) [r0] 12 0 scan12 rfl).mono ?_
  rintro e w6 ⟨B6, d6, x6, hx6, rfl, h6, b6⟩
  clear h5
  go_wp2_with fail
  refine (scan_n none [] 0 0 0 _ rfl RB.nil (Nat.le_refl _) (by omega) [] 0 0 scan_nil rfl).mono ?_
  rintro e w7 ⟨B7, d7, x7, _, rfl, _, b7⟩
  go_wp2_with fail
  refine (scan_n (some ⟨w7.heap.size, 0, none⟩) l3 20001 20001 0 _ k3.out (z3.out _ _ (0, 0) (by (repeat (first | exact new_plain (by first | (simp; done) | omega | (simp; omega)) | with_reducible refine old_alloc ?_ | with_reducible refine old_drew ?_ | with_reducible refine old_set ?_ (by first | (simp; done) | omega | (simp; omega)) | with_reducible refine old_ab (by assumption) ?_)))) (Nat.le_refl _) (by omega) [] 0 4 (.inl ⟨by rw [k3.out]; omega, rfl, rfl, rfl⟩) rfl).mono ?_
  rintro e w8 ⟨B8, d8, x8, _, rfl, _, b8⟩
  go_wp2_with fail
  refine (all_n none 0 0 0 [] _ rfl Recs.nil (by omega) [] 0 (.inr (.inr ⟨fun i hi => absurd hi (by simp [recs]), by simp [recs, Frame.all], rfl, rfl⟩)) rfl).mono ?_
  rintro e w9 ⟨B9, d9, rfl, b9⟩
  go_wp2_with fail
  refine (all_n (some ⟨w9.heap.size, 0, none⟩) 2 2 0 [⟨0, none, 0, []⟩, ⟨-1, none, 0, []⟩] _ rfl (Recs.blk (T := 27) (fr := (0, 0)) (by (repeat (first | exact new_plain (by first | (simp; done) | omega | (simp; omega)) | with_reducible refine old_alloc ?_ | with_reducible refine old_drew ?_ | with_reducible refine old_set ?_ (by first | (simp; done) | omega | (simp; omega)) | with_reducible refine old_ab (by assumption) ?_))) (fun i hi => match i, hi with
    | 0, _ => ⟨RB.nil, Nat.le_refl _, by simp⟩
    | 1, _ => ⟨RB.nil, Nat.le_refl _, by simp⟩)) (by omega) [] 8 (.inl ⟨⟨1, by simp [recs], fun h => by have := h.1; simp [recs, RecM.r] at this⟩, rfl, rfl⟩) rfl).mono ?_
  rintro e w10 ⟨B10, d10, rfl, b10⟩
  have h10 : Recs w10 0 B6 x6 := h6.ab (by repeat (first | with_reducible exact Ab.refl _ | with_reducible assumption | with_reducible refine Ab.drew ?_ | with_reducible refine Ab.drewN ?_ _ | with_reducible refine Ab.alloc ?_ _ | with_reducible refine Ab.trans ?_ (by assumption) | with_reducible refine Ab.set ?_ (by first | (simp; done) | omega | (simp; omega)) _))
  have bW : Ab W w10 := (by repeat (first | with_reducible exact Ab.refl _ | with_reducible assumption | with_reducible refine Ab.drew ?_ | with_reducible refine Ab.drewN ?_ _ | with_reducible refine Ab.alloc ?_ _ | with_reducible refine Ab.trans ?_ (by assumption) | with_reducible refine Ab.set ?_ (by first | (simp; done) | omega | (simp; omega)) _))
  clear h6 b1 b2 b3 b4 b5 b6 b7 b8 b9 b10 m1 m2 m3 z1 z2 z3 k1 k2 k3
  go_wp2
  go_loopw [24, 25] (fun s i wr => ∃ (A : Option Addr) (c : Nat) (xs : List RecM), xs.length ≤ 20 ∧ i = .int .i64 (xs.length : Int) ∧ s = .slice A xs.length c ∧ Hid ((Frame.all (recs xs)).length = 1000 * xs.length) ∧ Hid (∀ i (h : i < xs.length), Frame.Valid xs[i].r) ∧
    OwnRecs w10.heap.size wr A c xs ∧ Ab w10 wr) (fun _ i _ => 20 - (intOf i).toNat)
  case atStart => exact ⟨none, 0, [], by simp, rfl, rfl, Lib.hid rfl, Lib.hid (fun i h => absurd h (by simp)), OwnRecs.nil, Ab.refl _⟩
  case round =>
    obtain ⟨A, c, xs, hk, rfl, rfl, hN, hV, ho, hb⟩ := hrel
    have hrg := ho.1.rng
    have hsz := hb.size
    have hrow : ∀ g, A.map (·.block) = some g → w10.heap.size ≤ g := fun g hg => by
      obtain ⟨a, ha, rfl⟩ := map_blk hg
      exact (hrg a ha).1
    by_cases hlt : xs.length < 20
    · have hxA : ∀ p q, A = some p → (some (⟨wr.heap.size, 0, none⟩ : Addr)) = some q → 0 < l4.length → q.block ≠ p.block := fun p q hp hq _ => by
        obtain rfl := Option.some.inj hq
        have := (hrg p hp).2
        simp only
        omega
      have hcl : Hid (l4.length = 988) := k4
      go_wp2_with ((at_builtin
                    refine listAppR (x := ⟨(xs.length : Int), some ⟨wr.heap.size, 0, none⟩, 988, l4⟩) (fr := (0, 0)) rfl _ _ rfl rfl rfl (ho.ab (by repeat (first | with_reducible exact Ab.refl _ | with_reducible assumption | with_reducible refine Ab.drew ?_ | with_reducible refine Ab.drewN ?_ _ | with_reducible refine Ab.alloc ?_ _ | with_reducible refine Ab.trans ?_ (by assumption) | with_reducible refine Ab.set ?_ (by first | (simp; done) | omega | (simp; omega)) _))) (by first | (simp; done) | omega | (simp; omega)) (by simp only; rw [hcl.out]; repeat (first | exact new_plain (by first | (simp; done) | omega | (simp; omega)) | exact new_drewN (by first | (simp; done) | omega | (simp; omega)) | exact new_drew (by first | (simp; done) | omega | (simp; omega)) | with_reducible refine old_alloc ?_ | with_reducible refine old_drew ?_ | with_reducible refine old_drewN ?_ _ | with_reducible refine old_ab (by assumption) ?_))
                      ⟨RB.raise (z4.out _ _ (0, 0) (by repeat (first | exact new_plain (by first | (simp; done) | omega | (simp; omega)) | exact new_drewN (by first | (simp; done) | omega | (simp; omega)) | exact new_drew (by first | (simp; done) | omega | (simp; omega)) | with_reducible refine old_alloc ?_ | with_reducible refine old_drew ?_ | with_reducible refine old_drewN ?_ _ | with_reducible refine old_ab (by assumption) ?_))) hsz, by simp only; rw [hcl.out]; omega, by simp only; rw [hcl.out]; omega⟩ hxA (by omega) ?_
                    intro g' c' w' ys hys hown hgr hgk
                    have hbZ : Ab w10 w' := grown_ab ((hb.alloc _).alloc _) hgr hrow))
      go_roundw
      case rel =>
        refine ⟨some ⟨g', 0, none⟩, c', ys, by rw [hys.out, List.length_append]; simp; omega, by rw [hys.out, List.length_append]; go_num, rfl, Lib.hid ?_, Lib.hid ?_, hown, hbZ⟩
        · rw [hys.out, recs_append, Frame.all_append, List.length_append, List.length_append, hN.out]
          show _ + (Frame.all [_]).length = _
          rw [Frame.all_one, Frame.enc_length]
          show 1000 * xs.length + (12 + l4.length) = _
          rw [hcl.out]; simp; omega
        · intro i hi
          have hyy := hys.out
          subst hyy
          rcases Nat.lt_or_ge i xs.length with h | h
          · rw [List.getElem_append_left h]; exact hV.out i h
          · rw [List.getElem_append_right h]
            simp only [List.length_append, List.length_singleton] at hi
            have : i - xs.length = 0 := by omega
            simp only [this, List.getElem_cons_zero]
            refine ⟨by simp [RecM.r], by simp [RecM.r]; omega, ?_⟩
            show l4.length ≤ 1000
            rw [hcl.out]; omega
      case measure => simp [intOf]; omega
    · have h20 : xs.length = 20 := by omega
      have hle : (Frame.all (recs xs)).length = 20000 := by rw [hN.out, h20]
      have hVr : ∀ i (h : i < (recs xs).length), Frame.Valid (recs xs)[i] := fun i hi => by
        rw [recs_length] at hi
        rw [recs_get _ _ hi]; exact hV.out i hi
      have HLE := Lib.hid hle
      have HVR := Lib.hid hVr
      have H20 := Lib.hid h20
      have h19 : (20 : Int) ≤ (xs.length : Int) := by omega
      clear hle hVr h20 hN hV
      go_wp2_with fail
      refine (all_n A xs.length c 20000 xs _ rfl (ho.recs.mono (Nat.zero_le _)) (by omega) (Frame.all (recs xs)) 0 (.inr (.inr ⟨HVR.out, by rw [HLE.out]; omega, rfl, rfl⟩)) HLE.out).mono ?_
      rintro e w11 ⟨B11, d11, rfl, b11⟩
      have hrg11 := hrg
      have ho11 := ho.ab b11
      have hsz11 := b11.size
      have bz11 : Ab w10 w11 := hb.trans b11
      go_wp2_with ((at_builtin
                    refine listAppR (x := ⟨0, none, 0, []⟩) (fr := (0, 0)) rfl _ _ rfl rfl rfl (ho11.ab (by repeat (first | with_reducible exact Ab.refl _ | with_reducible assumption | with_reducible refine Ab.drew ?_ | with_reducible refine Ab.drewN ?_ _ | with_reducible refine Ab.alloc ?_ _ | with_reducible refine Ab.trans ?_ (by assumption) | with_reducible refine Ab.set ?_ (by first | (simp; done) | omega | (simp; omega)) _))) (by first | (simp; done) | omega | (simp; omega)) (by repeat (first | exact new_plain (by first | (simp; done) | omega | (simp; omega)) | exact new_drewN (by first | (simp; done) | omega | (simp; omega)) | exact new_drew (by first | (simp; done) | omega | (simp; omega)) | with_reducible refine old_alloc ?_ | with_reducible refine old_drew ?_ | with_reducible refine old_drewN ?_ _ | with_reducible refine old_ab (by assumption) ?_)) ⟨RB.nil, Nat.le_refl _, by simp⟩ (fun p q hp hq _ => by cases hq) (by omega) ?_
                    intro g' c' w12 ys hys hown hgr hgk
                    have hbZ : Ab w10 w12 := grown_ab (bz11.alloc _) hgr hrow))
      have HY20 : Hid (20000 < (Frame.all (recs ys)).length) := Lib.hid (by
        rw [hys.out, recs_append, Frame.all_append, List.length_append, HLE.out]
        show 20000 < 20000 + (Frame.all [_]).length
        rw [Frame.all_one, Frame.enc_length]; omega)
      have HYV : Hid (∀ i (h : i < (recs ys).length), Frame.Valid (recs ys)[i]) := Lib.hid (by
        intro i hi
        rw [recs_length] at hi
        rw [recs_get _ _ hi]
        have hyy := hys.out
        subst hyy
        rcases Nat.lt_or_ge i xs.length with h | h
        · rw [List.getElem_append_left h]
          have := HVR.out i (by rw [recs_length]; exact h)
          rwa [recs_get _ _ h] at this
        · rw [List.getElem_append_right h]
          simp only [List.length_append, List.length_singleton] at hi
          have : i - xs.length = 0 := by omega
          simp only [this, List.getElem_cons_zero]
          exact v0)
      have hyl : ys.length ≤ 21 := by rw [hys.out, List.length_append]; simp; omega
      refine (all_n (some ⟨g', 0, none⟩) ys.length c' 0 ys _ rfl (hown.recs.mono (Nat.zero_le _)) (by omega) [] 4 (.inr (.inl ⟨HYV.out, HY20.out, rfl, rfl⟩)) rfl).mono ?_
      rintro e w13 ⟨B13, d13, rfl, b13⟩
      have b1013 : Ab w10 w13 := hbZ.trans b13
      clear hown hgr hgk ho ho11 hb b11 b13 hbZ bz11 m4 z4 hrow hrg hrg11
      go_wp2_with fail
      refine (scan_n (some ⟨w13.heap.size, 0, none⟩) l5 24 24 0 _ k5.out (z5.out _ _ (0, 0) (by (repeat (first | exact new_plain (by first | (simp; done) | omega | (simp; omega)) | with_reducible refine old_alloc ?_ | with_reducible refine old_drew ?_ | with_reducible refine old_set ?_ (by first | (simp; done) | omega | (simp; omega)) | with_reducible refine old_ab (by assumption) ?_)))) (Nat.le_refl _) (by omega) [] 0 0 (scan24 k5.out f5.out) rfl).mono ?_
      rintro e w14 ⟨B14, d14, x14, _, rfl, _, b14⟩
      have b1014 : Ab w10 w14 := (by repeat (first | with_reducible exact Ab.refl _ | with_reducible assumption | with_reducible refine Ab.drew ?_ | with_reducible refine Ab.drewN ?_ _ | with_reducible refine Ab.alloc ?_ _ | with_reducible refine Ab.trans ?_ (by assumption) | with_reducible refine Ab.set ?_ (by first | (simp; done) | omega | (simp; omega)) _))
      clear b1013 b14 m5 z5
      go_wp2_with fail
      refine (letter_any 2 97 97 rfl _).mono ?_
      rintro e w15 ⟨Px, rfl, hPx, bpx⟩
      go_wp2_with fail
      refine (letter_any 2 98 98 rfl _).mono ?_
      rintro e w16 ⟨Qx, rfl, hQx, bqx⟩
      go_wp2_with fail
      refine (lfound_any (some ⟨w16.heap.size, 0, none⟩) 2 [⟨2, Px, 1, [97]⟩, ⟨2, Qx, 1, [98]⟩] 26 [r2a] 13 _ (Recs.blk (T := 27) (fr := (0, 0)) (by (repeat (first | exact new_plain (by first | (simp; done) | omega | (simp; omega)) | with_reducible refine old_alloc ?_ | with_reducible refine old_drew ?_ | with_reducible refine old_set ?_ (by first | (simp; done) | omega | (simp; omega)) | with_reducible refine old_ab (by assumption) ?_))) (fun i hi => match i, hi with
        | 0, _ => ⟨RB.ab hPx (by repeat (first | with_reducible exact Ab.refl _ | with_reducible assumption | with_reducible refine Ab.drew ?_ | with_reducible refine Ab.drewN ?_ _ | with_reducible refine Ab.alloc ?_ _ | with_reducible refine Ab.trans ?_ (by assumption) | with_reducible refine Ab.set ?_ (by first | (simp; done) | omega | (simp; omega)) _)), Nat.le_refl _, by simp⟩
        | 1, _ => ⟨RB.ab hQx (by repeat (first | with_reducible exact Ab.refl _ | with_reducible assumption | with_reducible refine Ab.drew ?_ | with_reducible refine Ab.drewN ?_ _ | with_reducible refine Ab.alloc ?_ _ | with_reducible refine Ab.trans ?_ (by assumption) | with_reducible refine Ab.set ?_ (by first | (simp; done) | omega | (simp; omega)) _)), Nat.le_refl _, by simp⟩)) (by simp) (alle2 r2a r2 v2a v2 rfl rfl) (by show _ ≤ (Frame.all [r2a, r2]).length; rw [all2, List.length_append, Frame.enc_length, Frame.enc_length]; simp [r2a, r2]) scan_2).mono ?_
      rintro e w17 ⟨rfl, bfx⟩
      have b1017 : Ab w10 w17 := (by repeat (first | with_reducible exact Ab.refl _ | with_reducible assumption | with_reducible refine Ab.drew ?_ | with_reducible refine Ab.drewN ?_ _ | with_reducible refine Ab.alloc ?_ _ | with_reducible refine Ab.trans ?_ (by assumption) | with_reducible refine Ab.set ?_ (by first | (simp; done) | omega | (simp; omega)) _))
      obtain ⟨y, rfl⟩ : ∃ y, x6 = [y] := by
        have := congrArg List.length hx6.out
        rw [recs_length] at this
        exact List.length_eq_one_iff.1 this
      have hy : y.r = r0 := by simpa [recs] using hx6.out
      have hyn : y.num = 0 := congrArg Frame.Rec.num hy
      have hyb : y.b.length = 0 := by rw [show y.b = [] from congrArg Frame.Rec.data hy]; rfl
      obtain ⟨a, rfl, _, c0, c1, _⟩ := (h10.ab b1017).at_ (k := 0) (by simp)
      simp only [List.getElem_cons_zero, hyn, hyb] at c0 c1
      have d0 : w17.cell? a = some (.int .i64 0) := c0
      have d1 : w17.cell? ⟨a.block, a.off + 1, none⟩ = some (.slice y.A 0 y.c) := c1
      have bWf : Ab W w17 := bW.trans b1017
      clear c0 c1 hyn hyb hy hx6 h10 b1017 b1014
      go_wp2_with fail
      refine (alive_true _).mono ?_
      rintro e wz ⟨rfl, hbz⟩
      go_wp2
      go_ret
      exact ⟨rfl, (by repeat (first | with_reducible exact Ab.refl _ | with_reducible assumption | with_reducible refine Ab.drew ?_ | with_reducible refine Ab.drewN ?_ _ | with_reducible refine Ab.alloc ?_ _ | with_reducible refine Ab.trans ?_ (by assumption) | with_reducible refine Ab.set ?_ (by first | (simp; done) | omega | (simp; omega)) _))⟩
end Go.Proofs.Ytegdamjblljobaa
