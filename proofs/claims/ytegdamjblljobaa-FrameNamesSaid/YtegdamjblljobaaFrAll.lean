/- All, walked. Own work. -/
import Derived.Test.YtegdamjblljobaaFrSize
import Derived.Deep.DeepCutAuto
set_option linter.unusedVariables false
set_option linter.unusedSimpArgs false
namespace Go.Proofs.Ytegdamjblljobaa
open Go.RowKit

def AllE (l : List Frame.Rec) (L : List UInt8) (er : Int) : Prop :=
  ((∃ i, ∃ h : i < l.length, ¬ Frame.Valid l[i]) ∧ L = [] ∧ er = 8) ∨
  ((∀ i (h : i < l.length), Frame.Valid l[i]) ∧ 20000 < (Frame.all l).length ∧ L = [] ∧ er = 4) ∨
  ((∀ i (h : i < l.length), Frame.Valid l[i]) ∧ (Frame.all l).length ≤ 20000 ∧ L = Frame.all l ∧ er = 0)
theorem AllE.unique {l : List Frame.Rec} {L M : List UInt8} {e f : Int} (h : AllE l L e) (k : AllE l M f) : L = M ∧ e = f := by
  rcases h with ⟨⟨i, hi, h⟩, h1, h2⟩ | ⟨h, h', h1, h2⟩ | ⟨h, h', h1, h2⟩ <;> rcases k with ⟨⟨j, hj, k⟩, k1, k2⟩ | ⟨k, k', k1, k2⟩ | ⟨k, k', k1, k2⟩ <;>
    first | exact absurd (k i hi) h | exact absurd (h j hj) k | omega | (subst h1 h2 k1 k2; exact ⟨rfl, rfl⟩)
theorem all_le (l : List Frame.Rec) (h : ∀ i (h : i < l.length), Frame.Valid l[i]) : (Frame.all l).length ≤ 1012 * l.length := by
  induction l with
  | nil => simp [Frame.all_nil]
  | cons r l ih =>
    have h0 := (h 0 (by simp)).2.2
    have h1 := ih (fun i hi => h (i + 1) (by simpa using hi))
    rw [Frame.all_cons, List.length_append, Frame.enc_length, List.length_cons]
    simp only [List.getElem_cons_zero] at h0
    omega

theorem take_len (xs : List RecM) (k : Nat) (h : k < xs.length) : (Frame.all (recs (xs.take (k + 1)))).length = (Frame.all (recs (xs.take k))).length + (12 + xs[k].b.length) := by
  rw [List.take_succ_eq_append_getElem h, recs_append, Frame.all_append, List.length_append]
  congr 1
  show (Frame.all [xs[k].r]).length = _
  rw [Frame.all_one, Frame.enc_length]; rfl
theorem take_enc (xs : List RecM) (k : Nat) (h : k < xs.length) : Frame.all (recs (xs.take (k + 1))) = Frame.all (recs (xs.take k)) ++ Frame.enc ⟨xs[k].num, xs[k].b⟩ := by
  rw [List.take_succ_eq_append_getElem h, recs_append, Frame.all_append]
  congr 1
  show Frame.all [xs[k].r] = _
  rw [Frame.all_one]; rfl

set_option maxHeartbeats 1600000 in
theorem all_any (A : Option Addr) (c : Nat) (xs : List RecM) (w : World) (h : Recs w 0 A xs) (hn : xs.length ≤ 100000) :
    Calls Try.prog 12 #[.slice A xs.length c] w fun e w' => ∃ B d L er, Hid (AllE (recs xs) L er) ∧ e = .returned (.tuple #[.slice B L.length d, .int .i64 er]) ∧
      OR 5 w.heap.size w' B d L ∧ Ab w w' := by
  go_enter Try.func12, Try.ntmps12
  go_wp2
  go_loopw [4, 14] (fun t i wr => ∃ k : Nat, k ≤ xs.length ∧ i = .int .i64 k ∧ t = .int .i64 ((Frame.all (recs (xs.take k))).length : Int) ∧ Hid (∀ j (hj : j < xs.length), j < k → Frame.Valid xs[j].r) ∧ Ab w wr) (fun _ i _ => xs.length - (intOf i).toNat)
  case atStart => exact ⟨0, Nat.zero_le _, rfl, rfl, Lib.hid (fun j _ hj => absurd hj (by omega)), (by repeat (first | with_reducible exact Ab.refl _ | with_reducible assumption | with_reducible refine Ab.drew ?_ | with_reducible refine Ab.drewN ?_ _ | with_reducible refine Ab.alloc ?_ _ | with_reducible refine Ab.trans ?_ (by assumption) | with_reducible refine Ab.set ?_ (by first | (simp; done) | omega | (simp; omega)) _))⟩
  case round =>
    obtain ⟨k, hk, rfl, rfl, hV, hb⟩ := hrel
    by_cases hlt : k < xs.length
    · obtain ⟨a, rfl, _, c0, c1, hl⟩ := (h.ab hb).at_ hlt
      have ht := take_len xs k hlt
      have hle : (Frame.all (recs (xs.take k))).length ≤ 1012 * k := by
        have := all_le (recs (xs.take k)) (fun i hi => by
          rw [recs_length] at hi
          have hi' : i < xs.length := by simp at hi; omega
          rw [recs_get _ _ hi, List.getElem_take]; exact hV.out i hi' (by simp at hi; omega))
        rw [recs_length, List.length_take] at this; omega
      have hvk := hV.out
      generalize hx : xs[k] = x at *
      have HX := Lib.hid hx
      have HT := Lib.hid ht
      generalize (Frame.all (recs (xs.take k))).length = m at *
      clear ht hx hvk
      go_wp2_with fail
      refine (size_any x.num x.A x.b x.c _).mono ?_
      rintro e w1 ⟨n, er, hS, rfl, hb1⟩
      rcases hS.out with ⟨hv, rfl, rfl⟩ | ⟨hv, rfl, rfl⟩
      · have HVx := Lib.hid hv
        have hxl : x.b.length ≤ 1000 := hv.2.2
        clear hv hS
        go_wp2
        go_roundw
        case rel =>
          refine ⟨k + 1, by omega, by go_num, by rw [HT.out]; go_num, Lib.hid (fun j hj hj' => ?_), (by repeat (first | with_reducible exact Ab.refl _ | with_reducible assumption | with_reducible refine Ab.drew ?_ | with_reducible refine Ab.drewN ?_ _ | with_reducible refine Ab.alloc ?_ _ | with_reducible refine Ab.trans ?_ (by assumption) | with_reducible refine Ab.set ?_ (by first | (simp; done) | omega | (simp; omega)) _))⟩
          by_cases hjk : j < k
          · exact hV.out j hj hjk
          · obtain rfl : j = k := by omega
            rw [HX.out]; exact HVx.out
        case measure => simp [intOf]; omega
      · go_wp2
        go_ret2
        exact ⟨none, 0, [], 8, Lib.hid (.inl ⟨⟨k, by rw [recs_length]; exact hlt, by rw [recs_get _ _ hlt, HX.out]; exact hv⟩, rfl, rfl⟩), rfl, OR.none_, (by repeat (first | with_reducible exact Ab.refl _ | with_reducible assumption | with_reducible refine Ab.drew ?_ | with_reducible refine Ab.drewN ?_ _ | with_reducible refine Ab.alloc ?_ _ | with_reducible refine Ab.trans ?_ (by assumption) | with_reducible refine Ab.set ?_ (by first | (simp; done) | omega | (simp; omega)) _))⟩
    · obtain rfl : k = xs.length := by omega
      have hV' : ∀ i (h : i < (recs xs).length), Frame.Valid (recs xs)[i] := fun i hi => by
        rw [recs_length] at hi
        rw [recs_get _ _ hi]; exact hV.out i hi hi
      have HV := Lib.hid hV'
      have hm0 := all_le (recs xs) hV'
      rw [recs_length] at hm0
      rw [List.take_length]
      generalize hm : (Frame.all (recs xs)).length = m at *
      have HM := Lib.hid hm
      clear hm hV'
      by_cases h20 : 20000 < m
      · go_wp2
        go_ret2
        exact ⟨none, 0, [], 4, Lib.hid (.inr (.inl ⟨HV.out, by rw [HM.out]; exact h20, rfl, rfl⟩)), rfl, OR.none_, (by repeat (first | with_reducible exact Ab.refl _ | with_reducible assumption | with_reducible refine Ab.drew ?_ | with_reducible refine Ab.drewN ?_ _ | with_reducible refine Ab.alloc ?_ _ | with_reducible refine Ab.trans ?_ (by assumption) | with_reducible refine Ab.set ?_ (by first | (simp; done) | omega | (simp; omega)) _))⟩
      · obtain ⟨Z, hZ, HZ⟩ := make_room m (by omega) (m : Int) rfl
        go_wp2
        go_loopw [9, 36] (fun b i wx => ∃ (k : Nat) (B : Option Addr) (d : Nat) (L : List UInt8), k ≤ xs.length ∧ i = .int .i64 k ∧ b = .slice B L.length d ∧ Hid (L = Frame.all (recs (xs.take k))) ∧ OR 5 w.heap.size wx B d L ∧ Ab w wx) (fun _ i _ => xs.length - (intOf i).toNat)
        case atStart => exact ⟨0, _, m, [], Nat.zero_le _, rfl, rfl, Lib.hid rfl, HZ.out _ _ _ hb.size (by (repeat (first | exact new_plain (by first | (simp; done) | omega | (simp; omega)) | with_reducible refine old_alloc ?_ | with_reducible refine old_drew ?_ | with_reducible refine old_set ?_ (by first | (simp; done) | omega | (simp; omega)) | with_reducible refine old_ab (by assumption) ?_))), (by repeat (first | with_reducible exact Ab.refl _ | with_reducible assumption | with_reducible refine Ab.drew ?_ | with_reducible refine Ab.drewN ?_ _ | with_reducible refine Ab.alloc ?_ _ | with_reducible refine Ab.trans ?_ (by assumption) | with_reducible refine Ab.set ?_ (by first | (simp; done) | omega | (simp; omega)) _))⟩
        case round =>
          obtain ⟨k, B, d, L, hk2, rfl, rfl, hL, ho, hbx⟩ := hrel
          by_cases hlt2 : k < xs.length
          · have hl0 : Laid w 0 xs[k] := by
              obtain ⟨_, _, _, _, _, hl0⟩ := h.at_ hlt2
              exact hl0
            obtain ⟨a, rfl, _, c0, c1, hl⟩ := (h.ab hbx).at_ hlt2
            have hv := HV.out k (by rw [recs_length]; exact hlt2)
            rw [recs_get _ _ hlt2] at hv
            have he := take_enc xs k hlt2
            have hLl : L.length ≤ 100000 := by
              rw [hL.out]
              have h1 := (Frame.all_take_prefix (recs xs) k).length_le
              rw [HM.out] at h1
              rw [recs_take]; omega
            generalize hx : xs[k] = x at *
            have HX := Lib.hid hx
            have HE := Lib.hid he
            have HVx := Lib.hid hv
            clear hx he hv
            have hsz := hbx.size
            go_wp2_with fail
            refine (put_any B L d x.num x.A x.b x.c HVx.out w.heap.size w _ (show OR 5 w.heap.size _ B d L from (by (repeat (first | with_reducible exact OR.none_ | with_reducible assumption | with_reducible refine OR.drew ?_ | with_reducible refine OR.drewN ?_ _ | with_reducible refine OR.alloc ?_ _ | (with_reducible refine OR.setNew ?_ _ ?_ _; rotate_left; focus (first | (simp; done) | omega | (simp; omega))) | with_reducible refine OR.set ?_ (by first | (simp; done) | omega | (simp; omega)) _ | (with_reducible refine OR.keep ?_ (by assumption)))))) (by first | (simp; done) | omega | (simp; omega)) (by repeat (first | with_reducible exact Ab.refl _ | with_reducible assumption | with_reducible refine Ab.drew ?_ | with_reducible refine Ab.drewN ?_ _ | with_reducible refine Ab.alloc ?_ _ | with_reducible refine Ab.trans ?_ (by assumption) | with_reducible refine Ab.set ?_ (by first | (simp; done) | omega | (simp; omega)) _)) (Nat.le_refl _) hl0.1 hl0.2.1 hLl).mono ?_
            rintro e w5 ⟨A5, c5, L5, e5, rfl, o5, b5⟩
            go_wp2
            go_roundw
            case rel => exact ⟨k + 1, A5, c5, L5, by omega, by go_num, rfl, Lib.hid (by rw [HE.out, e5.out, hL.out]), o5, (by repeat (first | with_reducible exact Ab.refl _ | with_reducible assumption | with_reducible refine Ab.drew ?_ | with_reducible refine Ab.drewN ?_ _ | with_reducible refine Ab.alloc ?_ _ | with_reducible refine Ab.trans ?_ (by assumption) | with_reducible refine Ab.set ?_ (by first | (simp; done) | omega | (simp; omega)) _))⟩
            case measure => simp [intOf]; omega
          · obtain rfl : k = xs.length := by omega
            go_wp2
            go_ret2
            exact ⟨B, d, L, 0, Lib.hid (.inr (.inr ⟨HV.out, by rw [HM.out]; omega, by rw [hL.out, List.take_length], rfl⟩)), rfl, ho, (by repeat (first | with_reducible exact Ab.refl _ | with_reducible assumption | with_reducible refine Ab.drew ?_ | with_reducible refine Ab.drewN ?_ _ | with_reducible refine Ab.alloc ?_ _ | with_reducible refine Ab.trans ?_ (by assumption) | with_reducible refine Ab.set ?_ (by first | (simp; done) | omega | (simp; omega)) _))⟩
end Go.Proofs.Ytegdamjblljobaa
