import Derived.Test.YtddmcciegofneaaCrcAlive
import Derived.Test.YtddmcciegofneaaPostB
import Derived.Test.YtddmcciegofneaaCrcFour
import Derived.Deep.DeepCutAuto
import Derived.Test.YtddmcciegofneaaMem2
import Derived.Test.YtddmcciegofneaaStillT
set_option linter.unusedVariables false
namespace Go.Proofs.Ytddmcciegofneaa
open Go.RowKit

theorem RB.one {w : World} {lo g : Nat} {m : UInt8} {v : Int} {T : TypeId} {fr : Nat × Nat} (hv : v = (m.toNat : Int)) (hg : w.heap[g]? = some (.cells #[.int .u8 v] T fr)) (hlo : lo ≤ g) : RB w lo (some ⟨g, 0, none⟩) [m] := by
  subst hv
  exact RB.blk (l := [m]) hg hlo
theorem u8_xor_form (a b : UInt8) : bits .xor .u8 (a.toNat : Int) (b.toNat : Int) = ((a ^^^ b).toNat : Int) := by
  have ha := a.toNat_lt; have hb := b.toNat_lt
  have h : a.toNat ^^^ b.toNat < 2 ^ 8 := Nat.xor_lt_two_pow ha hb
  show IntKind.u8.wrap ((BitVec.ofInt 8 (a.toNat : Int) ^^^ BitVec.ofInt 8 (b.toNat : Int)).toNat : Int) = _
  rw [BitVec.toNat_xor, BitVec.ofInt_natCast, BitVec.ofInt_natCast, BitVec.toNat_ofNat, BitVec.toNat_ofNat, Nat.mod_eq_of_lt (by omega), Nat.mod_eq_of_lt (by omega), UInt8.toNat_xor]
  simp [IntKind.wrap, IntKind.bits, IntKind.signed]; omega

/-- Four bytes by their index. -/
def four4 (o0 o1 o2 o3 : UInt8) : Nat → UInt8
  | 0 => o0
  | 1 => o1
  | 2 => o2
  | _ => o3
theorem four4_cell (w : World) (o0 o1 o2 o3 : UInt8) (j : Nat) (h : j < 4) : (w.alloc (.cells #[.int .u8 (o0.toNat : Int), .int .u8 (o1.toNat : Int), .int .u8 (o2.toNat : Int), .int .u8 (o3.toNat : Int)] 31)).cell? ⟨w.heap.size, j, none⟩ = some (.int .u8 ((four4 o0 o1 o2 o3 j).toNat : Int)) := by
  have : j = 0 ∨ j = 1 ∨ j = 2 ∨ j = 3 := by omega
  rcases this with rfl | rfl | rfl | rfl <;> rw [World.cell?_alloc_new] <;> rfl
theorem sum_at (A : Option Addr) (l : List UInt8) (n c : Nat) (hn : l.length = n) (w : World) (hl : RB w 0 A l) (hc : n ≤ c) (ll : n ≤ 9223372036854775807) :
    Calls Try.prog 9 #[.slice A n c] w fun e w' => e = .returned (.tuple #[.int .u32 ((Crc.sumE l).toNat : Int), .int .i64 (Crc.errE l)]) ∧ w = w' := by
  subst hn; exact sum_any A l c w hl hc ll
theorem run_four_zero (x0 x1 x2 x3 : UInt8) (r : Bool) (hr : decide (x0 = 0 ∧ x1 = 0 ∧ x2 = 0 ∧ x3 = 0) = r) (w : World) :
    (Op.equalIn 10000 31 (.agg #[.int .u8 (x0.toNat : Int), .int .u8 (x1.toNat : Int), .int .u8 (x2.toNat : Int), .int .u8 (x3.toNat : Int)]) (.agg #[.int .u8 0, .int .u8 0, .int .u8 0, .int .u8 0])).run Try.prog w = .ok r w := by
  have := run_four_eq x0 x1 x2 x3 0 0 0 0 w
  rw [hr] at this
  exact this
set_option maxRecDepth 100000 in
set_option maxHeartbeats 3200000 in
theorem mixes_walk (A : Option Addr) (a : List UInt8) (ca : Nat) (B : Option Addr) (b : List UInt8) (cb : Nat) (C : Option Addr) (c : List UInt8) (cc : Nat) (at_ : Int) (o0 o1 o2 o3 : UInt8) (w : World)
    (ha : RB w 0 A a) (hca : a.length ≤ ca) (la : a.length ≤ 9223372036854775807) (hb : RB w 0 B b) (hcb : b.length ≤ cb) (lb : b.length ≤ 9223372036854775807) (hc : RB w 0 C c) (hcc : c.length ≤ cc) (lc : c.length ≤ 9223372036854775807)
    (h1 : -9223372036854775808 ≤ at_) (h2 : at_ ≤ 9223372036854775807) :
    Calls Try.prog 7 #[.slice A a.length ca, .slice B b.length cb, .slice C c.length cc, .int .i64 at_, .agg #[.int .u8 (o0.toNat : Int), .int .u8 (o1.toNat : Int), .int .u8 (o2.toNat : Int), .int .u8 (o3.toNat : Int)]] w fun e w' => e = .returned (.bool true) ∧ Ab w w' := by
  by_cases hg : 1000 < a.length
  · go_enter Try.func7, Try.ntmps7
    go_wp2_with fail
    refine (alive_true _).mono ?_
    rintro e wz ⟨rfl, hbz⟩
    go_wp2
    go_ret
    exact ⟨rfl, (by repeat (first | with_reducible exact Ab.refl _ | with_reducible assumption | with_reducible refine Ab.drew ?_ | with_reducible refine Ab.drewN ?_ _ | with_reducible refine Ab.alloc ?_ _ | with_reducible refine Ab.trans ?_ (by assumption) | with_reducible refine Ab.set ?_ (by first | (simp; done) | omega | (simp; omega)) _))⟩
  have ka : a.length ≤ 1000 := by omega
  clear hg
  by_cases hlb : b.length = a.length
  case neg =>
    have hlb' : ((b.length : Int) != (a.length : Int)) = true := by simp; omega
    go_enter Try.func7, Try.ntmps7
    go_wp2_with fail
    refine (alive_true _).mono ?_
    rintro e wz ⟨rfl, hbz⟩
    go_wp2
    go_ret
    exact ⟨rfl, (by repeat (first | with_reducible exact Ab.refl _ | with_reducible assumption | with_reducible refine Ab.drew ?_ | with_reducible refine Ab.drewN ?_ _ | with_reducible refine Ab.alloc ?_ _ | with_reducible refine Ab.trans ?_ (by assumption) | with_reducible refine Ab.set ?_ (by first | (simp; done) | omega | (simp; omega)) _))⟩
  by_cases hlc : c.length = a.length
  case neg =>
    have hlb' : ((b.length : Int) != (a.length : Int)) = false := by simp; omega
    have hlc' : ((c.length : Int) != (a.length : Int)) = true := by simp; omega
    clear hlb
    go_enter Try.func7, Try.ntmps7
    go_wp2_with fail
    refine (alive_true _).mono ?_
    rintro e wz ⟨rfl, hbz⟩
    go_wp2
    go_ret
    exact ⟨rfl, (by repeat (first | with_reducible exact Ab.refl _ | with_reducible assumption | with_reducible refine Ab.drew ?_ | with_reducible refine Ab.drewN ?_ _ | with_reducible refine Ab.alloc ?_ _ | with_reducible refine Ab.trans ?_ (by assumption) | with_reducible refine Ab.set ?_ (by first | (simp; done) | omega | (simp; omega)) _))⟩
  have hlb' : ((b.length : Int) != (a.length : Int)) = false := by simp; omega
  have hlc' : ((c.length : Int) != (a.length : Int)) = false := by simp; omega
  have HB := Lib.hid hlb
  have HC := Lib.hid hlc
  clear hlb hlc
  go_enter Try.func7, Try.ntmps7
  go_wp2_with fail
  clear hlb' hlc'
  go_loopw [11, 12] (fun v i wr => ∃ (k : Nat) (A' : Option Addr) (c' : Nat) (L : List UInt8), k ≤ a.length ∧ i = .int .i64 k ∧ v = .slice A' L.length c' ∧ Hid (L = Crc.mix (a.take k) (b.take k) (c.take k)) ∧ OR 5 (w.heap.size + 1) wr A' c' L ∧ Ab (w.alloc (.cells #[.int .u8 (o0.toNat : Int), .int .u8 (o1.toNat : Int), .int .u8 (o2.toNat : Int), .int .u8 (o3.toNat : Int)] 31)) wr) (fun _ i _ => a.length - (intOf i).toNat)
  case atStart => exact ⟨0, none, 0, [], Nat.zero_le _, rfl, rfl, Lib.hid (by simp [Crc.mix]), OR.none_, Ab.refl _⟩
  case round =>
    obtain ⟨k, A', c', L, hk, rfl, rfl, hL, ho, hab⟩ := hrel
    by_cases hlt : k < a.length
    · have lL : L.length ≤ 1000 := by
        rw [hL.out, Crc.mix_length _ _ _ (by simp [HB.out]) (by simp [HC.out])]; simp; omega
      have hltb : k < b.length := by rw [HB.out]; exact hlt
      have hltc : k < c.length := by rw [HC.out]; exact hlt
      have hA := RB.ab ha (w' := w.alloc (.cells #[.int .u8 (o0.toNat : Int), .int .u8 (o1.toNat : Int), .int .u8 (o2.toNat : Int), .int .u8 (o3.toNat : Int)] 31)) (by repeat (first | with_reducible exact Ab.refl _ | with_reducible assumption | with_reducible refine Ab.drew ?_ | with_reducible refine Ab.drewN ?_ _ | with_reducible refine Ab.alloc ?_ _ | with_reducible refine Ab.trans ?_ (by assumption) | with_reducible refine Ab.set ?_ (by first | (simp; done) | omega | (simp; omega)) _))
      have hB := RB.ab hb (w' := w.alloc (.cells #[.int .u8 (o0.toNat : Int), .int .u8 (o1.toNat : Int), .int .u8 (o2.toNat : Int), .int .u8 (o3.toNat : Int)] 31)) (by repeat (first | with_reducible exact Ab.refl _ | with_reducible assumption | with_reducible refine Ab.drew ?_ | with_reducible refine Ab.drewN ?_ _ | with_reducible refine Ab.alloc ?_ _ | with_reducible refine Ab.trans ?_ (by assumption) | with_reducible refine Ab.set ?_ (by first | (simp; done) | omega | (simp; omega)) _))
      have hC := RB.ab hc (w' := w.alloc (.cells #[.int .u8 (o0.toNat : Int), .int .u8 (o1.toNat : Int), .int .u8 (o2.toNat : Int), .int .u8 (o3.toNat : Int)] 31)) (by repeat (first | with_reducible exact Ab.refl _ | with_reducible assumption | with_reducible refine Ab.drew ?_ | with_reducible refine Ab.drewN ?_ _ | with_reducible refine Ab.alloc ?_ _ | with_reducible refine Ab.trans ?_ (by assumption) | with_reducible refine Ab.set ?_ (by first | (simp; done) | omega | (simp; omega)) _))
      have zr : w.heap.size + 1 ≤ wr.heap.size := by have := hab.size; simpa using this
      obtain ⟨aa, eA⟩ : ∃ ad, A = some ad := (hA (by omega)).elim fun x h => ⟨x, h.1⟩
      obtain ⟨ab, eB⟩ : ∃ ad, B = some ad := (hB (by omega)).elim fun x h => ⟨x, h.1⟩
      obtain ⟨ac, eC⟩ : ∃ ad, C = some ad := (hC (by omega)).elim fun x h => ⟨x, h.1⟩
      have qa := hA.cell hlt eA
      have qb := hB.cell hltb eB
      have qc := hC.cell hltc eC
      subst eA eB eC
      have qa' := hab.at qa
      have qb' := hab.at qb
      have qc' := hab.at qc
      have hx : Hid (bits .xor .u8 (bits .xor .u8 (a[k].toNat : Int) (b[k].toNat : Int)) (c[k].toNat : Int) = ((a[k] ^^^ b[k] ^^^ c[k]).toNat : Int)) := Lib.hid (by rw [u8_xor_form, u8_xor_form])
      have hm : Hid (Crc.mix (a.take (k + 1)) (b.take (k + 1)) (c.take (k + 1)) = Crc.mix (a.take k) (b.take k) (c.take k) ++ [a[k] ^^^ b[k] ^^^ c[k]]) := Lib.hid (Crc.mix_take a b c k hlt hltb hltc)
      go_wp2_with fail
      go_region_held3 (fun w' => w'.cell? (aa.add k) = some (.int .u8 (a[k].toNat : Int)) ∧ w'.cell? (ab.add k) = some (.int .u8 (b[k].toNat : Int)) ∧ w'.cell? (ac.add k) = some (.int .u8 (c[k].toNat : Int)))
        ((refine ⟨?_, ?_, ?_⟩ <;> (repeat (first | with_reducible assumption | (simp [go_sem]; done) | with_reducible apply cell_alloc | with_reducible apply cell_drew | with_reducible apply cell_drewN | (with_reducible apply Ab.at; with_reducible assumption) | (with_reducible refine cell_set ?_ ?_; rotate_left; focus (first | (simp; done) | (simp; omega))) | (with_reducible refine cell_setb ?_ ?_; rotate_left; focus (first | omega | (simp only; omega) | (simp; omega)))))))
        ((refine stepApp (by rfl) _ _ (by rfl) (by rfl) (by rfl) (m := [a[k] ^^^ b[k] ^^^ c[k]]) (by rfl) (show OR 5 (w.heap.size + 1) _ A' c' L from (by (repeat (first | with_reducible exact OR.none_ | with_reducible assumption | with_reducible refine OR.drew ?_ | with_reducible refine OR.drewN ?_ _ | with_reducible refine OR.alloc ?_ _ | (with_reducible refine OR.setNew ?_ _ ?_ _; rotate_left; focus (first | (simp; done) | omega | (simp; omega))) | with_reducible refine OR.set ?_ (by first | (simp; done) | omega | (simp; omega)) _ | (with_reducible refine OR.keep ?_ (by assumption)))))) (by first | (simp; done) | omega | (simp; omega)) (RB.one (T := 5) (fr := (0, 0)) hx.out (by (repeat (first | exact new_plain (by first | (simp; done) | omega | (simp; omega)) | with_reducible refine old_alloc ?_ | with_reducible refine old_drew ?_ | with_reducible refine old_set ?_ (by first | (simp; done) | omega | (simp; omega)) | with_reducible refine old_ab (by assumption) ?_))) (Nat.zero_le _)) (by simp) (by simp; omega) ?_
          intro A2 c2 w4 L2 e2 p2 _ f2
          have b2 := f2 (w.alloc (.cells #[.int .u8 (o0.toNat : Int), .int .u8 (o1.toNat : Int), .int .u8 (o2.toNat : Int), .int .u8 (o3.toNat : Int)] 31)) (by repeat (first | with_reducible exact Ab.refl _ | with_reducible assumption | with_reducible refine Ab.drew ?_ | with_reducible refine Ab.drewN ?_ _ | with_reducible refine Ab.alloc ?_ _ | with_reducible refine Ab.trans ?_ (by assumption) | with_reducible refine Ab.set ?_ (by first | (simp; done) | omega | (simp; omega)) _)) (by first | (simp; done) | omega | (simp; omega))
          clear f2))
      all_goals go_wp2
      all_goals go_roundw
      all_goals first
        | (case rel => exact ⟨k + 1, A2, c2, L2, by omega, by go_num, rfl, Lib.hid (by rw [e2.out, hL.out, hm.out]), p2, b2⟩)
        | (case measure => simp [intOf]; omega)
    · have lL : L.length ≤ 1000 := by
        rw [hL.out, Crc.mix_length _ _ _ (by simp [HB.out]) (by simp [HC.out])]; simp; omega
      have hLm : Hid (L = Crc.mix a b c) := Lib.hid (by rw [hL.out, List.take_of_length_le (by omega), List.take_of_length_le (by rw [HB.out]; omega), List.take_of_length_le (by rw [HC.out]; omega)])
      have kb : b.length ≤ 1000 := by rw [HB.out]; exact ka
      have kc : c.length ≤ 1000 := by rw [HC.out]; exact ka
      have S1 : Hid (Crc.sumE a = Crc.sum a) := Lib.hid (Crc.sumE_le (by omega))
      have S2 : Hid (Crc.sumE b = Crc.sum b) := Lib.hid (Crc.sumE_le (by omega))
      have S3 : Hid (Crc.sumE c = Crc.sum c) := Lib.hid (Crc.sumE_le (by omega))
      have S4 : Hid (Crc.sumE L = Crc.sum L) := Lib.hid (Crc.sumE_le (by omega))
      have E1 : Hid (Crc.errE a = 0) := Lib.hid (Crc.errE_le (by omega))
      have E2 : Hid (Crc.errE b = 0) := Lib.hid (Crc.errE_le (by omega))
      have E3 : Hid (Crc.errE c = 0) := Lib.hid (Crc.errE_le (by omega))
      have E4 : Hid (Crc.errE L = 0) := Lib.hid (Crc.errE_le (by omega))
      have HX : Hid (bits .xor .u32 (bits .xor .u32 ((Crc.sum a).toNat : Int) ((Crc.sum b).toNat : Int)) ((Crc.sum c).toNat : Int) = ((Crc.sum L).toNat : Int)) := Lib.hid (by rw [bx_xor, bx_xor, hLm.out, Crc.sum_mix a b c HB.out HC.out])
      have zr : w.heap.size + 1 ≤ wr.heap.size := by have := hab.size; simpa using this
      obtain ⟨w1, hw1⟩ : ∃ x : World, x = wr := ⟨_, rfl⟩
      subst hw1
      go_wp2_with fail
      refine (sum_any A a ca _ (RB.ab ha (by repeat (first | with_reducible exact Ab.refl _ | with_reducible assumption | with_reducible refine Ab.drew ?_ | with_reducible refine Ab.drewN ?_ _ | with_reducible refine Ab.alloc ?_ _ | with_reducible refine Ab.trans ?_ (by assumption) | with_reducible refine Ab.set ?_ (by first | (simp; done) | omega | (simp; omega)) _))) hca la).mono ?_
      rintro e w' ⟨rfl, rfl⟩
      rw [S1.out, E1.out]
      go_wp2_with fail
      refine (sum_any B b cb _ (RB.ab hb (by repeat (first | with_reducible exact Ab.refl _ | with_reducible assumption | with_reducible refine Ab.drew ?_ | with_reducible refine Ab.drewN ?_ _ | with_reducible refine Ab.alloc ?_ _ | with_reducible refine Ab.trans ?_ (by assumption) | with_reducible refine Ab.set ?_ (by first | (simp; done) | omega | (simp; omega)) _))) hcb lb).mono ?_
      rintro e w' ⟨rfl, rfl⟩
      rw [S2.out, E2.out]
      go_wp2_with fail
      refine (sum_any C c cc _ (RB.ab hc (by repeat (first | with_reducible exact Ab.refl _ | with_reducible assumption | with_reducible refine Ab.drew ?_ | with_reducible refine Ab.drewN ?_ _ | with_reducible refine Ab.alloc ?_ _ | with_reducible refine Ab.trans ?_ (by assumption) | with_reducible refine Ab.set ?_ (by first | (simp; done) | omega | (simp; omega)) _))) hcc lc).mono ?_
      rintro e w' ⟨rfl, rfl⟩
      rw [S3.out, E3.out]
      go_wp2_with fail
      refine (sum_any A' L c' _ ho.rb.zero ho.le (by omega)).mono ?_
      rintro e w' ⟨rfl, rfl⟩
      rw [S4.out, E4.out]
      have hx := HX.out
      have bwr : Ab w w1 := (by repeat (first | with_reducible exact Ab.refl _ | with_reducible assumption | with_reducible refine Ab.drew ?_ | with_reducible refine Ab.drewN ?_ _ | with_reducible refine Ab.alloc ?_ _ | with_reducible refine Ab.trans ?_ (by assumption) | with_reducible refine Ab.set ?_ (by first | (simp; done) | omega | (simp; omega)) _))
      by_cases hat : 0 ≤ at_ ∧ at_ ≤ (a.length : Int) - 4
      · obtain ⟨n, rfl⟩ : ∃ n : Nat, at_ = n := ⟨at_.toNat, by omega⟩
        have hn : n + 4 ≤ a.length := by omega
        have hn1 : ¬ (a.length : Int) - 4 < (n : Int) := by omega
        have hn2 : ¬ (n : Int) < 0 := by omega
        clear hat
        go_wp2_with ((at_builtin
                      refine listLit rfl _ _ rfl rfl rfl (m := a) rfl (by (repeat (first | exact new_plain (by first | (simp; done) | omega | (simp; omega)) | with_reducible refine old_alloc ?_ | with_reducible refine old_drew ?_ | with_reducible refine old_set ?_ (by first | (simp; done) | omega | (simp; omega)) | with_reducible refine old_ab (by assumption) ?_))) (RB.ab ha (by repeat (first | with_reducible exact Ab.refl _ | with_reducible assumption | with_reducible refine Ab.drew ?_ | with_reducible refine Ab.drewN ?_ _ | with_reducible refine Ab.alloc ?_ _ | with_reducible refine Ab.trans ?_ (by assumption) | with_reducible refine Ab.set ?_ (by first | (simp; done) | omega | (simp; omega)) _))) hca (by omega) ?_
                      intro A1 c1 w3 L1 e1 a1 o1
                      have z1 := a1.size; simp at z1
                      have p1 := o1 w1.heap.size (by omega) (by simp)
                      clear o1))
        obtain rfl : a = L1 := e1.out.symm
        obtain ⟨g, rfl, hg1, hg2⟩ := p1.at_ (by omega)
        have hab3 : Ab (w.alloc (.cells #[.int .u8 (o0.toNat : Int), .int .u8 (o1.toNat : Int), .int .u8 (o2.toNat : Int), .int .u8 (o3.toNat : Int)] 31)) w3 := (by repeat (first | with_reducible exact Ab.refl _ | with_reducible assumption | with_reducible refine Ab.drew ?_ | with_reducible refine Ab.drewN ?_ _ | with_reducible refine Ab.alloc ?_ _ | with_reducible refine Ab.trans ?_ (by assumption) | with_reducible refine Ab.set ?_ (by first | (simp; done) | omega | (simp; omega)) _))
        go_loopw [22] (fun i wz => ∃ (j : Nat) (l : List UInt8), j ≤ 4 ∧ i = .int .i64 j ∧ Hid (l = Crc.chg a n (four4 o0 o1 o2 o3) j) ∧ l.length = a.length ∧ OR 5 w1.heap.size wz (some ⟨g, 0, none⟩) c1 l ∧ Ab (w.alloc (.cells #[.int .u8 (o0.toNat : Int), .int .u8 (o1.toNat : Int), .int .u8 (o2.toNat : Int), .int .u8 (o3.toNat : Int)] 31)) wz) (fun i _ => 4 - (intOf i).toNat)
        case atStart => exact ⟨0, a, by omega, rfl, Lib.hid rfl, rfl, p1, hab3⟩
        case round =>
          obtain ⟨j, l, hj, rfl, hl, hll, oo, hz⟩ := hrel
          by_cases hj4 : j < 4
          · have hnj : n + j < l.length := by omega
            go_wp2
            obtain ⟨wd, hwd⟩ : ∃ wd : World, wd = wr.drew := ⟨_, rfl⟩
            have ood : OR 5 w1.heap.size wd (some ⟨g, 0, none⟩) c1 l := by rw [hwd]; exact oo.drew
            have hzd : Ab (w.alloc (.cells #[.int .u8 (o0.toNat : Int), .int .u8 (o1.toNat : Int), .int .u8 (o2.toNat : Int), .int .u8 (o3.toNat : Int)] 31)) wd := by rw [hwd]; exact hz.drew
            obtain ⟨m, hm⟩ : ∃ m : Nat, m = n + j := ⟨_, rfl⟩
            have hml : m < l.length := by omega
            have hma : m < a.length := by omega
            have hcl := ood.cellAt hml
            have hfl := ood.unfrozen m
            have hbc := hzd.at (four4_cell w o0 o1 o2 o3 j hj4)
            have hwr : IntKind.i64.wrap ((n : Int) + (j : Int)) = (m : Int) := by rw [IntWalk.i64_in _ (by omega)]; omega
            have hj4' : (j : Int) < 4 := by omega
            have HV : Hid (bits .xor .u8 (l[m].toNat : Int) ((four4 o0 o1 o2 o3 j).toNat : Int) = ((l[m] ^^^ four4 o0 o1 o2 o3 j).toNat : Int)) := Lib.hid (u8_xor_form _ _)
            have HM := Lib.hid hm
            have hgd : Hid (l.getD m 0 = l[m]) := Lib.hid (by simp [hml])
            clear hm hnj
            refine still_tail 11 (by kernel_rfl) (by kernel_rfl) wd hwd ?_
            clear hwd oo hz
            simp only [List.take_succ_cons, List.take_zero, List.drop_succ_cons, List.drop_zero]
            repeat still_step
            refine wpStill_nil ?_
            go_wp2
            go_roundw
            case rel =>
              refine ⟨j + 1, l.set m (l[m] ^^^ four4 o0 o1 o2 o3 j), by omega, by go_num, Lib.hid ?_, by rw [List.length_set]; exact hll, ?_, ?_⟩
              · unfold Crc.chg
                rw [← hl.out, ← HM.out, hgd.out]
              · rw [HV.out]; exact ood.store m _
              · exact hzd.set (by simp; omega) _
            case measure => simp [intOf]; omega
          · obtain rfl : j = 4 := by omega
            have HQ : Hid (Crc.sum l = Crc.sum a ↔ (o0 = 0 ∧ o1 = 0 ∧ o2 = 0 ∧ o3 = 0)) := Lib.hid (by rw [hl.out]; exact Crc.sum_chg a n (four4 o0 o1 o2 o3) hn)
            have S5 : Hid (Crc.sumE l = Crc.sum l) := Lib.hid (Crc.sumE_le (by omega))
            have E5 : Hid (Crc.errE l = 0) := Lib.hid (Crc.errE_le (by omega))
            have b0 := hz.at (four4_cell w o0 o1 o2 o3 0 (by omega))
            have b1 := hz.at (four4_cell w o0 o1 o2 o3 1 (by omega))
            have b2 := hz.at (four4_cell w o0 o1 o2 o3 2 (by omega))
            have b3 := hz.at (four4_cell w o0 o1 o2 o3 3 (by omega))
            simp only [four4] at b0 b1 b2 b3
            have hfz := run_four_zero o0 o1 o2 o3
            go_wp2_with fail
            refine (sum_at (some ⟨g, 0, none⟩) l a.length c1 hll _ oo.rb.zero (by have := oo.le; omega) (by omega)).mono ?_
            rintro e w' ⟨rfl, rfl⟩
            rw [S5.out, E5.out]
            by_cases hq : o0 = 0 ∧ o1 = 0 ∧ o2 = 0 ∧ o3 = 0
            · rw [HQ.out.2 hq]
              have hfe := hfz _ (decide_eq_true hq) wr
              clear hfz hq HQ
              go_wp2_with fail
              refine (alive_true _).mono ?_
              rintro e wz ⟨rfl, hbz⟩
              go_wp2
              go_ret
              exact ⟨rfl, (by repeat (first | with_reducible exact Ab.refl _ | with_reducible assumption | with_reducible refine Ab.drew ?_ | with_reducible refine Ab.drewN ?_ _ | with_reducible refine Ab.alloc ?_ _ | with_reducible refine Ab.trans ?_ (by assumption) | with_reducible refine Ab.set ?_ (by first | (simp; done) | omega | (simp; omega)) _))⟩
            · have hs : ¬ Crc.sum l = Crc.sum a := fun h => hq (HQ.out.1 h)
              have hfe := hfz _ (decide_eq_false hq) wr
              have hs2 : (((Crc.sum l).toNat : Int) == ((Crc.sum a).toNat : Int)) = false := by
                rw [beq_eq_false_iff_ne]
                exact fun h => hs (BitVec.eq_of_toNat_eq (by omega))
              clear hfz hs hq HQ
              go_wp2_with fail
              refine (alive_true _).mono ?_
              rintro e wz ⟨rfl, hbz⟩
              go_wp2
              go_ret
              exact ⟨rfl, (by repeat (first | with_reducible exact Ab.refl _ | with_reducible assumption | with_reducible refine Ab.drew ?_ | with_reducible refine Ab.drewN ?_ _ | with_reducible refine Ab.alloc ?_ _ | with_reducible refine Ab.trans ?_ (by assumption) | with_reducible refine Ab.set ?_ (by first | (simp; done) | omega | (simp; omega)) _))⟩
      · by_cases hneg : at_ < 0
        · go_wp2_with fail
          refine (alive_true _).mono ?_
          rintro e wz ⟨rfl, hbz⟩
          go_wp2
          go_ret
          exact ⟨rfl, (by repeat (first | with_reducible exact Ab.refl _ | with_reducible assumption | with_reducible refine Ab.drew ?_ | with_reducible refine Ab.drewN ?_ _ | with_reducible refine Ab.alloc ?_ _ | with_reducible refine Ab.trans ?_ (by assumption) | with_reducible refine Ab.set ?_ (by first | (simp; done) | omega | (simp; omega)) _))⟩
        · have hbig : (a.length : Int) - 4 < at_ := by omega
          clear hat
          go_wp2_with fail
          refine (alive_true _).mono ?_
          rintro e wz ⟨rfl, hbz⟩
          go_wp2
          go_ret
          exact ⟨rfl, (by repeat (first | with_reducible exact Ab.refl _ | with_reducible assumption | with_reducible refine Ab.drew ?_ | with_reducible refine Ab.drewN ?_ _ | with_reducible refine Ab.alloc ?_ _ | with_reducible refine Ab.trans ?_ (by assumption) | with_reducible refine Ab.set ?_ (by first | (simp; done) | omega | (simp; omega)) _))⟩
end Go.Proofs.Ytddmcciegofneaa
