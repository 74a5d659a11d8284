import Derived.Test.YtojhdecgipjkeaaLawD
import Derived.Test.YtojhdecgipjkeaaOpE
set_option linter.unusedVariables false
set_option linter.unusedSimpArgs false
namespace Go.Proofs.Ytojhdecgipjkeaa
open Go.RowKit Disk

def bads (A1 A2 : Option Addr) : List OpM := [⟨0, none, 0, [], 0⟩, ⟨7, none, 0, [], 0⟩, ⟨2, none, 0, [], 1⟩, ⟨6, A1, 1, [97], 0⟩, ⟨1, none, 0, [], 1⟩, ⟨4, A2, 1, [97], 0⟩]
theorem opsBads {w : World} {g : Nat} {A1 A2 : Option Addr}
    (hg : w.heap[g]? = some (.cells #[.int .u8 0, .slice none 0 0, .int .i64 0, .int .u8 7, .slice none 0 0, .int .i64 0, .int .u8 2, .slice none 0 0, .int .i64 1, .int .u8 6, .slice A1 1 1, .int .i64 0, .int .u8 1, .slice none 0 0, .int .i64 1, .int .u8 4, .slice A2 1 1, .int .i64 0] 39))
    (h1 : RB w 0 A1 [97]) (h2 : RB w 0 A2 [97]) : Ops w (some ⟨g, 0, none⟩) 6 (bads A1 A2) := by
  refine ⟨rfl, fun _ => ⟨_, rfl, fun i hi => ?_⟩⟩
  have cl : ∀ j, w.cell? ((⟨g, 0, none⟩ : Addr).add j) = w.cell? ⟨g, j, none⟩ := fun j => by congr 1; unfold Addr.add; split <;> simp_all
  have hc : ∀ j, w.cell? ⟨g, j, none⟩ = (#[.int .u8 0, .slice none 0 0, .int .i64 0, .int .u8 7, .slice none 0 0, .int .i64 0, .int .u8 2, .slice none 0 0, .int .i64 1, .int .u8 6, .slice A1 1 1, .int .i64 0, .int .u8 1, .slice none 0 0, .int .i64 1, .int .u8 4, .slice A2 1 1, .int .i64 0] : Array Value)[j]? := fun j => by
    unfold World.cell?; rw [hg]; rfl
  have h6 : i = 0 ∨ i = 1 ∨ i = 2 ∨ i = 3 ∨ i = 4 ∨ i = 5 := by simp [bads] at hi; omega
  rcases h6 with rfl | rfl | rfl | rfl | rfl | rfl
  · simp only [cl, hc]; exact ⟨rfl, rfl, rfl, RB.nil, Nat.le_refl _, by simp [bads]⟩
  · simp only [cl, hc]; exact ⟨rfl, rfl, rfl, RB.nil, Nat.le_refl _, by simp [bads]⟩
  · simp only [cl, hc]; exact ⟨rfl, rfl, rfl, RB.nil, Nat.le_refl _, by simp [bads]⟩
  · simp only [cl, hc]; exact ⟨rfl, rfl, rfl, h1, Nat.le_refl _, by simp [bads]⟩
  · simp only [cl, hc]; exact ⟨rfl, rfl, rfl, RB.nil, Nat.le_refl _, by simp [bads]⟩
  · simp only [cl, hc]; exact ⟨rfl, rfl, rfl, h2, Nat.le_refl _, by simp [bads]⟩
theorem bads_bad (A1 A2 : Option Addr) : ∀ o ∈ bads A1 A2, ¬ Op.ok o.op ∧ o.b.length ≤ 1 := by
  intro o ho
  simp only [bads, List.mem_cons, List.not_mem_nil, or_false] at ho
  rcases ho with rfl | rfl | rfl | rfl | rfl | rfl <;> exact ⟨by simp only [OpM.op]; decide, by simp⟩
theorem opsMid {w : World} {g : Nat} {o : OpM} (hg : w.heap[g]? = some (.cells #[.int .u8 2, .slice none 0 0, .int .i64 0, .int .u8 o.k, .slice o.A o.b.length o.c, .int .i64 o.n, .int .u8 2, .slice none 0 0, .int .i64 0] 39))
    (hb : RB w 0 o.A o.b) (hc : o.b.length ≤ o.c) (hl : o.b.length ≤ 1) : Ops w (some ⟨g, 0, none⟩) 3 [⟨2, none, 0, [], 0⟩, o, ⟨2, none, 0, [], 0⟩] := by
  refine ⟨rfl, fun _ => ⟨_, rfl, fun i hi => ?_⟩⟩
  have cl : ∀ j, w.cell? ((⟨g, 0, none⟩ : Addr).add j) = w.cell? ⟨g, j, none⟩ := fun j => by congr 1; unfold Addr.add; split <;> simp_all
  have hcc : ∀ j, w.cell? ⟨g, j, none⟩ = (#[.int .u8 2, .slice none 0 0, .int .i64 0, .int .u8 o.k, .slice o.A o.b.length o.c, .int .i64 o.n, .int .u8 2, .slice none 0 0, .int .i64 0] : Array Value)[j]? := fun j => by
    unfold World.cell?; rw [hg]; rfl
  have h3' : i = 0 ∨ i = 1 ∨ i = 2 := by simp at hi; omega
  rcases h3' with rfl | rfl | rfl
  · simp only [cl, hcc]; exact ⟨rfl, rfl, rfl, RB.nil, Nat.le_refl _, by simp⟩
  · simp only [cl, hcc]; exact ⟨rfl, rfl, rfl, hb, hc, by simp; omega⟩
  · simp only [cl, hcc]; exact ⟨rfl, rfl, rfl, RB.nil, Nat.le_refl _, by simp⟩
theorem zbox_facts {w : World} {h : Nat} (hg : w.heap[h]? = some (.cells #[.slice none 0 0, .slice none 0 0, .int .i64 0, .bool false] 26)) : w.cell? ⟨h, 0, none⟩ = some (.slice none 0 0) ∧ w.cell? ⟨h, 1, none⟩ = some (.slice none 0 0) ∧ w.cell? ⟨h, 2, none⟩ = some (.int .i64 0) ∧ w.cell? ⟨h, 3, none⟩ = some (.bool false) ∧ w.frozen? ⟨h, 0, none⟩ = false ∧ w.frozen? ⟨h, 1, none⟩ = false ∧ w.frozen? ⟨h, 2, none⟩ = false ∧ w.frozen? ⟨h, 3, none⟩ = false := by
  unfold World.cell? World.frozen?
  rw [hg]
  exact ⟨rfl, rfl, rfl, rfl, rfl, rfl, rfl, rfl⟩
theorem run_many (A B : Option Addr) (ca cb : Nat) (s t : List UInt8) (cap : Int) (dn : Bool) (w : World) (ls : s.length ≤ 1000000) (lt : t.length ≤ 1000000) (hnb : ¬ bad ⟨s, t, cap, dn⟩) (C : Option Addr) (n c : Nat) (hn : 200 < n) :
    Calls Try.prog 22 #[.agg #[.slice A s.length ca, .slice B t.length cb, .int .i64 cap, .bool dn], .slice C n c] w (RetDev3 w (Disk.zero, 0, 4)) := by
  have HB := Lib.hid hnb; clear hnb
  have hnn : (200 : Int) < (n : Int) := by omega
  go_enter Try.func22, Try.ntmps22
  go_wp2_with fail
  refine (check_any A B ca cb s t cap dn _ ls lt).mono ?_
  rintro e w1 ⟨r, hr, rfl, hz⟩
  obtain rfl : r = 0 := by rw [hr.out, check_ok HB.out]
  have zq0 := hz.at (p := ⟨w.heap.size + 1, 0, none⟩) (v := .slice none 0 0) (by simp [go_sem]); have zq1 := hz.at (p := ⟨w.heap.size + 1, 1, none⟩) (v := .slice none 0 0) (by simp [go_sem]); have zq2 := hz.at (p := ⟨w.heap.size + 1, 2, none⟩) (v := .int .i64 0) (by simp [go_sem]); have zq3 := hz.at (p := ⟨w.heap.size + 1, 3, none⟩) (v := .bool false) (by simp [go_sem])
  have zr0 : w1.frozen? ⟨w.heap.size + 1, 0, none⟩ = false := (hz.frozen (p := ⟨w.heap.size + 1, 0, none⟩) (by simp)).trans (by simp [go_sem]); have zr1 : w1.frozen? ⟨w.heap.size + 1, 1, none⟩ = false := (hz.frozen (p := ⟨w.heap.size + 1, 1, none⟩) (by simp)).trans (by simp [go_sem]); have zr2 : w1.frozen? ⟨w.heap.size + 1, 2, none⟩ = false := (hz.frozen (p := ⟨w.heap.size + 1, 2, none⟩) (by simp)).trans (by simp [go_sem]); have zr3 : w1.frozen? ⟨w.heap.size + 1, 3, none⟩ = false := (hz.frozen (p := ⟨w.heap.size + 1, 3, none⟩) (by simp)).trans (by simp [go_sem])
  go_wp2
  refine bodyPost_ret (v := .tuple #[.agg #[.slice none 0 0, .slice none 0 0, .int .i64 0, .bool false], .int .i64 0, .int .i64 4]) (by simp [results, Try.results22, go_sem, zq0, zq1, zq2, zq3]) rfl ?_
  exact RetDev3.zero rfl (by repeat (first | with_reducible exact Ab.refl _ | with_reducible assumption | with_reducible refine Ab.drew ?_ | with_reducible refine Ab.drewN ?_ _ | with_reducible refine Ab.alloc ?_ _ | with_reducible refine Ab.trans ?_ (by assumption) | with_reducible refine Ab.set ?_ (by first | (simp; done) | omega | (simp; omega)) _))
theorem or_set4 {e : TypeId} {lo g : Nat} {w : World} {A : Option Addr} {c : Nat} {l : List UInt8} (h : OR e lo w A c l) (hg : g < lo) (u0 u1 u2 u3 : Value) :
    RB ((((w.setCell ⟨g, 0, none⟩ u0).setCell ⟨g, 1, none⟩ u1).setCell ⟨g, 2, none⟩ u2).setCell ⟨g, 3, none⟩ u3) 0 A l :=
  ((((h.set hg u0).set hg u1).set hg u2).set hg u3).rb.zero
/-- Behind the call in the loop: what it returned lies in a variable of its own. -/
def BadRel (w : World) (v52 v53 v54 : Value) (wx : World) : Prop :=
  ∃ (h : Nat) (D : Option Addr) (cd : Nat), v52 = .pointer (some ⟨h, 0, none⟩) ∧ v53 = .int .i64 1 ∧ v54 = .int .i64 2 ∧ wx.cell? ⟨h, 0, none⟩ = some (.slice D 5 cd) ∧ RB wx 0 D [97, 98, 99, 100, 101] ∧ Ab w wx
/-- Behind the last call. -/
def ManyRel (w : World) (v56 v57 : Value) (wx : World) : Prop := v56 = .int .i64 0 ∧ v57 = .int .i64 4 ∧ Ab w wx
/-- A script whose second operation is not valid. -/
theorem bad_run (o : Disk.Op) (h : ¬ o.ok) : Disk.run ⟨[97, 98], [99, 100, 101], 10, false⟩ [⟨2, [], 0⟩, o, ⟨2, [], 0⟩] = (⟨[97, 98, 99, 100, 101], [], 10, false⟩, 1, 2) := by
  rw [run_ok (by decide) (by simp), steps_cons (by rfl)]
  rw [show (Disk.step ⟨[97, 98], [99, 100, 101], 10, false⟩ ⟨2, [], 0⟩).1 = ⟨[97, 98, 99, 100, 101], [], 10, false⟩ by rfl]
  have hs : Disk.step ⟨[97, 98, 99, 100, 101], [], 10, false⟩ o = (Disk.zero, 2) := if_pos h
  rw [steps_err (by rw [hs]; decide), hs]; rfl
end Go.Proofs.Ytojhdecgipjkeaa
