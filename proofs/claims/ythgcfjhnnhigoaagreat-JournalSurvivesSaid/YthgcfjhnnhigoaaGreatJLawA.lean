/- JournalSteps, walked; written by genjsteps.py. Own work. -/
import Derived.Test.YthgcfjhnnhigoaaGreatGL
import Derived.Test.YthgcfjhnnhigoaaGreatJOpen
import Derived.Test.YthgcfjhnnhigoaaGreatGN
set_option linter.unusedVariables false
set_option linter.unusedSimpArgs false
namespace Go.Proofs.YthgcfjhnnhigoaaGreat
open Go.RowKit
open Slots (Sl)

theorem JM.stored {w w' : World} {b : Nat} {us : List Value} {a : JA} {x : JX} (h : JM w a x) (k : Stored w b us w') : JM w' a x :=
  ⟨k.slm h.s, ⟨k.rb _ _ _ h.l.p, k.rb _ _ _ h.l.q, h.l.lp, h.l.lq, h.l.np, h.l.nq⟩, h.hc⟩
section
variable {ops : Array Oper} {rest : List Oper} {o : Oper} {a : Act} {w w' : World} {b : Nat} {vs : List Value}
theorem list_ldJg {Q : Exit → Act → World → Prop} (hw : Region.wanted o (yielded ops a.tmps) = true) (x : Operand) (ho : o.op = .load 32 x) (hx : a.eval x = .pointer (some ⟨b, 0, none⟩)) (hv : VB w b vs) (hl : vs.length = 23)
    (h : wpList Tryz.prog ops Q rest (a.put o.dst (.agg vs.toArray)) w) : wpList Tryz.prog ops Q (o :: rest) a w :=
  wpList_step fun K hK => by
    rw [if_pos hw]
    exact wp_load_mid _ x ho b 0 hx vs _ hv.range Tryz.underlying32 rfl (by rw [infoJ, hl]) (hK _ _ h)
end
theorem JAr.jm {w : World} {a : JA} {x : JX} (h : JAr w a x) (hg : ¬ greatJ x) : JM w a x := by
  have h1 : ¬ Slots.great x.s := fun k => hg (.inl k)
  have h2 := great4B_false (a := x.l.dev.s.length) (b := x.l.dev.t.length) (by
    cases e : great4B x.l.dev.s.length x.l.dev.t.length with
    | true => exact absurd (.inr e) hg
    | false => rfl)
  unfold Slots.great at h1
  exact ⟨⟨h.s.a, h.s.b, h.s.c, h.s.d, h.s.la, h.s.lb, h.s.lc, h.s.ld, by omega, by omega, by omega, by omega⟩, ⟨h.l.p, h.l.q, h.l.lp, h.l.lq, by omega, by omega⟩, h.hc⟩
end Go.Proofs.YthgcfjhnnhigoaaGreat
