/- From what a card's condition tells of the laid variable to its cells. -/
import Derived.Test.YtmjhgpmeikpbkaaDoorRepRows
import Derived.LaidMore
import Derived.Stop.LaidErr
namespace Go.Proofs.YtmjhgpmeikpbkaaDoor
set_option linter.unusedVariables false
open Go.RowKit Go.ChangeShapes Go.WideShapes Go.ChangeAt

theorem gAny : Tryd.prog.globalNamed "wharfinger/replies.anyNumber" = some 0 := by kernel_rfl
theorem tAny : (Tryd.prog.globals[0]?).map (·.type) = some 55 := by kernel_rfl

set_option maxRecDepth 100000 in
theorem any_met {W : World} (h : laidMet Tryd.prog [("wharfinger/replies.anyNumber", Rows.laid_wharfinger_replies_anyNumber)] W) : Any W := by
  obtain ⟨ps, ⟨g0, t0, cs0, f0, p0, q0, hg0, ht0, hv0, hd0, _, _⟩, _, _⟩ := h
  obtain rfl := Option.some.inj (gAny.symm.trans hg0)
  obtain rfl := Option.some.inj (tAny.symm.trans ht0)
  obtain ⟨y0, y1, n, hx, hl, h0, h1⟩ := trod_struct2 Tryd.underlying55 hd0
  have c4 : Tryd.prog.cellsOf 22 = 1 := by kernel_rfl
  rw [c4] at h0 h1
  obtain ⟨u, e0, r0, _⟩ := DataW.trod_int Tryd.underlying22 h0
  obtain ⟨v, e1, r1, _⟩ := DataW.trod_int Tryd.underlying22 h1
  rw [r0, r1] at hx
  simp only [Rows.laid_wharfinger_replies_anyNumber, Prod.mk.injEq, DataW.agg.injEq, List.cons.injEq, DataW.lit.injEq, Lit.int.injEq, true_and, and_true] at hx
  have k0 := World.var?_cell hg0 hv0 0
  have k1 := World.var?_cell hg0 hv0 1
  obtain ⟨l⟩ := cs0
  have hl2 : l.length = 2 := by
    have : Tryd.prog.cellsOf 55 = 2 := by kernel_rfl
    rw [this] at hl
    simpa using hl
  match l, hl2 with
  | [c, d], _ =>
    simp at e0 e1 k0 k1
    subst e0
    subst e1
    obtain ⟨⟨rfl, rfl⟩, _⟩ := hx
    exact ⟨by simpa using k0, by simpa using k1⟩

theorem any_laid {W : World} (h : laidMetH Tryd.prog [("wharfinger/replies.anyNumber", Rows.laid_wharfinger_replies_anyNumber)] W) : Any W := by
  rw [MakeChecks.laidMetH_plain _ _ _ (by kernel_rfl)] at h
  exact any_met h
end Go.Proofs.YtmjhgpmeikpbkaaDoor
