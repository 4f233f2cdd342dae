/- From what a row's frame tells of a point of time that came in to its two numbers. -/
import Derived.Test.YtjognjggampejaaDoorBase
import Derived.Test.YtjognjggampejaaDoorRows
import Derived.Lib.SmallJoins
namespace Go.Proofs.YtjognjggampejaaDoor
set_option linter.unusedVariables false
open Go.RowKit Go.ChangeShapes Go.WideShapes Go.ChangeAt

set_option maxRecDepth 100000 in
theorem time_down {H : Type} {enc : TypeId × Value → H} {W : World} {held : Bool} {r : Reach} {b0 : Nat} {v : Value} {d : DataW H} {p : List MemPlace} (hv : Value.okWide Tryd.prog W r b0 24 v)
    (h : DataW.Trod enc Tryd.prog W 0 (fun _ => true) held 24 v d p) : ∃ n g : Int, v = .agg #[.int .u32 n, .int .u32 g] ∧ (0 ≤ n ∧ n ≤ 4294967295) ∧ (0 ≤ g ∧ g ≤ 4294967295) := by
  obtain ⟨v0, v1, y0, y1, n, rfl, rfl, rfl, h0, h1⟩ := Go.Joins.open_agg2 Tryd.underlying24 (by kernel_rfl) (by kernel_rfl) hv h
  obtain ⟨u, e0, _, wu⟩ := DataW.trod_int Tryd.underlying22 h0
  obtain ⟨g, e1, _, wg⟩ := DataW.trod_int Tryd.underlying22 h1
  simp at e0 e1
  subst e0
  subst e1
  have bu := bounds_u32 wu
  have bg := bounds_u32 wg
  exact ⟨u, g, rfl, ⟨bu.1, by omega⟩, ⟨bg.1, by omega⟩⟩
end Go.Proofs.YtjognjggampejaaDoor
