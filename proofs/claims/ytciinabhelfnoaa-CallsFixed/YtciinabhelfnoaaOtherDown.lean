/- From what a row's frame tells of another number that came in to its fields themselves. -/
import Derived.Test.YtciinabhelfnoaaCallDown
namespace Go.Proofs.Ytciinabhelfnoaa
set_option linter.unusedVariables false
open Go.RowKit Go.ChangeShapes Go.WideShapes Go.ChangeAt

set_option maxRecDepth 100000 in
theorem other_down {H : Type} {enc : TypeId × Value → H} {W : World} {held : Bool} {r : Reach} {b0 : Nat} {v : Value} {d : DataW H} {p : List MemPlace} (hv : Value.okWide Try.prog W r b0 45 v)
    (h : DataW.Trod enc Try.prog W 0 (fun _ => true) held 45 v d p) (hw : ∀ n ∈ d.weights Try.prog 45, n ≤ reachBytes) :
    ∃ k n a len cap, v = .agg #[.int .u8 k, .int .u32 n, .slice a len cap] ∧ (0 ≤ k ∧ k ≤ 255) ∧ (0 ≤ n ∧ n ≤ 4294967295) ∧ len ≤ cap ∧ cap ≤ 140737488351232 ∧ ∃ zs : List Int, zs.length = len ∧ Byt zs ∧ Seg W a zs ∧ (a = none → len = 0 ∧ cap = 0) := by
  obtain ⟨v0, v1, v2, y0, y1, y2, n, rfl, rfl, rfl, h0, h1, h2⟩ := Go.Joins.open_agg3 Try.underlying45 (by kernel_rfl) (by kernel_rfl) hv h
  obtain ⟨u, e0, _, wu⟩ := DataW.trod_int Try.underlying5 h0
  obtain ⟨g, e1, _, wg⟩ := DataW.trod_int Try.underlying22 h1
  simp at e0 e1
  subst e0
  subst e1
  obtain ⟨a, len, cap, rfl, hlc, hm, gs, hz, hu, hs, hn⟩ := bytes_down h2 (fun n hn => hw n (by
    simp only [DataW.weights, Try.underlying45]
    exact DataW.weights_mem_each (j := 2) rfl rfl n hn))
  have bu := bounds_u8 wu
  have bg := bounds_u32 wg
  exact ⟨u, g, a, len, cap, rfl, ⟨bu.1, by omega⟩, ⟨bg.1, by omega⟩, hlc, hm, gs, hz, hu, hs, hn⟩
end Go.Proofs.Ytciinabhelfnoaa
