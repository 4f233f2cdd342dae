/- From what a row's frame tells of one who calls that came in to the fields themselves. -/
import Derived.Test.YtciinabhelfnoaaDoorRows
import Derived.Test.YtciinabhelfnoaaDoorSameNumsM
import Derived.Lib.SmallJoins
import Derived.SizedLaws
import Derived.OpenShut
namespace Go.Proofs.YtciinabhelfnoaaDoor
set_option linter.unusedVariables false
open Go.RowKit Go.ChangeShapes Go.WideShapes Go.ChangeAt

theorem nums_down {H : Type} {enc : TypeId × Value → H} {W : World} {fuel : Nat} {held : Bool} {v : Value} {x : DataW H × List MemPlace}
    (h : DataW.trod enc Tryd.prog W 0 (fun _ => true) held fuel 23 [v] = some x) (hw : ∀ n ∈ x.1.weights Tryd.prog 23, n ≤ reachBytes) :
    ∃ a len cap, v = .slice a len cap ∧ len ≤ cap ∧ cap ≤ 140737488351232 ∧ ∃ gs : List Int, gs.length = len ∧ U32s gs ∧ Seg4 W a gs ∧ (a = none → len = 0 ∧ cap = 0) := by
  rcases open_ints Tryd.underlying23 Tryd.underlying22 (by kernel_rfl) h with ⟨hcs, _⟩ | ⟨ad, l, c, zs, hcs, _, hl, hm, hz, hx, hcell, hwz⟩
  · simp at hcs
    subst hcs
    exact ⟨none, 0, 0, rfl, Nat.le_refl _, by omega, [], rfl, fun i => by simp, .inl rfl, fun _ => ⟨rfl, rfl⟩⟩
  · simp at hcs
    subst hcs
    have hz' : zs.length = c := by simpa using hz
    obtain ⟨_, _, gs, h1, h2, h3⟩ := row_seg4 (w := W) (a := some ad) (len := l) (cap := c) (zs := zs) (.inr ⟨ad, rfl, hl, hm, hz', hcell, hwz⟩)
    refine ⟨some ad, l, c, rfl, hl, ?_, gs, h1, h2, h3, by simp⟩
    subst hx
    have hr := hw _ (by simp only [DataW.weights, Tryd.underlying23]; exact List.mem_cons_self)
    rw [show Tryd.prog.bytesOf 22 = 4 from by kernel_rfl] at hr
    simp only [lits, List.length_map, List.length_take, List.length_drop, reachBytes] at hr
    omega

set_option maxRecDepth 100000 in
theorem cred_down {H : Type} {enc : TypeId × Value → H} {W : World} {held : Bool} {r : Reach} {b0 : Nat} {v : Value} {d : DataW H} {p : List MemPlace} (hv : Value.okWide Tryd.prog W r b0 25 v)
    (h : DataW.Trod enc Tryd.prog W 0 (fun _ => true) held 25 v d p) (hw : ∀ n ∈ d.weights Tryd.prog 25, n ≤ reachBytes) :
    ∃ u g a len cap, v = .agg #[.int .u32 u, .int .u32 g, .slice a len cap] ∧ (0 ≤ u ∧ u ≤ 4294967295) ∧ (0 ≤ g ∧ g ≤ 4294967295) ∧ len ≤ cap ∧ cap ≤ 140737488351232 ∧ ∃ gs : List Int, gs.length = len ∧ U32s gs ∧ Seg4 W a gs ∧ (a = none → len = 0 ∧ cap = 0) := by
  obtain ⟨v0, v1, v2, y0, y1, y2, n, rfl, rfl, rfl, h0, h1, h2⟩ := Go.Joins.open_agg3 Tryd.underlying25 (by kernel_rfl) (by kernel_rfl) hv h
  obtain ⟨u, e0, _, wu⟩ := DataW.trod_int Tryd.underlying22 h0
  obtain ⟨g, e1, _, wg⟩ := DataW.trod_int Tryd.underlying22 h1
  simp at e0 e1
  subst e0
  subst e1
  obtain ⟨a, len, cap, rfl, hlc, hm, gs, hz, hu, hs, hn⟩ := nums_down h2 (fun n hn => hw n (by
    simp only [DataW.weights, Tryd.underlying25]
    exact DataW.weights_mem_each (j := 2) rfl rfl n hn))
  have bu := bounds_u32 wu
  have bg := bounds_u32 wg
  exact ⟨u, g, a, len, cap, rfl, ⟨bu.1, by omega⟩, ⟨bg.1, by omega⟩, hlc, hm, gs, hz, hu, hs, hn⟩
end Go.Proofs.YtciinabhelfnoaaDoor
