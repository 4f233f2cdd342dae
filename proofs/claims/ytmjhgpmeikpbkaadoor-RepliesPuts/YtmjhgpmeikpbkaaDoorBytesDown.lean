/- From what a row's frame tells of bytes and of a number that came in to these themselves. -/
import Derived.Test.YtmjhgpmeikpbkaaDoorRows
import Derived.Test.YtmjhgpmeikpbkaaDoorBase
import Derived.SizedLaws
import Derived.Below
namespace Go.Proofs.YtmjhgpmeikpbkaaDoor
set_option linter.unusedVariables false
open Go.RowKit Go.ChangeShapes Go.WideShapes Go.ChangeAt

theorem bytes_down {H : Type} {enc : TypeId × Value → H} {W : World} {fuel : Nat} {held : Bool} {v : Value} {x : DataW H × List MemPlace}
    (h : DataW.trod enc Tryd.prog W 0 (fun _ => true) held fuel 24 [v] = some x) (hw : ∀ n ∈ x.1.weights Tryd.prog 24, n ≤ reachBytes) :
    ∃ a len cap, v = .slice a len cap ∧ len ≤ cap ∧ cap ≤ 140737488351232 ∧ ∃ gs : List Int, gs.length = len ∧ Byt gs ∧ Seg W a gs ∧ (a = none → len = 0 ∧ cap = 0) := by
  rcases open_ints Tryd.underlying24 Tryd.underlying5 (by kernel_rfl) h with ⟨hcs, _⟩ | ⟨ad, l, c, zs, hcs, _, hl, hm, hz, hx, hcell, hwz⟩
  · simp at hcs
    subst hcs
    exact ⟨none, 0, 0, rfl, Nat.le_refl _, by omega, [], rfl, fun i => by simp, .inl rfl, fun _ => ⟨rfl, rfl⟩⟩
  · simp at hcs
    subst hcs
    have hz' : zs.length = c := by simpa using hz
    obtain ⟨_, _, gs, h1, h2, h3⟩ := row_seg (w := W) (a := some ad) (len := l) (cap := c) (zs := zs) (.inr ⟨ad, rfl, hl, hm, hz', hcell, hwz⟩)
    refine ⟨some ad, l, c, rfl, hl, ?_, gs, h1, h2, h3, by simp⟩
    subst hx
    have hr := hw _ (by simp only [DataW.weights, Tryd.underlying24]; exact List.mem_cons_self)
    rw [show Tryd.prog.bytesOf 5 = 1 from by kernel_rfl] at hr
    simp only [lits, List.length_map, List.length_take, List.length_drop, reachBytes] at hr
    omega

theorem num_down {H : Type} {enc : TypeId × Value → H} {W : World} {fuel : Nat} {held : Bool} {v : Value} {x : DataW H × List MemPlace} (h : DataW.trod enc Tryd.prog W 0 (fun _ => true) held fuel 22 [v] = some x) : ∃ n : Int, v = .int .u32 n ∧ 0 ≤ n ∧ n ≤ 4294967295 := by
  obtain ⟨u, e0, _, wu⟩ := DataW.trod_int Tryd.underlying22 h
  simp at e0
  have := bounds_u32 wu
  exact ⟨u, e0, this.1, by omega⟩
end Go.Proofs.YtmjhgpmeikpbkaaDoor
