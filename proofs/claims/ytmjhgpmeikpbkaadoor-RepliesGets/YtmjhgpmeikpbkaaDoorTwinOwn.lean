/- The twin as a row of its own; nothing is claimed of the program here. -/
import Derived.Test.YtmjhgpmeikpbkaaDoorTwin
import Derived.Test.YtmjhgpmeikpbkaaDoorOwnGot
namespace Go.Proofs.YtmjhgpmeikpbkaaDoor
set_option linter.unusedVariables false
open Go.RowKit

/-- The twin of these bytes lies in block g, the mark behind them. -/
structure Twinned (w : World) (g : Nat) (zs : List Int) (W : World) : Prop where
  below : Below w.heap.size w W
  row : W.ownsRow w.heap.size 5 1 (.slice (some ⟨g, 0, none⟩) (zs.length + 1) (zs.length + 1)) (zs.length + 1) ((zs ++ [77]).map (Value.int .u8))

theorem Twinned.next {w : World} {g : Nat} {zs : List Int} {W W' : World} (h : Twinned w g zs W) (hb : Below W.heap.size W W') : Twinned w g zs W' := ⟨h.below.trans (hb.mono h.below.size), own_below h.row hb⟩
theorem Twinned.drewN {w : World} {g : Nat} {zs : List Int} {W : World} (h : Twinned w g zs W) (j : Nat) : Twinned w g zs (W.drewN j) := h.next (below_drewN (Below.refl _ _) j)
theorem Twinned.twin {w : World} {g : Nat} {zs : List Int} {W : World} (h : Twinned w g zs W) : IsTwin W g zs := by
  obtain ⟨h1, h2⟩ := twin_cells rfl (own_self h.row)
  exact ⟨h1, h2⟩
theorem Twinned.seg {w : World} {g : Nat} {zs : List Int} {W : World} (h : Twinned w g zs W) : Seg W (some ⟨g, 0, none⟩) zs := h.twin.seg
theorem Twinned.own {w : World} {g : Nat} {zs : List Int} {W : World} {len : Nat} (h : Twinned w g zs W) (hz : zs.length = len) : W.ownsRow w.heap.size 5 1 (.slice (some ⟨g, 0, none⟩) len (len + 1)) len (zs.map (Value.int .u8)) := by
  subst hz
  have := own_cut h.row (m := zs.length) (by omega)
  rwa [← List.map_take, List.take_left' rfl] at this
end Go.Proofs.YtmjhgpmeikpbkaaDoor
