/- What is owned, as a value and its bytes; nothing is claimed of the program here. -/
import Derived.Test.YtciinabhelfnoaaDoorBookMany
import Derived.Test.YtciinabhelfnoaaDoorTwin4Left4M
import Derived.Test.YtciinabhelfnoaaDoorTwinLeftM
namespace Go.Proofs.YtciinabhelfnoaaDoor
set_option linter.unusedVariables false
open Go.RowKit

theorem cell_one (w : World) (t : TypeId) (x : Nat) : ∀ i, (h : i < [x].length) → (w.alloc (.cells #[.int .i64 (x : Int)] t)).cell? ⟨w.heap.size, i, none⟩ = some (.int .i64 ([x][i] : Nat)) := by
  intro i hi
  match i, hi with
  | 0, _ => simp

/-- What is owned is a slice of so many, and its bytes lie there. -/
theorem got_val {w : World} {base e n : Nat} {v : Value} {zs : List Int} (h : w.ownsRow base e 1 v n (zs.map (Value.int .u8))) (hz : zs.length = n) : ∃ a c, v = .slice a n c ∧ Seg w a zs ∧ n ≤ c := by
  rcases h.2 with ⟨rfl, h0⟩ | ⟨g, cap, cur, rfl, hg, hh, h1, h2, r⟩
  · subst h0
    exact ⟨none, 0, rfl, .inl (List.length_eq_zero_iff.1 hz), by omega⟩
  · exact ⟨_, cap, rfl, seg_own h hz, h1⟩

theorem own_self {w : World} {base e g n cap size : Nat} {xs : List Value} (h : w.ownsRow base e size (.slice (some ⟨g, 0, none⟩) n cap) n xs) : w.ownsRow g e size (.slice (some ⟨g, 0, none⟩) n cap) n xs := by
  refine ⟨h.1, ?_⟩
  rcases h.2 with ⟨h1, _⟩ | ⟨g', cap', cur, hv, _, r⟩
  · cases h1
  · cases hv
    exact .inr ⟨g, cap, cur, rfl, Nat.le_refl _, r⟩
end Go.Proofs.YtciinabhelfnoaaDoor

/- The twin as a row of its own; nothing is claimed of the program here. -/
namespace Go.Proofs.YtciinabhelfnoaaDoor
set_option linter.unusedVariables false
open Go.RowKit

/-- The twin of these bytes lies in block g, the mark behind them. -/
structure Twinned4 (w : World) (g : Nat) (zs : List Int) (W : World) : Prop where
  below : Below w.heap.size w W
  row : W.ownsRow w.heap.size 22 1 (.slice (some ⟨g, 0, none⟩) (zs.length + 1) (zs.length + 1)) (zs.length + 1) ((zs ++ [77]).map (Value.int .u32))

theorem Twinned4.next {w : World} {g : Nat} {zs : List Int} {W W' : World} (h : Twinned4 w g zs W) (hb : Below W.heap.size W W') : Twinned4 w g zs W' := ⟨h.below.trans (hb.mono h.below.size), own_below h.row hb⟩
theorem Twinned4.drewN {w : World} {g : Nat} {zs : List Int} {W : World} (h : Twinned4 w g zs W) (j : Nat) : Twinned4 w g zs (W.drewN j) := h.next (below_drewN (Below.refl _ _) j)
theorem Twinned4.twin {w : World} {g : Nat} {zs : List Int} {W : World} (h : Twinned4 w g zs W) : IsTwin4 W g zs := by
  obtain ⟨h1, h2⟩ := twin4_cells rfl (own_self h.row)
  exact ⟨h1, h2⟩
theorem Twinned4.seg {w : World} {g : Nat} {zs : List Int} {W : World} (h : Twinned4 w g zs W) : Seg4 W (some ⟨g, 0, none⟩) zs := h.twin.seg
theorem Twinned4.own {w : World} {g : Nat} {zs : List Int} {W : World} {len : Nat} (h : Twinned4 w g zs W) (hz : zs.length = len) : W.ownsRow w.heap.size 22 1 (.slice (some ⟨g, 0, none⟩) len (len + 1)) len (zs.map (Value.int .u32)) := by
  subst hz
  have := own_cut h.row (m := zs.length) (by omega)
  rwa [← List.map_take, List.take_left' rfl] at this
end Go.Proofs.YtciinabhelfnoaaDoor

/- The twin as a row of its own; nothing is claimed of the program here. -/
namespace Go.Proofs.YtciinabhelfnoaaDoor
set_option linter.unusedVariables false
open Go.RowKit

/-- The twin of these bytes lies in block g, the mark behind them. -/
structure Twinned (w : World) (g : Nat) (zs : List Int) (W : World) : Prop where
  below : Below w.heap.size w W
  row : W.ownsRow w.heap.size 5 1 (.slice (some ⟨g, 0, none⟩) (zs.length + 1) (zs.length + 1)) (zs.length + 1) ((zs ++ [77]).map (Value.int .u8))

theorem Twinned.next {w : World} {g : Nat} {zs : List Int} {W W' : World} (h : Twinned w g zs W) (hb : Below W.heap.size W W') : Twinned w g zs W' := ⟨h.below.trans (hb.mono h.below.size), own_below h.row hb⟩
theorem Twinned.drewN {w : World} {g : Nat} {zs : List Int} {W : World} (h : Twinned w g zs W) (j : Nat) : Twinned w g zs (W.drewN j) := h.next (below_drewN (Below.refl _ _) j)
theorem Twinned.twin {w : World} {g : Nat} {zs : List Int} {W : World} (h : Twinned w g zs W) : IsTwin W g zs := by
  obtain ⟨h1, h2⟩ := twin_cells rfl (own_self h.row)
  exact ⟨h1, h2⟩
theorem Twinned.seg {w : World} {g : Nat} {zs : List Int} {W : World} (h : Twinned w g zs W) : Seg W (some ⟨g, 0, none⟩) zs := h.twin.seg
theorem Twinned.own {w : World} {g : Nat} {zs : List Int} {W : World} {len : Nat} (h : Twinned w g zs W) (hz : zs.length = len) : W.ownsRow w.heap.size 5 1 (.slice (some ⟨g, 0, none⟩) len (len + 1)) len (zs.map (Value.int .u8)) := by
  subst hz
  have := own_cut h.row (m := zs.length) (by omega)
  rwa [← List.map_take, List.take_left' rfl] at this
end Go.Proofs.YtciinabhelfnoaaDoor
