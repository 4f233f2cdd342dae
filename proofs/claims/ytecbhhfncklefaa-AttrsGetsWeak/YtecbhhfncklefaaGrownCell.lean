/- What a store, a draw, a call turns: plain words on worlds; nothing is claimed of the program here. -/
import Derived.Test.YtecbhhfncklefaaBase
import Derived.Maps.AppendAt
namespace Go.Proofs.Ytecbhhfncklefaa
set_option linter.unusedVariables false
open Go.RowKit

theorem grown_cell (W : World) (h i : Nat) (v : Value) : W.grownBy (W.setCell ⟨h, i, none⟩ v) (some h) :=
  ⟨rfl, rfl, rfl, by simp [World.setCell], fun k _ hne => Below.heap_setCell _ _ _ _ (fun e => hne (by rw [e]))⟩
theorem grown_same (W : World) (g : Option Nat) : W.grownBy W g := ⟨rfl, rfl, rfl, Nat.le_refl _, fun _ _ _ => rfl⟩
theorem grown_drew (W : World) (g : Option Nat) : W.grownBy W.drew g := ⟨rfl, rfl, rfl, Nat.le_refl _, fun _ _ _ => rfl⟩
theorem grown_below {W W' : World} (hb : Below W.heap.size W W') (g : Option Nat) : W.grownBy W' g := ⟨hb.os, hb.tape, hb.output, hb.size, fun k hk _ => hb.block k hk⟩
end Go.Proofs.Ytecbhhfncklefaa
