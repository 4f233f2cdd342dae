/- Bytes of its own that are appended to; nothing is claimed of the program here. -/
import Derived.Test.YtmanblfmdpdfoabBase
import Derived.Test.YtmanblfmdpdfoabPieces
import Derived.Test.YtmanblfmdpdfoabCredMath2
import Derived.Test.YtmanblfmdpdfoabCredCells
namespace Go.Proofs.Ytmanblfmdpdfoab
set_option linter.unusedVariables false
open Go.RowKit

theorem low_cells {w3 W : World} {H : Nat} {x y z : Value} {t : TypeId} (h : Below w3.heap.size w3 W) (hc : w3.heap[H]? = some (.cells #[x, y, z] t)) : W.cell? ⟨H, 0, none⟩ = some x ∧ W.cell? ⟨H, 1, none⟩ = some y ∧ W.cell? ⟨H, 2, none⟩ = some z :=
  have := cred_at ((h.block _ (Array.getElem?_eq_some_iff.1 hc).1).trans hc)
  ⟨this.1, this.2.1, this.2.2.1⟩

/-- Bytes of its own since w3, and w3 as it was. -/
structure Px (w3 : World) (vx : Value) (xs : List Int) (W : World) : Prop where
  below : Below w3.heap.size w3 W
  own : W.ownsRow w3.heap.size 5 1 vx xs.length (xs.map (Value.int .u8))
theorem Px.next {w3 : World} {vx : Value} {xs : List Int} {W W' : World} (h : Px w3 vx xs W) (hb : Below W.heap.size W W') : Px w3 vx xs W' := ⟨h.below.trans (hb.mono h.below.size), own_below h.own hb⟩
theorem Px.app {w3 : World} {vx v' : Value} {xs ys : List Int} {W W' : World} {n : Nat} (h : Px w3 vx xs W) (ho : W'.ownsRow w3.heap.size 5 1 v' (xs.length + n) (xs.map (Value.int .u8) ++ ys.map (Value.int .u8))) (hn : ys.length = n) (hg : W.grownBy W' vx.ownBlock) : Px w3 v' (xs ++ ys) W' :=
  ⟨h.below.grown hg h.below.size (fun k e => own_low h.own e), by rw [List.length_append, hn, List.map_append]; exact ho⟩

theorem credB_six (s : Int) (m : List Int) (u g : Int) (gs : List Int) : credB s m u g gs = bytesOf s 4 ++ opBytes m ++ bytesOf u 4 ++ bytesOf g 4 ++ bytesOf (gs.length : Int) 4 ++ numsB gs := by
  rw [credB, numsB_one, numsB_three]
  simp only [List.append_assoc]
end Go.Proofs.Ytmanblfmdpdfoab
