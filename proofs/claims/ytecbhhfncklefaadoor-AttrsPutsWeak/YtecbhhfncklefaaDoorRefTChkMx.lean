/- 'Check' of the document: points of time; nothing that was there turns. -/
import Derived.Test.YtecbhhfncklefaaDoorTimeEqKokMathPNeedPiecesMx
namespace Go.Proofs.YtecbhhfncklefaaDoor
set_option linter.unusedVariables false
open Go.RowKit

set_option maxRecDepth 100000 in
set_option maxHeartbeats 400000 in
theorem reftcheck_any (s n : Int) (w : World) : Calls Tryd.prog 26 #[.agg #[.int .u32 s, .int .u32 n]] w fun e w' => e = .returned (.bool (tok n)) ∧ Below w.heap.size w w' := by
  have hB1 : Below w.heap.size w (w.alloc (.cells #[.int .u32 s, .int .u32 n] 26)) := (Below.refl _ _).alloc (Nat.le_refl _) _
  go_enter Tryd.func26, Tryd.ntmps26
  go_wp2
  go_ret
  exact ⟨rfl, hB1⟩
end Go.Proofs.YtecbhhfncklefaaDoor
