/- 'Check' of the document: points of time; nothing that was there turns. -/
import Derived.Test.YtecbhhfncklefaaTimeEq
namespace Go.Proofs.Ytecbhhfncklefaa
set_option linter.unusedVariables false
open Go.RowKit

set_option maxRecDepth 100000 in
set_option maxHeartbeats 400000 in
theorem reftcheck_any (s n : Int) (w : World) : Calls Try.prog 37 #[.agg #[.int .u32 s, .int .u32 n]] w fun e w' => e = .returned (.bool (tok n)) ∧ Below w.heap.size w w' := by
  have hB1 : Below w.heap.size w (w.alloc (.cells #[.int .u32 s, .int .u32 n] 29)) := (Below.refl _ _).alloc (Nat.le_refl _) _
  go_enter Try.func37, Try.ntmps37
  go_wp2
  go_ret
  exact ⟨rfl, hB1⟩
end Go.Proofs.Ytecbhhfncklefaa
