/- 'at' of the law: a point of time; nothing that was there turns. -/
import Derived.Test.YtjognjggampejabTimeEq
namespace Go.Proofs.Ytjognjggampejab
set_option linter.unusedVariables false
open Go.RowKit

set_option maxRecDepth 100000 in
set_option maxHeartbeats 400000 in
theorem at_any (s n : Int) (w : World) : Calls Try.prog 16 #[.int .u32 s, .int .u32 n] w fun e w' => e = .returned (.agg #[.int .u32 s, .int .u32 n]) ∧ Below w.heap.size w w' := by
  have hB1 : Below w.heap.size w (w.alloc (.cells #[.int .u32 s, .int .u32 n] 24)) := (Below.refl _ _).alloc (Nat.le_refl _) _
  have hh1 := World.alloc_heap_new w (.cells #[.int .u32 s, .int .u32 n] 24)
  go_enter Try.func16, Try.ntmps16
  go_wp2
  exact bodyPost_ret (results_cell_row (p := 4) (ty := 24) rfl _ _ w.heap.size 24 _ (0, 0) _ (by rfl) hh1 Try.underlying24 rfl (by kernel_rfl)) rfl ⟨rfl, hB1⟩
end Go.Proofs.Ytjognjggampejab
