/- An error's variable is read; nothing is claimed of the program here. -/
import Derived.Test.YtecbhhfncklefaaPBox
namespace Go.Proofs.Ytecbhhfncklefaa
set_option linter.unusedVariables false
open Go.RowKit

theorem sz_err : (Try.prog.info? 32).map (·.size) = some 1 := by kernel_rfl
theorem load_err {w : World} {k : Nat} {x : Int} (h : w.heap[k]? = some (.cells #[.int .i64 x] 32)) : (loadVar 32 ⟨k, 0, none⟩).run Try.prog w = .ok (.int .i64 x) w := by
  have c : w.cell? ⟨k, 0, none⟩ = some (.int .i64 x) := by simp [World.cell?, h]
  simp [go_sem, c]

end Go.Proofs.Ytecbhhfncklefaa
