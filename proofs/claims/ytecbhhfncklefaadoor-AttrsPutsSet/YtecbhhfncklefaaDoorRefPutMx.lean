/- The document's PutLong and PutYes: the bytes of a number, in memory of their own; nothing that was there turns. -/
import Derived.Test.YtecbhhfncklefaaDoorRefPut4RefTPutRefPutLMx
import Derived.Test.YtecbhhfncklefaaDoorRows
import Derived.Test.YtecbhhfncklefaaDoorBytes
import Derived.WalkKit
import Derived.ArgAppend
namespace Go.Proofs.YtecbhhfncklefaaDoor
set_option linter.unusedVariables false
open Go.RowKit

set_option maxHeartbeats 400000 in
theorem refPutYes_any (y : Bool) (w : World) :
    Calls Tryd.prog 73 #[.bool y] w fun e W' => ∃ g, e = .returned (.slice (some ⟨g, 0, none⟩) 4 4) ∧ Seg W' (some ⟨g, 0, none⟩) (bytesOf (if y then 1 else 0) 4) ∧ Below w.heap.size w W' := by
  cases y
  · go_enter Tryd.func73, Tryd.ntmps73
    go_wp2_with fail
    refine (refPut_seg 0 (by omega) (by omega) _).mono ?_
    rintro e w1 ⟨g1, rfl, s1, b1⟩
    go_wp2
    go_ret
    exact ⟨g1, rfl, s1, b1⟩
  · go_enter Tryd.func73, Tryd.ntmps73
    go_wp2_with fail
    refine (refPut_seg 1 (by omega) (by omega) _).mono ?_
    rintro e w1 ⟨g1, rfl, s1, b1⟩
    go_wp2
    go_ret
    exact ⟨g1, rfl, s1, b1⟩
end Go.Proofs.YtecbhhfncklefaaDoor
