/- The document's Put: the bytes of a number, in memory of their own; nothing that was there turns. -/
import Derived.Test.YtecbhhfncklefaaDoorRows
import Derived.Test.YtecbhhfncklefaaDoorBytes
import Derived.WalkKit
import Derived.ArgAppend
namespace Go.Proofs.YtecbhhfncklefaaDoor
set_option linter.unusedVariables false
open Go.RowKit

theorem infoU8r : (Tryd.prog.info? 5).map (fun i => (i.zero, i.size, i.bytes)) = some (some (.int .u8 0), 1, 1) := by kernel_rfl

theorem bytes4 (n : Int) : bytesOf n 4 = [n / 16777216 % 256, n / 65536 % 256, n / 256 % 256, n % 256] := by
  simp [bytesOf, byteAt, List.range_succ]

set_option maxHeartbeats 400000 in
theorem refPut_any (n : Int) (h0 : 0 ≤ n) (h1 : n ≤ 4294967295) (w : World) :
    Calls Tryd.prog 28 #[.int .u32 n] w fun e W' => e = .returned (.slice (some ⟨w.heap.size, 0, none⟩) 4 4) ∧ W' = w.alloc (.cells ((bytesOf n 4).map (Value.int .u8)).toArray 5) := by
  have e1 : n / 16777216 % 256 = n / 16777216 := by omega
  rw [bytes4]
  go_enter Tryd.func28, Tryd.ntmps28
  go_wp2
  go_ret
  refine ⟨rfl, ?_⟩
  simp [e1]

theorem refPut_seg (n : Int) (h0 : 0 ≤ n) (h1 : n ≤ 4294967295) (w : World) :
    Calls Tryd.prog 28 #[.int .u32 n] w fun e W' => ∃ g, e = .returned (.slice (some ⟨g, 0, none⟩) 4 4) ∧ Seg W' (some ⟨g, 0, none⟩) (bytesOf n 4) ∧ Below w.heap.size w W' := by
  refine (refPut_any n h0 h1 w).mono ?_
  rintro e W' ⟨rfl, rfl⟩
  exact ⟨_, rfl, seg_lit _ _ _, (Below.refl _ _).alloc (Nat.le_refl _) _⟩
end Go.Proofs.YtecbhhfncklefaaDoor
