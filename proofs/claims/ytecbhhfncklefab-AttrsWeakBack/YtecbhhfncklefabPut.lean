/- 'PutLong', 'PutYes': the bytes of a number, the highest first, in memory of their own that has no spare room; nothing that was there turns. -/
import Derived.Test.YtecbhhfncklefabPut4
namespace Go.Proofs.Ytecbhhfncklefab
set_option linter.unusedVariables false
open Go.RowKit Go.Shelf
attribute [local go_sem] Oper.semAt_some

theorem put8_any (x : Int) (hx0 : 0 ≤ x) (hx1 : x ≤ 18446744073709551615) (w : World) :
    Calls Try.prog 80 #[.int .u64 x, .int .i64 8] w fun e W' => e = .returned (.slice (some ⟨w.heap.size, 0, none⟩) 8 8) ∧
      W'.ownsRow w.heap.size 5 1 (.slice (some ⟨w.heap.size, 0, none⟩) 8 8) 8 ((bytesOf x 8).map (Value.int .u8)) ∧ Below w.heap.size w W' := put_any x 8 hx0 hx1 (by omega) (by omega) w

set_option maxHeartbeats 400000 in
theorem PutLong_any (x : Int) (hx0 : 0 ≤ x) (hx1 : x ≤ 18446744073709551615) (w : World) :
    Calls Try.prog 57 #[.int .u64 x] w fun e W' => e = .returned (.slice (some ⟨w.heap.size, 0, none⟩) 8 8) ∧
      W'.ownsRow w.heap.size 5 1 (.slice (some ⟨w.heap.size, 0, none⟩) 8 8) 8 ((bytesOf x 8).map (Value.int .u8)) ∧ Below w.heap.size w W' := by
  go_enter Try.func57, Try.ntmps57
  go_wp2_with (go_at_call 80; refine (put8_any x hx0 hx1 _).mono ?_; rintro e w' ⟨rfl, hown, hb⟩)
  go_ret
  exact ⟨rfl, hown, hb⟩

set_option maxHeartbeats 400000 in
theorem PutYes_any (y : Bool) (w : World) :
    Calls Try.prog 51 #[.bool y] w fun e W' => e = .returned (.slice (some ⟨w.heap.size, 0, none⟩) 4 4) ∧
      W'.ownsRow w.heap.size 5 1 (.slice (some ⟨w.heap.size, 0, none⟩) 4 4) 4 ((bytesOf (if y then 1 else 0) 4).map (Value.int .u8)) ∧ Below w.heap.size w W' := by
  cases y
  · go_enter Try.func51, Try.ntmps51
    go_wp2_with (go_at_call 53; refine (Put_any 0 (by omega) (by omega) _).mono ?_; rintro e w' ⟨rfl, hown, hb⟩)
    go_ret
    exact ⟨rfl, hown, hb⟩
  · go_enter Try.func51, Try.ntmps51
    go_wp2_with (go_at_call 53; refine (Put_any 1 (by omega) (by omega) _).mono ?_; rintro e w' ⟨rfl, hown, hb⟩)
    go_ret
    exact ⟨rfl, hown, hb⟩
end Go.Proofs.Ytecbhhfncklefab
