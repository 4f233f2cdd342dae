/- The document's Pad: how many bytes more than so many the next multiple of four is; 0 below 0; nothing turns. -/
import Derived.Test.YtmeampolndpjeaaDoorPad
namespace Go.Proofs.YtmeampolndpjeaaDoor
set_option linter.unusedVariables false
open Go.RowKit

set_option maxRecDepth 100000 in
set_option maxHeartbeats 400000 in
theorem refpad_nat (n : Nat) (w : World) (hn : n ≤ 9223372036854775807) :
    Calls Tryd.prog 68 #[.int .i64 (n : Int)] w fun e w' => e = .returned (.int .i64 (padN n : Nat)) ∧ w' = w := by
  have hp := padN_lt n
  have hpe : padN n = (4 - n % 4) % 4 := rfl
  have hg : decide (0 ≤ (n : Int)) = true := by simp
  generalize padN n = p at *
  go_enter Tryd.func68, Tryd.ntmps68
  go_wp2
  go_loop [3] (fun v => ∃ k : Nat, k ≤ p ∧ v = .int .i64 k) (fun v => p - (intOf v).toNat)
  case atStart => exact ⟨0, by omega, rfl⟩
  case round =>
    obtain ⟨k, hk, rfl⟩ := hrel
    by_cases hlt : k < p
    · have hq : ((((n : Int) % 4 + (k : Int)) % 4) != 0) = true := by simp; omega
      go_wp2
      go_round
      case rel => exact ⟨k + 1, by omega, by go_num⟩
      case measure => simp [intOf]; omega
    · obtain rfl : k = p := by omega
      have hq : ((((n : Int) % 4 + (k : Int)) % 4) != 0) = false := by simp; omega
      go_wp2
      go_ret
      exact ⟨rfl, rfl⟩

set_option maxRecDepth 100000 in
set_option maxHeartbeats 400000 in
theorem refpad_neg (n : Int) (w : World) (hn : n < 0) (hm : -9223372036854775808 ≤ n) :
    Calls Tryd.prog 68 #[.int .i64 n] w fun e w' => e = .returned (.int .i64 0) ∧ w' = w := by
  have hg : decide (0 ≤ n) = false := by simp; omega
  go_enter Tryd.func68, Tryd.ntmps68
  go_wp2
  refine wp_loop_rounds 1 ?_
  rw [rounds_succ]
  go_wp2
  go_ret
  exact ⟨rfl, rfl⟩
end Go.Proofs.YtmeampolndpjeaaDoor
