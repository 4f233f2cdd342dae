/- 'Pad' of the program: how many bytes more than so many the next multiple of four is; 0 below 0; nothing turns. -/
import Derived.Test.YtcpciodcecpibaaDoorRows
import Derived.Test.YtcpciodcecpibaaDoorBase
import Derived.Outline
namespace Go.Proofs.YtcpciodcecpibaaDoor
set_option linter.unusedVariables false
open Go.RowKit

/-- How many more than n the next multiple of four is. -/
def padN (n : Nat) : Nat := (4 - n % 4) % 4

theorem padN_lt (n : Nat) : padN n < 4 := by unfold padN; omega
theorem padN_four (n : Nat) : (n + padN n) % 4 = 0 := by unfold padN; omega

set_option maxRecDepth 100000 in
set_option maxHeartbeats 400000 in
theorem pad_nat (n : Nat) (w : World) (hn : n ≤ 9223372036854775807) :
    Calls Tryd.prog 37 #[.int .i64 (n : Int)] w fun e w' => e = .returned (.int .i64 (padN n : Nat)) ∧ w' = w := by
  go_enter Tryd.func37, Tryd.ntmps37
  go_wp2
  go_ret
  refine ⟨?_, rfl⟩
  show Ending.returned (.int .i64 ((4 - (n : Int) % 4) % 4)) = _
  rw [show (4 - (n : Int) % 4) % 4 = ((padN n : Nat) : Int) from by unfold padN; omega]

set_option maxRecDepth 100000 in
set_option maxHeartbeats 400000 in
theorem pad_neg (n : Int) (w : World) (hn : n < 0) (hm : -9223372036854775808 ≤ n) :
    Calls Tryd.prog 37 #[.int .i64 n] w fun e w' => e = .returned (.int .i64 0) ∧ w' = w := by
  go_enter Tryd.func37, Tryd.ntmps37
  go_wp2
  go_ret
  exact ⟨rfl, rfl⟩
end Go.Proofs.YtcpciodcecpibaaDoor
