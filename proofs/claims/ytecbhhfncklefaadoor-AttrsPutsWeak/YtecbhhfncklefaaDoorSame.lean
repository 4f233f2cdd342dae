/- 'SameBytes' of the same bytes: true; nothing turns (orders are drawn). -/
import Derived.Test.YtecbhhfncklefaaDoorRows
import Derived.Test.YtecbhhfncklefaaDoorBase
import Derived.Deep.QuietTactic
import Derived.BigQuiet
import Derived.Outline
namespace Go.Proofs.YtecbhhfncklefaaDoor
set_option linter.unusedVariables false
open Go.RowKit

set_option maxHeartbeats 400000 in
theorem same_true (a b : Option Addr) (len ca cb : Nat) (zs : List Int) (w : World) (hl : len ≤ 4611686018427387904) (hz : zs.length = len) (ha : Seg w a zs) (hb : Seg w b zs) :
    Calls Tryd.prog 18 #[.slice a len ca, .slice b len cb] w fun e w' => e = .returned (.bool true) ∧ ∃ n, w' = w.drewN n := by
  have g1 : ((len : Int) != (len : Int)) = false := by simp
  go_enter Tryd.func18, Tryd.ntmps18
  go_wp2
  go_loopw [5] (fun i wr => ∃ k n : Nat, k ≤ len ∧ i = .int .i64 k ∧ wr = w.drewN n) (fun i _ => len - (intOf i).toNat)
  case atStart => exact ⟨0, 0, by omega, rfl, rfl⟩
  case round =>
    obtain ⟨k, n, hk, rfl, rfl⟩ := hrel
    by_cases hlt : k < len
    · rcases ha with rfl | ⟨b1, off1, rfl, hc1⟩
      · simp at hz; omega
      · rcases hb with rfl | ⟨b2, off2, rfl, hc2⟩
        · simp at hz; omega
        · have hcx := hc1 k (by omega)
          have htx := hc2 k (by omega)
          generalize zs[k]?.getD 0 = x at hcx htx
          have hi : (k : Int) < (len : Int) := by omega
          have hne : ((x : Int) != x) = false := by simp
          go_wp2
          go_quiet (fail)
          go_wp2
          go_roundw
          case rel => exact ⟨k + 1, _, by omega, by go_num, rfl⟩
          case measure => simp [intOf]; omega
    · obtain rfl : k = len := by omega
      go_wp2
      go_ret
      exact ⟨rfl, n, rfl⟩
end Go.Proofs.YtecbhhfncklefaaDoor
