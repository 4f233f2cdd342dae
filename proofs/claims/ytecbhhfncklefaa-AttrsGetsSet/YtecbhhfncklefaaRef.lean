/- The document's GetLong: the number that the bytes begin with, or ErrShort; nothing turns. -/
import Derived.Test.YtecbhhfncklefaaRows
import Derived.Test.YtecbhhfncklefaaBase
import Derived.Test.YtecbhhfncklefaaNum
import Derived.Test.YtecbhhfncklefaaRef4
import Derived.Outline
namespace Go.Proofs.Ytecbhhfncklefaa
set_option linter.unusedVariables false
open Go.RowKit

set_option maxHeartbeats 400000 in
theorem refgetlong_any (a : Option Addr) (len cap : Nat) (zs : List Int) (w : World) (hlc : len ≤ cap) (hm : cap ≤ 9223372036854775807) (hz : zs.length = len) (hb : Byt zs) (hs : Seg w a zs) :
    Calls Try.prog 36 #[.slice a len cap] w fun e w' => e = .returned (.tuple #[.int .u64 (getM zs), .int .i64 (getF zs)]) ∧ w' = w := by
  by_cases hl : len < 8
  · have e1 : getM zs = 0 := by simp [getM, hz, hl]
    have e2 : getF zs = 4 := by simp [getF, hz, hl]
    rw [e1, e2]
    clear e1 e2
    go_enter Try.func36, Try.ntmps36
    go_wp2
    go_ret2
    exact ⟨rfl, rfl⟩
  · rcases hs with rfl | ⟨b, off, rfl, hc⟩
    · simp at hz; omega
    · have e1 : getM zs = be (zs.take 8) := by simp [getM, hz, hl]
      have e2 : getF zs = 0 := by simp [getF, hz, hl]
      rw [e1, e2]
      clear e1 e2
      go_enter Try.func36, Try.ntmps36
      go_wp2
      go_loop [4, 5] (fun n i => ∃ k : Nat, k ≤ 8 ∧ i = .int .i64 k ∧ n = .int .u64 (be (zs.take k))) (fun _ i => 8 - (intOf i).toNat)
      case atStart => exact ⟨0, by omega, rfl, rfl⟩
      case round =>
        obtain ⟨k, hk, rfl, rfl⟩ := hrel
        by_cases hlt : k < 8
        · have hcx := hc k (by omega)
          have hby := hb k
          have h1 := be_bound zs hb k (by omega)
          have h2 := pow_lt8 hlt
          have h3 : be (zs.take k) < 72057594037927936 := by omega
          have h4 := h1.1
          have HS : Hid (be (zs.take (k + 1)) = 256 * be (zs.take k) + zs[k]?.getD 0) := be_take zs k (by omega)
          clear h1 h2
          go_wp2
          go_round
          case rel => exact ⟨k + 1, by omega, by go_num, by rw [HS.out]⟩
          case measure => simp [intOf]; omega
        · obtain rfl : k = 8 := by omega
          go_wp2
          go_ret2
          exact ⟨rfl, rfl⟩
end Go.Proofs.Ytecbhhfncklefaa
