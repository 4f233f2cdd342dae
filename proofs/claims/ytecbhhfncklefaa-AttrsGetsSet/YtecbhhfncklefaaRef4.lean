/- The document's Get of four bytes: the number that the bytes begin with, or ErrShort; nothing turns. -/
import Derived.Test.YtecbhhfncklefaaRows
import Derived.Test.YtecbhhfncklefaaBase
import Derived.Test.YtecbhhfncklefaaNum
import Derived.Outline
namespace Go.Proofs.Ytecbhhfncklefaa
set_option linter.unusedVariables false
open Go.RowKit

set_option maxHeartbeats 400000 in
theorem refget_any (a : Option Addr) (len cap : Nat) (zs : List Int) (w : World) (hlc : len ≤ cap) (hm : cap ≤ 9223372036854775807) (hz : zs.length = len) (hb : Byt zs) (hs : Seg w a zs) :
    Calls Try.prog 35 #[.slice a len cap] w fun e w' => e = .returned (.tuple #[.int .u32 (getN zs), .int .i64 (getE zs)]) ∧ w' = w := by
  by_cases hl : len < 4
  · have e1 : getN zs = 0 := by simp [getN, hz, hl]
    have e2 : getE zs = 4 := by simp [getE, hz, hl]
    rw [e1, e2]
    clear e1 e2
    go_enter Try.func35, Try.ntmps35
    go_wp2
    go_ret2
    exact ⟨rfl, rfl⟩
  · rcases hs with rfl | ⟨b, off, rfl, hc⟩
    · simp at hz; omega
    · have e1 : getN zs = be (zs.take 4) := by simp [getN, hz, hl]
      have e2 : getE zs = 0 := by simp [getE, hz, hl]
      rw [e1, e2]
      clear e1 e2
      go_enter Try.func35, Try.ntmps35
      go_wp2
      go_loop [4, 5] (fun n i => ∃ k : Nat, k ≤ 4 ∧ i = .int .i64 k ∧ n = .int .u32 (be (zs.take k))) (fun _ i => 4 - (intOf i).toNat)
      case atStart => exact ⟨0, by omega, rfl, rfl⟩
      case round =>
        obtain ⟨k, hk, rfl, rfl⟩ := hrel
        by_cases hlt : k < 4
        · have hcx := hc k (by omega)
          have hby := hb k
          have h1 := be_bound zs hb k (by omega)
          have h2 := pow_lt4 hlt
          have h3 : be (zs.take k) < 16777216 := by omega
          have h4 := h1.1
          have HS : Hid (be (zs.take (k + 1)) = 256 * be (zs.take k) + zs[k]?.getD 0) := be_take zs k (by omega)
          clear h1 h2
          go_wp2
          go_round
          case rel => exact ⟨k + 1, by omega, by go_num, by rw [HS.out]⟩
          case measure => simp [intOf]; omega
        · obtain rfl : k = 4 := by omega
          go_wp2
          go_ret2
          exact ⟨rfl, rfl⟩
end Go.Proofs.Ytecbhhfncklefaa
