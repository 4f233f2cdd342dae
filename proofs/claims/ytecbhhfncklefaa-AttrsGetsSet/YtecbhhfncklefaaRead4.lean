/- 'read' of four bytes, and 'Get': the number that the bytes begin with, or ErrShort; nothing turns. -/
import Derived.Test.YtecbhhfncklefaaRows
import Derived.Test.YtecbhhfncklefaaBase
import Derived.Test.YtecbhhfncklefaaNum
import Derived.Outline
namespace Go.Proofs.Ytecbhhfncklefaa
set_option linter.unusedVariables false
open Go.RowKit

set_option maxHeartbeats 400000 in
theorem read4_short (a : Option Addr) (len cap : Nat) (w : World) (hl : len < 4) :
    Calls Try.prog 64 #[.slice a len cap, .int .i64 4] w fun e w' => e = .returned (.tuple #[.int .u32 0, .int .i64 4]) ∧ w' = w := by
  go_enter Try.func64, Try.ntmps64
  go_wp2
  go_ret2
  exact ⟨rfl, rfl⟩

set_option maxHeartbeats 400000 in
theorem read4 (b off len cap : Nat) (zs : List Int) (w : World) (hl : 4 ≤ len) (hlc : len ≤ cap) (hm : cap ≤ 9223372036854775807) (hz : zs.length = len) (hb : Byt zs)
    (hc : ∀ i, i < zs.length → w.cell? ⟨b, off + i, none⟩ = some (.int .u8 (zs[i]?.getD 0))) :
    Calls Try.prog 64 #[.slice (some ⟨b, off, none⟩) len cap, .int .i64 4] w fun e w' => e = .returned (.tuple #[.int .u32 (be (zs.take 4)), .int .i64 0]) ∧ w' = w := by
  go_enter Try.func64, Try.ntmps64
  go_wp2
  go_loop [6, 17] (fun n i => ∃ k : Nat, k ≤ 4 ∧ i = .int .i64 k ∧ n = .int .u32 (be (zs.take k))) (fun _ i => 4 - (intOf i).toNat)
  case atStart => exact ⟨0, by omega, rfl, rfl⟩
  case round =>
    obtain ⟨k, hk, rfl, rfl⟩ := hrel
    by_cases hlt : k < 4
    · have hcx := hc k (by omega)
      have hby := hb k
      go_wp2
      go_round
      case rel => exact ⟨k + 1, by omega, by go_num, by rw [step4 zs hb k hlt (by omega)]⟩
      case measure => simp [intOf]; omega
    · obtain rfl : k = 4 := by omega
      go_wp2
      go_ret2
      exact ⟨rfl, rfl⟩

set_option maxHeartbeats 400000 in
theorem get_any (a : Option Addr) (len cap : Nat) (zs : List Int) (w : World) (hlc : len ≤ cap) (hm : cap ≤ 9223372036854775807) (hz : zs.length = len) (hb : Byt zs) (hs : Seg w a zs) :
    Calls Try.prog 56 #[.slice a len cap] w fun e w' => e = .returned (.tuple #[.int .u32 (getN zs), .int .i64 (getE zs)]) ∧ w' = w := by
  by_cases hl : len < 4
  · have e1 : getN zs = 0 := by simp [getN, hz, hl]
    have e2 : getE zs = 4 := by simp [getE, hz, hl]
    rw [e1, e2]
    clear e1 e2
    go_enter Try.func56, Try.ntmps56
    go_wp2_with (go_at_call 64; refine (read4_short _ _ _ _ hl).mono ?_; rintro e w' ⟨rfl, rfl⟩)
    go_ret2
    exact ⟨rfl, rfl⟩
  · rcases hs with rfl | ⟨b, off, rfl, hc⟩
    · simp at hz; omega
    · have e1 : getN zs = be (zs.take 4) := by simp [getN, hz, hl]
      have e2 : getE zs = 0 := by simp [getE, hz, hl]
      rw [e1, e2]
      clear e1 e2
      go_enter Try.func56, Try.ntmps56
      go_wp2_with (go_at_call 64; refine (read4 b off len cap zs _ (by omega) hlc hm hz hb hc).mono ?_; rintro e w' ⟨rfl, rfl⟩)
      go_ret2
      exact ⟨rfl, rfl⟩
end Go.Proofs.Ytecbhhfncklefaa
