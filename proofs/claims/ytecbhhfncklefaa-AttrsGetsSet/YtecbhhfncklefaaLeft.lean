/- 'LeftBytes' of bytes and their twin: true, if the twin's bytes and its mark are as they were made; nothing turns (orders are drawn). -/
import Derived.Test.YtecbhhfncklefaaRows
import Derived.Test.YtecbhhfncklefaaTwin
import Derived.Deep.QuietTactic
import Derived.BigQuiet
import Derived.Outline
namespace Go.Proofs.Ytecbhhfncklefaa
set_option linter.unusedVariables false
open Go.RowKit

set_option maxHeartbeats 400000 in
theorem left_any (g len cap : Nat) (a : Option Addr) (cap2 : Nat) (zs : List Int) (w : World) (hl : len ≤ 1048576) (hcp : len < cap) (hm : cap ≤ 9223372036854775807) (hz : zs.length = len) (hs : Seg w a zs)
    (ht : ∀ i, i < len → w.cell? ⟨g, i, none⟩ = some (.int .u8 (zs[i]?.getD 0))) (h77 : w.cell? ⟨g, len, none⟩ = some (.int .u8 77)) :
    Calls Try.prog 10 #[.slice (some ⟨g, 0, none⟩) len cap, .slice a len cap2] w fun e w' => e = .returned (.bool true) ∧ ∃ n, w' = w.drewN n := by
  have g1 : ((len : Int) != (len : Int)) = false := by simp
  have g2 : decide ((cap : Int) ≤ (len : Int)) = false := by simp; omega
  go_enter Try.func10, Try.ntmps10
  go_wp2
  go_loopw [5] (fun i wr => ∃ k n : Nat, k ≤ len ∧ i = .int .i64 k ∧ wr = w.drewN n) (fun i _ => len - (intOf i).toNat)
  case atStart => exact ⟨0, 0, by omega, rfl, rfl⟩
  case round =>
    obtain ⟨k, n, hk, rfl, rfl⟩ := hrel
    by_cases hlt : k < len
    · rcases hs with rfl | ⟨b, off, rfl, hc⟩
      · simp at hz; omega
      · have hcx := hc k (by omega)
        have htx := ht k hlt
        generalize zs[k]?.getD 0 = x at hcx htx
        have hi : (k : Int) < (len : Int) := by omega
        have hne : ((x : Int) != x) = false := by simp
        go_wp2
        go_quiet (fail)
        go_wp2
        go_roundw
        case rel => exact ⟨k + 1, _, by omega, by go_num, rfl⟩
        case measure => simp [intOf]; omega
    · obtain rfl : k = len := by omega
      go_wp2
      go_ret
      exact ⟨rfl, n, rfl⟩

theorem left (g len : Nat) (a : Option Addr) (cap2 : Nat) (zs : List Int) (w : World) (hl : len ≤ 1048576) (hz : zs.length = len) (hs : Seg w a zs) (ht : IsTwin w g zs) :
    Calls Try.prog 10 #[.slice (some ⟨g, 0, none⟩) len (len + 1), .slice a len cap2] w fun e w' => e = .returned (.bool true) ∧ ∃ n, w' = w.drewN n := by
  subst hz
  exact left_any g zs.length (zs.length + 1) a cap2 zs w hl (by omega) (by omega) rfl hs ht.cell ht.mark
end Go.Proofs.Ytecbhhfncklefaa
