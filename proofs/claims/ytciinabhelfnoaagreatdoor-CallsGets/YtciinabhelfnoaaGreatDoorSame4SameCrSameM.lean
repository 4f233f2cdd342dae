/- 'SameNumbers' of the same bytes: true; nothing turns (orders are drawn). -/
import Derived.Test.YtciinabhelfnoaaGreatDoorRows
import Derived.Test.YtciinabhelfnoaaGreatDoorNums
import Derived.Deep.QuietTactic
import Derived.BigQuiet
import Derived.Outline
import Derived.WalkSmall
import Derived.Test.YtciinabhelfnoaaGreatDoorBase
namespace Go.Proofs.YtciinabhelfnoaaGreatDoor
set_option linter.unusedVariables false
open Go.RowKit

set_option maxHeartbeats 400000 in
theorem same4_true (a b : Option Addr) (len ca cb : Nat) (zs : List Int) (w : World) (hl : len ≤ 4611686018427387904) (hz : zs.length = len) (ha : Seg4 w a zs) (hb : Seg4 w b zs) :
    Calls Tryz.prog 60 #[.slice a len ca, .slice b len cb] w fun e w' => e = .returned (.bool true) ∧ ∃ n, w' = w.drewN n := by
  have g1 : ((len : Int) != (len : Int)) = false := by simp
  go_enter Tryz.func60, Tryz.ntmps60
  go_wp2
  go_loopw [5] (fun i wr => ∃ k n : Nat, k ≤ len ∧ i = .int .i64 k ∧ wr = w.drewN n) (fun i _ => len - (intOf i).toNat)
  case atStart => exact ⟨0, 0, by omega, rfl, rfl⟩
  case round =>
    obtain ⟨k, n, hk, rfl, rfl⟩ := hrel
    by_cases hlt : k < len
    · rcases ha with rfl | ⟨b1, off1, rfl, hc1⟩
      · simp at hz; omega
      · rcases hb with rfl | ⟨b2, off2, rfl, hc2⟩
        · simp at hz; omega
        · have hcx := hc1 k (by omega)
          have htx := hc2 k (by omega)
          generalize zs[k]?.getD 0 = x at hcx htx
          have hi : (k : Int) < (len : Int) := by omega
          have hne : ((x : Int) != x) = false := by simp
          go_wp2
          go_quiet (fail)
          go_wp2
          go_roundw
          case rel => exact ⟨k + 1, _, by omega, by go_num, rfl⟩
          case measure => simp [intOf]; omega
    · obtain rfl : k = len := by omega
      go_wp2
      go_ret
      exact ⟨rfl, n, rfl⟩
end Go.Proofs.YtciinabhelfnoaaGreatDoor

/- 'SameCred' of the same ones: true; nothing that was there turns. -/
namespace Go.Proofs.YtciinabhelfnoaaGreatDoor
set_option linter.unusedVariables false
open Go.RowKit

set_option maxHeartbeats 1000000 in
theorem samecred_true (u g : Int) (a b : Option Addr) (len ca cb : Nat) (gs : List Int) (w : World) (hl : len ≤ 4611686018427387904) (hz : gs.length = len) (ha : Seg4 w a gs) (hb : Seg4 w b gs) :
    Calls Tryz.prog 26 #[.agg #[.int .u32 u, .int .u32 g, .slice a len ca], .agg #[.int .u32 u, .int .u32 g, .slice b len cb]] w fun e w' => e = .returned (.bool true) ∧ Below w.heap.size w w' := by
  have hB : Below w.heap.size w ((w.alloc (.cells #[.int .u32 u, .int .u32 g, .slice a len ca] 27)).alloc (.cells #[.int .u32 u, .int .u32 g, .slice b len cb] 27)) := ((Below.refl _ _).alloc (Nat.le_refl _) _).alloc (by simp) _
  have ha' := ha.below hB
  have hb' := hb.below hB
  have q1 : (u == u) = true := by simp
  have q2 : (g == g) = true := by simp
  go_enter Tryz.func26, Tryz.ntmps26
  go_wp2_with fail
  refine (same4_true a b len ca cb gs _ hl hz ha' hb').mono ?_
  rintro e w' ⟨rfl, n, rfl⟩
  have hB' := below_drewN hB n
  go_wp2
  go_ret
  exact ⟨rfl, hB'⟩

end Go.Proofs.YtciinabhelfnoaaGreatDoor

/- 'SameBytes' of the same bytes: true; nothing turns (orders are drawn). -/
namespace Go.Proofs.YtciinabhelfnoaaGreatDoor
set_option linter.unusedVariables false
open Go.RowKit

set_option maxHeartbeats 400000 in
theorem same_true (a b : Option Addr) (len ca cb : Nat) (zs : List Int) (w : World) (hl : len ≤ 4611686018427387904) (hz : zs.length = len) (ha : Seg w a zs) (hb : Seg w b zs) :
    Calls Tryz.prog 27 #[.slice a len ca, .slice b len cb] w fun e w' => e = .returned (.bool true) ∧ ∃ n, w' = w.drewN n := by
  have g1 : ((len : Int) != (len : Int)) = false := by simp
  go_enter Tryz.func27, Tryz.ntmps27
  go_wp2
  go_loopw [5] (fun i wr => ∃ k n : Nat, k ≤ len ∧ i = .int .i64 k ∧ wr = w.drewN n) (fun i _ => len - (intOf i).toNat)
  case atStart => exact ⟨0, 0, by omega, rfl, rfl⟩
  case round =>
    obtain ⟨k, n, hk, rfl, rfl⟩ := hrel
    by_cases hlt : k < len
    · rcases ha with rfl | ⟨b1, off1, rfl, hc1⟩
      · simp at hz; omega
      · rcases hb with rfl | ⟨b2, off2, rfl, hc2⟩
        · simp at hz; omega
        · have hcx := hc1 k (by omega)
          have htx := hc2 k (by omega)
          generalize zs[k]?.getD 0 = x at hcx htx
          have hi : (k : Int) < (len : Int) := by omega
          have hne : ((x : Int) != x) = false := by simp
          go_wp2
          go_quiet (fail)
          go_wp2
          go_roundw
          case rel => exact ⟨k + 1, _, by omega, by go_num, rfl⟩
          case measure => simp [intOf]; omega
    · obtain rfl : k = len := by omega
      go_wp2
      go_ret
      exact ⟨rfl, n, rfl⟩
end Go.Proofs.YtciinabhelfnoaaGreatDoor
