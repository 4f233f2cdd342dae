/- What is owned, as a slice of numbers; nothing is claimed of the program here. -/
import Derived.Test.YtmanblfmdpdfoaaDoorNumsSame4SameCrM
import Derived.Test.YtmanblfmdpdfoaaDoorTextsPadM
import Derived.Test.YtmanblfmdpdfoaaDoorRows
import Derived.Test.YtmanblfmdpdfoaaDoorBase
import Derived.Test.YtmanblfmdpdfoaaDoorNum
import Derived.Outline
namespace Go.Proofs.YtmanblfmdpdfoaaDoor
set_option linter.unusedVariables false
open Go.RowKit

theorem own_val4 {w : World} {base e n : Nat} {v : Value} {zs : List Int} (h : w.ownsRow base e 1 v n (zs.map (Value.int .u32))) (hz : zs.length = n) : ∃ a c, v = .slice a n c ∧ Seg4 w a zs ∧ n ≤ c ∧ c ≤ 9223372036854775807 ∧ (a = none → n = 0 ∧ c = 0) := by
  rcases h.2 with ⟨rfl, h0⟩ | ⟨g, cap, cur, rfl, hg, hh, h1, h2, r⟩
  · subst h0
    exact ⟨none, 0, rfl, .inl (List.length_eq_zero_iff.1 hz), by omega, by omega, fun _ => ⟨rfl, rfl⟩⟩
  · exact ⟨_, cap, rfl, seg4_own h hz, h1, by unfold maxLen at h2; omega, by simp⟩

end Go.Proofs.YtmanblfmdpdfoaaDoor

/- The document's Pad: how many bytes more than so many the next multiple of four is; 0 below 0; nothing turns. -/
namespace Go.Proofs.YtmanblfmdpdfoaaDoor
set_option linter.unusedVariables false
open Go.RowKit

set_option maxRecDepth 100000 in
set_option maxHeartbeats 400000 in
theorem refpad_nat (n : Nat) (w : World) (hn : n ≤ 9223372036854775807) :
    Calls Tryd.prog 94 #[.int .i64 (n : Int)] w fun e w' => e = .returned (.int .i64 (padN n : Nat)) ∧ w' = w := by
  have hp := padN_lt n
  have hpe : padN n = (4 - n % 4) % 4 := rfl
  have hg : decide (0 ≤ (n : Int)) = true := by simp
  generalize padN n = p at *
  go_enter Tryd.func94, Tryd.ntmps94
  go_wp2
  go_loop [3] (fun v => ∃ k : Nat, k ≤ p ∧ v = .int .i64 k) (fun v => p - (intOf v).toNat)
  case atStart => exact ⟨0, by omega, rfl⟩
  case round =>
    obtain ⟨k, hk, rfl⟩ := hrel
    by_cases hlt : k < p
    · have hq : ((((n : Int) % 4 + (k : Int)) % 4) != 0) = true := by simp; omega
      go_wp2
      go_round
      case rel => exact ⟨k + 1, by omega, by go_num⟩
      case measure => simp [intOf]; omega
    · obtain rfl : k = p := by omega
      have hq : ((((n : Int) % 4 + (k : Int)) % 4) != 0) = false := by simp; omega
      go_wp2
      go_ret
      exact ⟨rfl, rfl⟩

set_option maxRecDepth 100000 in
set_option maxHeartbeats 400000 in
theorem refpad_neg (n : Int) (w : World) (hn : n < 0) (hm : -9223372036854775808 ≤ n) :
    Calls Tryd.prog 94 #[.int .i64 n] w fun e w' => e = .returned (.int .i64 0) ∧ w' = w := by
  have hg : decide (0 ≤ n) = false := by simp; omega
  go_enter Tryd.func94, Tryd.ntmps94
  go_wp2
  refine wp_loop_rounds 1 ?_
  rw [rounds_succ]
  go_wp2
  go_ret
  exact ⟨rfl, rfl⟩
end Go.Proofs.YtmanblfmdpdfoaaDoor

/- The document's Get of four bytes: the number that the bytes begin with, or ErrShort; nothing turns. -/
namespace Go.Proofs.YtmanblfmdpdfoaaDoor
set_option linter.unusedVariables false
open Go.RowKit

set_option maxHeartbeats 400000 in
theorem refget_any (a : Option Addr) (len cap : Nat) (zs : List Int) (w : World) (hlc : len ≤ cap) (hm : cap ≤ 9223372036854775807) (hz : zs.length = len) (hb : Byt zs) (hs : Seg w a zs) :
    Calls Tryd.prog 81 #[.slice a len cap] w fun e w' => e = .returned (.tuple #[.int .u32 (getN zs), .int .i64 (getE zs)]) ∧ w' = w := by
  by_cases hl : len < 4
  · have e1 : getN zs = 0 := by simp [getN, hz, hl]
    have e2 : getE zs = 4 := by simp [getE, hz, hl]
    rw [e1, e2]
    clear e1 e2
    go_enter Tryd.func81, Tryd.ntmps81
    go_wp2
    go_ret2
    exact ⟨rfl, rfl⟩
  · rcases hs with rfl | ⟨b, off, rfl, hc⟩
    · simp at hz; omega
    · have e1 : getN zs = be (zs.take 4) := by simp [getN, hz, hl]
      have e2 : getE zs = 0 := by simp [getE, hz, hl]
      rw [e1, e2]
      clear e1 e2
      go_enter Tryd.func81, Tryd.ntmps81
      go_wp2
      go_loop [4, 5] (fun n i => ∃ k : Nat, k ≤ 4 ∧ i = .int .i64 k ∧ n = .int .u32 (be (zs.take k))) (fun _ i => 4 - (intOf i).toNat)
      case atStart => exact ⟨0, by omega, rfl, rfl⟩
      case round =>
        obtain ⟨k, hk, rfl, rfl⟩ := hrel
        by_cases hlt : k < 4
        · have hcx := hc k (by omega)
          have hby := hb k
          have h1 := be_bound zs hb k (by omega)
          have h2 := pow_lt4 hlt
          have h3 : be (zs.take k) < 16777216 := by omega
          have h4 := h1.1
          have HS : Hid (be (zs.take (k + 1)) = 256 * be (zs.take k) + zs[k]?.getD 0) := be_take zs k (by omega)
          clear h1 h2
          go_wp2
          go_round
          case rel => exact ⟨k + 1, by omega, by go_num, by rw [HS.out]⟩
          case measure => simp [intOf]; omega
        · obtain rfl : k = 4 := by omega
          go_wp2
          go_ret2
          exact ⟨rfl, rfl⟩
end Go.Proofs.YtmanblfmdpdfoaaDoor
