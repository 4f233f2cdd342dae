/- The document's Get of four bytes: the number that the bytes begin with, or ErrShort; nothing turns. -/
import Derived.Test.YtecbhhfncklefaaRows
import Derived.Test.YtecbhhfncklefaaBase
import Derived.Test.YtecbhhfncklefaaNum
import Derived.Outline
import Derived.WalkSmall
namespace Go.Proofs.Ytecbhhfncklefaa
set_option linter.unusedVariables false
open Go.RowKit

set_option maxHeartbeats 400000 in
theorem refget_any (a : Option Addr) (len cap : Nat) (zs : List Int) (w : World) (hlc : len ≤ cap) (hm : cap ≤ 9223372036854775807) (hz : zs.length = len) (hb : Byt zs) (hs : Seg w a zs) :
    Calls Try.prog 35 #[.slice a len cap] w fun e w' => e = .returned (.tuple #[.int .u32 (getN zs), .int .i64 (getE zs)]) ∧ w' = w := by
  by_cases hl : len < 4
  · have e1 : getN zs = 0 := by simp [getN, hz, hl]
    have e2 : getE zs = 4 := by simp [getE, hz, hl]
    rw [e1, e2]
    clear e1 e2
    go_enter Try.func35, Try.ntmps35
    go_wp2
    go_ret2
    exact ⟨rfl, rfl⟩
  · rcases hs with rfl | ⟨b, off, rfl, hc⟩
    · simp at hz; omega
    · have e1 : getN zs = be (zs.take 4) := by simp [getN, hz, hl]
      have e2 : getE zs = 0 := by simp [getE, hz, hl]
      rw [e1, e2]
      clear e1 e2
      go_enter Try.func35, Try.ntmps35
      go_wp2
      go_loop [4, 5] (fun n i => ∃ k : Nat, k ≤ 4 ∧ i = .int .i64 k ∧ n = .int .u32 (be (zs.take k))) (fun _ i => 4 - (intOf i).toNat)
      case atStart => exact ⟨0, by omega, rfl, rfl⟩
      case round =>
        obtain ⟨k, hk, rfl, rfl⟩ := hrel
        by_cases hlt : k < 4
        · have hcx := hc k (by omega)
          have hby := hb k
          have h1 := be_bound zs hb k (by omega)
          have h2 := pow_lt4 hlt
          have h3 : be (zs.take k) < 16777216 := by omega
          have h4 := h1.1
          have HS : Hid (be (zs.take (k + 1)) = 256 * be (zs.take k) + zs[k]?.getD 0) := be_take zs k (by omega)
          clear h1 h2
          go_wp2
          go_round
          case rel => exact ⟨k + 1, by omega, by go_num, by rw [HS.out]⟩
          case measure => simp [intOf]; omega
        · obtain rfl : k = 4 := by omega
          go_wp2
          go_ret2
          exact ⟨rfl, rfl⟩
end Go.Proofs.Ytecbhhfncklefaa

/- The document's GetLong: the number that the bytes begin with, or ErrShort; nothing turns. -/
namespace Go.Proofs.Ytecbhhfncklefaa
set_option linter.unusedVariables false
open Go.RowKit

set_option maxHeartbeats 400000 in
theorem refgetlong_any (a : Option Addr) (len cap : Nat) (zs : List Int) (w : World) (hlc : len ≤ cap) (hm : cap ≤ 9223372036854775807) (hz : zs.length = len) (hb : Byt zs) (hs : Seg w a zs) :
    Calls Try.prog 36 #[.slice a len cap] w fun e w' => e = .returned (.tuple #[.int .u64 (getM zs), .int .i64 (getF zs)]) ∧ w' = w := by
  by_cases hl : len < 8
  · have e1 : getM zs = 0 := by simp [getM, hz, hl]
    have e2 : getF zs = 4 := by simp [getF, hz, hl]
    rw [e1, e2]
    clear e1 e2
    go_enter Try.func36, Try.ntmps36
    go_wp2
    go_ret2
    exact ⟨rfl, rfl⟩
  · rcases hs with rfl | ⟨b, off, rfl, hc⟩
    · simp at hz; omega
    · have e1 : getM zs = be (zs.take 8) := by simp [getM, hz, hl]
      have e2 : getF zs = 0 := by simp [getF, hz, hl]
      rw [e1, e2]
      clear e1 e2
      go_enter Try.func36, Try.ntmps36
      go_wp2
      go_loop [4, 5] (fun n i => ∃ k : Nat, k ≤ 8 ∧ i = .int .i64 k ∧ n = .int .u64 (be (zs.take k))) (fun _ i => 8 - (intOf i).toNat)
      case atStart => exact ⟨0, by omega, rfl, rfl⟩
      case round =>
        obtain ⟨k, hk, rfl, rfl⟩ := hrel
        by_cases hlt : k < 8
        · have hcx := hc k (by omega)
          have hby := hb k
          have h1 := be_bound zs hb k (by omega)
          have h2 := pow_lt8 hlt
          have h3 : be (zs.take k) < 72057594037927936 := by omega
          have h4 := h1.1
          have HS : Hid (be (zs.take (k + 1)) = 256 * be (zs.take k) + zs[k]?.getD 0) := be_take zs k (by omega)
          clear h1 h2
          go_wp2
          go_round
          case rel => exact ⟨k + 1, by omega, by go_num, by rw [HS.out]⟩
          case measure => simp [intOf]; omega
        · obtain rfl : k = 8 := by omega
          go_wp2
          go_ret2
          exact ⟨rfl, rfl⟩
end Go.Proofs.Ytecbhhfncklefaa

/- 'GetYes' of the document: yes, no, or why not; nothing turns. -/
namespace Go.Proofs.Ytecbhhfncklefaa
set_option linter.unusedVariables false
open Go.RowKit

set_option maxHeartbeats 400000 in
theorem refgetyes_any (a : Option Addr) (len cap : Nat) (zs : List Int) (w : World) (hlc : len ≤ cap) (hm : cap ≤ 9223372036854775807) (hz : zs.length = len) (hb : Byt zs) (hs : Seg w a zs) :
    Calls Try.prog 62 #[.slice a len cap] w fun e w' => e = .returned (.tuple #[.bool (getY zs), .int .i64 (getG zs)]) ∧ w' = w := by
  by_cases hl : zs.length < 4
  · have e1 : getY zs = false := by simp [getY, hl]
    have e2 : getG zs = 4 := by simp [getG, hl]
    have e3 : getE zs = 4 := by simp [getE, hl]
    rw [e1, e2]
    clear e1 e2
    go_enter Try.func62, Try.ntmps62
    go_wp2_with (go_at_call 35; refine (refget_any _ len cap zs _ hlc hm hz hb hs).mono ?_; rintro e w' ⟨rfl, rfl⟩)
    go_ret2
    exact ⟨by simp, rfl⟩
  · have e3 : getE zs = 0 := by simp [getE, hl]
    have e4 : getN zs = be (zs.take 4) := by simp [getN, hl]
    by_cases h1 : 1 < be (zs.take 4)
    · have e1 : getY zs = false := by simp [getY]; omega
      have e2 : getG zs = 5 := by simp [getG, hl, h1]
      rw [e1, e2]
      clear e1 e2
      generalize be (zs.take 4) = n at *
      go_enter Try.func62, Try.ntmps62
      go_wp2_with (go_at_call 35; refine (refget_any _ len cap zs _ hlc hm hz hb hs).mono ?_; rintro e w' ⟨rfl, rfl⟩)
      go_ret2
      exact ⟨rfl, rfl⟩
    · have e1 : getY zs = (be (zs.take 4) == 1) := by simp [getY, hl]
      have e2 : getG zs = 0 := by simp [getG, hl, h1]
      rw [e1, e2]
      clear e1 e2
      generalize be (zs.take 4) = n at *
      go_enter Try.func62, Try.ntmps62
      go_wp2_with (go_at_call 35; refine (refget_any _ len cap zs _ hlc hm hz hb hs).mono ?_; rintro e w' ⟨rfl, rfl⟩)
      go_ret2
      exact ⟨rfl, rfl⟩
end Go.Proofs.Ytecbhhfncklefaa
