/- 'GetYes' of the document: yes, no, or why not; nothing turns. -/
import Derived.Test.YtecbhhfncklefaaRef
import Derived.WalkSmall
namespace Go.Proofs.Ytecbhhfncklefaa
set_option linter.unusedVariables false
open Go.RowKit

set_option maxHeartbeats 400000 in
theorem refgetyes_any (a : Option Addr) (len cap : Nat) (zs : List Int) (w : World) (hlc : len ≤ cap) (hm : cap ≤ 9223372036854775807) (hz : zs.length = len) (hb : Byt zs) (hs : Seg w a zs) :
    Calls Try.prog 62 #[.slice a len cap] w fun e w' => e = .returned (.tuple #[.bool (getY zs), .int .i64 (getG zs)]) ∧ w' = w := by
  by_cases hl : zs.length < 4
  · have e1 : getY zs = false := by simp [getY, hl]
    have e2 : getG zs = 4 := by simp [getG, hl]
    have e3 : getE zs = 4 := by simp [getE, hl]
    rw [e1, e2]
    clear e1 e2
    go_enter Try.func62, Try.ntmps62
    go_wp2_with (go_at_call 35; refine (refget_any _ len cap zs _ hlc hm hz hb hs).mono ?_; rintro e w' ⟨rfl, rfl⟩)
    go_ret2
    exact ⟨by simp, rfl⟩
  · have e3 : getE zs = 0 := by simp [getE, hl]
    have e4 : getN zs = be (zs.take 4) := by simp [getN, hl]
    by_cases h1 : 1 < be (zs.take 4)
    · have e1 : getY zs = false := by simp [getY]; omega
      have e2 : getG zs = 5 := by simp [getG, hl, h1]
      rw [e1, e2]
      clear e1 e2
      generalize be (zs.take 4) = n at *
      go_enter Try.func62, Try.ntmps62
      go_wp2_with (go_at_call 35; refine (refget_any _ len cap zs _ hlc hm hz hb hs).mono ?_; rintro e w' ⟨rfl, rfl⟩)
      go_ret2
      exact ⟨rfl, rfl⟩
    · have e1 : getY zs = (be (zs.take 4) == 1) := by simp [getY, hl]
      have e2 : getG zs = 0 := by simp [getG, hl, h1]
      rw [e1, e2]
      clear e1 e2
      generalize be (zs.take 4) = n at *
      go_enter Try.func62, Try.ntmps62
      go_wp2_with (go_at_call 35; refine (refget_any _ len cap zs _ hlc hm hz hb hs).mono ?_; rintro e w' ⟨rfl, rfl⟩)
      go_ret2
      exact ⟨rfl, rfl⟩
end Go.Proofs.Ytecbhhfncklefaa
