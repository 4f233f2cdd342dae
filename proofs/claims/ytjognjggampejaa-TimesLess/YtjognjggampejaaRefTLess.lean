/- 'Less' of the document: points of time; nothing that was there turns. -/
import Derived.Test.YtjognjggampejaaTimeEq
namespace Go.Proofs.Ytjognjggampejaa
set_option linter.unusedVariables false
open Go.RowKit

set_option maxRecDepth 100000 in
set_option maxHeartbeats 1000000 in
theorem reftless_any (s n t o : Int) (w : World) : Calls Try.prog 11 #[.agg #[.int .u32 s, .int .u32 n], .agg #[.int .u32 t, .int .u32 o]] w fun e w' => e = .returned (.bool (tls s n t o)) ∧ Below w.heap.size w w' := by
  have hB0 : Below w.heap.size w (w.alloc (.cells #[.int .u32 s, .int .u32 n] 24)) := (Below.refl _ _).alloc (Nat.le_refl _) _
  have hB1 := hB0.alloc hB0.size (.cells #[.int .u32 t, .int .u32 o] 24)
  clear hB0
  by_cases h1 : s < t
  · have hl : tls s n t o = true := by simp [tls, h1]
    go_enter Try.func11, Try.ntmps11
    go_wp2
    go_ret
    exact ⟨by first | rfl | (rw [hl]; rfl), hB1⟩
  · by_cases h2 : s = t
    · subst h2
      have hl : tls s n s o = decide (n < o) := by simp [tls]
      go_enter Try.func11, Try.ntmps11
      go_wp2
      go_ret
      exact ⟨by first | rfl | (rw [hl]; rfl), hB1⟩
    · have hl : tls s n t o = false := by simp [tls, h1, h2]
      go_enter Try.func11, Try.ntmps11
      go_wp2
      go_ret
      exact ⟨by first | rfl | (rw [hl]; rfl), hB1⟩
end Go.Proofs.Ytjognjggampejaa
