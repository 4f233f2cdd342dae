/- What is owned, as a slice of numbers; nothing is claimed of the program here. -/
import Derived.Test.YtmjhgpmeikpbkaaDoorNums
namespace Go.Proofs.YtmjhgpmeikpbkaaDoor
set_option linter.unusedVariables false
open Go.RowKit

theorem own_val4 {w : World} {base e n : Nat} {v : Value} {zs : List Int} (h : w.ownsRow base e 1 v n (zs.map (Value.int .u32))) (hz : zs.length = n) : ∃ a c, v = .slice a n c ∧ Seg4 w a zs ∧ n ≤ c ∧ c ≤ 9223372036854775807 ∧ (a = none → n = 0 ∧ c = 0) := by
  rcases h.2 with ⟨rfl, h0⟩ | ⟨g, cap, cur, rfl, hg, hh, h1, h2, r⟩
  · subst h0
    exact ⟨none, 0, rfl, .inl (List.length_eq_zero_iff.1 hz), by omega, by omega, fun _ => ⟨rfl, rfl⟩⟩
  · exact ⟨_, cap, rfl, seg4_own h hz, h1, by unfold maxLen at h2; omega, by simp⟩

end Go.Proofs.YtmjhgpmeikpbkaaDoor
