/- Of which kind may a node be? Plain mathematics. -/
import Derived.Test.YtecbhhfncklefabAttrMath
namespace Go.Proofs.Ytecbhhfncklefab
set_option linter.unusedVariables false

theorem kok_cases {k : Int} : ((k == 1) = true ∧ kok k = true) ∨ ((k == 1) = false ∧ (k == 2) = true ∧ kok k = true) ∨ ((k == 1) = false ∧ (k == 2) = false ∧ (k == 5) = true ∧ kok k = true) ∨ ((k == 1) = false ∧ (k == 2) = false ∧ (k == 5) = false ∧ kok k = false) := by
  by_cases h1 : k = 1
  · exact .inl ⟨by simp [h1], by simp [kok, h1]⟩
  · by_cases h2 : k = 2
    · exact .inr (.inl ⟨by simp [h1], by simp [h2], by simp [kok, h2]⟩)
    · by_cases h5 : k = 5
      · exact .inr (.inr (.inl ⟨by simp [h1], by simp [h2], by simp [h5], by simp [kok, h5]⟩))
      · exact .inr (.inr (.inr ⟨by simp [h1], by simp [h2], by simp [h5], by simp [kok, h1, h2, h5]⟩))

end Go.Proofs.Ytecbhhfncklefab
