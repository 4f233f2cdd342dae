/- Which errors there are of bytes that are read as a call: plain mathematics. -/
import Derived.Test.YtciinabhelfnoaaCallMathM
namespace Go.Proofs.Ytciinabhelfnoaa
set_option linter.unusedVariables false

def OneOf (e : Int) : Prop := e = 0 ∨ e = 3 ∨ e = 4 ∨ e = 5
theorem opE_of (zs : List Int) (most : Int) : OneOf (opE zs most) := by
  unfold opE
  split
  · exact .inr (.inr (.inl rfl))
  · split
    · exact .inr (.inl rfl)
    · rcases fixE_cases (zs.drop 4) (toldN zs) with h | h | h <;> rw [h]
      · exact .inl rfl
      · exact .inr (.inr (.inl rfl))
      · exact .inr (.inr (.inr rfl))
theorem crE_of (zs : List Int) : OneOf (crE zs) := by
  unfold crE
  have := opE_of (zs.drop 4) 255
  split
  · exact .inr (.inr (.inl rfl))
  split
  · exact this
  split
  · exact .inr (.inr (.inl rfl))
  split
  · exact .inr (.inl rfl)
  split
  · exact .inr (.inr (.inl rfl))
  split
  · exact .inr (.inr (.inr rfl))
  · exact .inl rfl
theorem getE_of (zs : List Int) : OneOf (getE zs) := by
  unfold getE
  split
  · exact .inr (.inr (.inl rfl))
  · exact .inl rfl
theorem fxnE_of (zs : List Int) (n : Int) : OneOf (fxnE zs n) := by
  unfold fxnE
  split
  · exact .inr (.inr (.inl rfl))
  split
  · exact .inl rfl
  · exact .inr (.inr (.inr rfl))
theorem flvE_of (zs : List Int) : OneOf (flvE zs) := by
  unfold flvE
  split
  · exact .inr (.inr (.inl rfl))
  split
  · exact .inr (.inr (.inr rfl))
  · exact .inl rfl
theorem notE_of (zs : List Int) : OneOf (notE zs) := by
  unfold notE
  have := opE_of zs 400
  split
  · split
    · exact .inl rfl
    · exact .inr (.inr (.inr rfl))
  · exact this
theorem whoE_of (zs : List Int) (f : Int) : OneOf (whoE zs f) := by
  unfold whoE
  split
  · exact notE_of zs
  · split
    · exact crE_of _
    · exact opE_of zs 400
theorem firstE_of : ∀ es : List Int, (∀ e ∈ es, OneOf e) → OneOf (firstE es)
  | [], _ => .inl rfl
  | e :: es, h => by
    by_cases h0 : e = 0
    · rw [firstE_go h0]; exact firstE_of es fun x hx => h x (List.mem_cons_of_mem _ hx)
    · rw [firstE_stop h0]; exact h e (List.mem_cons_self)
theorem clE_of (zs : List Int) : OneOf (clE zs) := by
  unfold clE
  split
  · exact .inr (.inl rfl)
  · refine firstE_of _ fun e he => ?_
    simp only [clEs, List.mem_cons, List.not_mem_nil, or_false] at he
    rcases he with rfl | rfl | rfl | rfl | rfl | rfl | rfl | rfl | rfl | rfl
    · exact getE_of _
    · exact fxnE_of _ _
    · exact fxnE_of _ _
    · exact getE_of _
    · exact getE_of _
    · exact getE_of _
    · exact flvE_of _
    · exact whoE_of _ _
    · exact fxnE_of _ _
    · exact notE_of _
end Go.Proofs.Ytciinabhelfnoaa
