/- What is owned, as a value and its bytes; nothing is claimed of the program here. -/
import Derived.Test.YtecbhhfncklefaaDoorBookMany
namespace Go.Proofs.YtecbhhfncklefaaDoor
set_option linter.unusedVariables false
open Go.RowKit

theorem cell_one (w : World) (t : TypeId) (x : Nat) : ∀ i, (h : i < [x].length) → (w.alloc (.cells #[.int .i64 (x : Int)] t)).cell? ⟨w.heap.size, i, none⟩ = some (.int .i64 ([x][i] : Nat)) := by
  intro i hi
  match i, hi with
  | 0, _ => simp

/-- What is owned is a slice of so many, and its bytes lie there. -/
theorem got_val {w : World} {base e n : Nat} {v : Value} {zs : List Int} (h : w.ownsRow base e 1 v n (zs.map (Value.int .u8))) (hz : zs.length = n) : ∃ a c, v = .slice a n c ∧ Seg w a zs ∧ n ≤ c := by
  rcases h.2 with ⟨rfl, h0⟩ | ⟨g, cap, cur, rfl, hg, hh, h1, h2, r⟩
  · subst h0
    exact ⟨none, 0, rfl, .inl (List.length_eq_zero_iff.1 hz), by omega⟩
  · exact ⟨_, cap, rfl, seg_own h hz, h1⟩

theorem own_self {w : World} {base e g n cap size : Nat} {xs : List Value} (h : w.ownsRow base e size (.slice (some ⟨g, 0, none⟩) n cap) n xs) : w.ownsRow g e size (.slice (some ⟨g, 0, none⟩) n cap) n xs := by
  refine ⟨h.1, ?_⟩
  rcases h.2 with ⟨h1, _⟩ | ⟨g', cap', cur, hv, _, r⟩
  · cases h1
  · cases hv
    exact .inr ⟨g, cap, cur, rfl, Nat.le_refl _, r⟩
end Go.Proofs.YtecbhhfncklefaaDoor
