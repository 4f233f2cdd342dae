/- Three cells of one who calls; nothing is claimed of the program here. -/
import Derived.Test.YtciinabhelfnoabBookBase
namespace Go.Proofs.Ytciinabhelfnoab
set_option linter.unusedVariables false
open Go.RowKit

theorem cred_cells (w : World) (x y z x' y' z' : Value) (t : TypeId) : ∀ W, W = (w.alloc (.cells #[x, y, z] t)).alloc (.cells #[x', y', z'] t) →
    (W.cell? ⟨w.heap.size, 0, none⟩ = some x ∧ W.cell? ⟨w.heap.size, 1, none⟩ = some y ∧ W.cell? ⟨w.heap.size, 2, none⟩ = some z) ∧ W.heap[w.heap.size + 1]? = some (.cells #[x', y', z'] t) ∧ w.heap.size + 1 < W.heap.size ∧ Below w.heap.size w W := by
  rintro W rfl
  refine ⟨⟨by simp, by simp, by simp⟩, ?_, by simp, ((Below.refl _ _).alloc (Nat.le_refl _) _).alloc (by simp) _⟩
  have := heap_alloc_new (w.alloc (.cells #[x, y, z] t)) (.cells #[x', y', z'] t)
  simpa using this

theorem cred_at {W : World} {h : Nat} {x y z : Value} {t : TypeId} (hh : W.heap[h]? = some (.cells #[x, y, z] t)) :
    W.cell? ⟨h, 0, none⟩ = some x ∧ W.cell? ⟨h, 1, none⟩ = some y ∧ W.cell? ⟨h, 2, none⟩ = some z ∧ W.frozen? ⟨h, 0, none⟩ = false ∧ W.frozen? ⟨h, 1, none⟩ = false ∧ W.frozen? ⟨h, 2, none⟩ = false := by
  refine ⟨?_, ?_, ?_, ?_, ?_, ?_⟩ <;> simp [World.cell?, World.frozen?, hh]

theorem cred_set {W : World} {h : Nat} {x y z : Value} {t : TypeId} (hh : W.heap[h]? = some (.cells #[x, y, z] t)) (x' y' z' : Value) :
    (((W.setCell ⟨h, 0, none⟩ x').setCell ⟨h, 1, none⟩ y').setCell ⟨h, 2, none⟩ z').heap[h]? = some (.cells #[x', y', z'] t) := by
  rw [setCell_same (setCell_same (setCell_same hh x') y') z']
  rfl

theorem below_drew (W : World) : Below W.heap.size W W.drew := ⟨rfl, rfl, rfl, Nat.le_refl _, fun _ _ => rfl⟩

theorem kept_one {W : World} {h k : Nat} (x : Value) : Kept (fun b => b = h) W (W.setCell ⟨h, k, none⟩ x) := (Kept.refl (fun b => b = h) W).setCell (p := ⟨h, k, none⟩) (.inl rfl) _
theorem kept_cred {W : World} {h : Nat} (x' y' z' : Value) : Kept (fun b => b = h) W (((W.setCell ⟨h, 0, none⟩ x').setCell ⟨h, 1, none⟩ y').setCell ⟨h, 2, none⟩ z') :=
  (kept_one x').trans ((kept_one y').trans (kept_one z'))
end Go.Proofs.Ytciinabhelfnoab
