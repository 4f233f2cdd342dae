/- A cell of a variable is stored, the world behind it a letter; nothing is claimed of the program here. -/
import Derived.Laws.CopyRow
import Derived.Deep.WholeRow
import Derived.WalkKit
namespace Go.Proofs.Ytecbhhfncklefaa
set_option linter.unusedVariables false
open Go.RowKit

theorem run_store_field {P : Program} (w : World) (g i : Nat) (t ty : TypeId) (old : Array Value) (v : Value) (hg : w.heap[g]? = some (.cells old t (0, 0))) (hi : (P.info? ty).map (·.size) = some 1) (hlt : i < old.size)
    (h1 : v.oneCell' = true) : (storeVar ty ⟨g, i, none⟩ v).run P w = .ok () (w.setRow g (old.toList.take i ++ [v] ++ old.toList.drop (i + 1)).toArray) := by
  have := run_storeCells_at (P := P) g i t [v] 0 old w hg (by simp; omega) (fun x hx => by simp at hx; subst hx; exact h1)
  have hc : v.cells = #[v] := by cases v <;> first | rfl | cases h1
  cases hq : P.info? ty with
  | none => simp [hq] at hi
  | some j =>
    have hs : j.size = 1 := by simpa [hq] using hi
    simp only [Nat.add_zero, List.length_singleton] at this
    simp [storeVar, sizeOf, typeInfo, hq, hc, hs, this]

theorem wpList_store_field {P : Program} {ops : Array Oper} {rest : List Oper} {op : Oper} {a : Act} {w : World} {Q : Exit → Act → World → Prop} (hgd : op.guard = none) (ty : TypeId) (x y : Operand) (ho : op.op = .store ty x y)
    (g i : Nat) (v : Value) (hx : a.eval x = .pointer (some ⟨g, i, none⟩)) (hy : a.eval y = v)
    (t : TypeId) (old : Array Value) (hg : w.heap[g]? = some (.cells old t (0, 0))) (hi : (P.info? ty).map (·.size) = some 1) (hlt : i < old.size)
    (h1 : v.oneCell' = true) (new : Array Value) (hnew : (old.toList.take i ++ [v] ++ old.toList.drop (i + 1)).toArray = new)
    (h : ∀ w' : World, w'.heap[g]? = some (.cells new t (0, 0)) → w.grownBy w' (some g) → w'.heap.size = w.heap.size → wpList P ops Q rest (a.put op.dst undef) w') : wpList P ops Q (op :: rest) a w := by
  subst hnew
  refine wpList_plain hgd fun _ hK => ?_
  unfold Oper.wp execOp
  simp only [ho, hx, hy, Instr.storeAt, Instr.sureAddr, Sem.run_bind, Sem.run_pure, Result.andThen_ok, run_store_field w g i t ty old v hg hi hlt h1]
  refine hK _ _ (h _ ?_ ⟨rfl, rfl, rfl, ?_, ?_⟩ ?_)
  · have hl := (Array.getElem?_eq_some_iff.1 hg).1
    simp [World.setRow, Array.getElem?_modify, hg]
  · simp [World.setRow]
  · intro j hj hne
    have : ¬ g = j := fun e => hne (by rw [e])
    simp [World.setRow, Array.getElem?_modify, this]
  · simp [World.setRow]
end Go.Proofs.Ytecbhhfncklefaa
