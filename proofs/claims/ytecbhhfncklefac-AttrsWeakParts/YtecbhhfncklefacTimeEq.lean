/- Two points of time: alike or not; a point of time in a block; 'Check' of the program; nothing that was there turns. -/
import Derived.Test.YtecbhhfncklefacTimeMath
import Derived.Test.YtecbhhfncklefacRows
import Derived.Test.YtecbhhfncklefacBookBase
import Derived.ChangeKeysEq
import Derived.RangeFuncRecord
import Derived.Laws.Rows
import Derived.Deep.RegionLaw
import Derived.Deep.RegionHeld3
namespace Go.Proofs.Ytecbhhfncklefac
set_option linter.unusedVariables false
open Go.RowKit

theorem time_eq (n g m k : Int) (w : World) : (Op.equalIn 10000 26 (.agg #[.int .u32 n, .int .u32 g]) (.agg #[.int .u32 m, .int .u32 k])).run Try.prog w = .ok ((n == m) && (g == k)) w := by
  cases e0 : (n == m) <;> cases e1 : (g == k) <;> simp [go_sem, e0, e1]
theorem time_eql (n g m k : Int) (w : World) : (binOp .eql 26 (.agg #[.int .u32 n, .int .u32 g]) (.agg #[.int .u32 m, .int .u32 k])).run Try.prog w = .ok (.bool ((n == m) && (g == k))) w := by
  rw [run_eql_struct, time_eq]; rfl
theorem time_neq (n g m k : Int) (w : World) : (binOp .neq 26 (.agg #[.int .u32 n, .int .u32 g]) (.agg #[.int .u32 m, .int .u32 k])).run Try.prog w = .ok (.bool (!((n == m) && (g == k)))) w := by
  rw [run_neq_struct, time_eq]; rfl

theorem two_set {W : World} {k : Nat} {a b : Value} {t : TypeId} (h : W.heap[k]? = some (.cells #[a, b] t)) (x y : Value) : ((W.setCell ⟨k, 0, none⟩ x).setCell ⟨k, 1, none⟩ y).heap[k]? = some (.cells #[x, y] t) := by
  have h1 := setCell_same (k := 0) h x
  have h2 := setCell_same (k := 1) h1 y
  exact h2

/-- A point of time lies in a block. -/
def Tp (W : World) (h : Nat) (s n : Int) : Prop := W.heap[h]? = some (.cells #[.int .u32 s, .int .u32 n] 26)
theorem Tp.new (W : World) (s n : Int) : Tp (W.alloc (.cells #[.int .u32 s, .int .u32 n] 26)) W.heap.size s n := World.alloc_heap_new W _
theorem Tp.lt {W : World} {h : Nat} {s n : Int} (t : Tp W h s n) : h < W.heap.size := (Array.getElem?_eq_some_iff.1 t).1
theorem Tp.next {W W' : World} {h : Nat} {s n : Int} (t : Tp W h s n) (hb : Below W.heap.size W W') : Tp W' h s n := (hb.block _ t.lt).trans t
theorem Tp.alloc {W : World} {h : Nat} {s n : Int} (t : Tp W h s n) (o : Obj) : Tp (W.alloc o) h s n := t.next ((Below.refl _ _).alloc (Nat.le_refl _) o)
theorem Tp.c0 {W : World} {h : Nat} {s n : Int} (t : Tp W h s n) : W.cell? ⟨h, 0, none⟩ = some (.int .u32 s) := by simp [World.cell?, show W.heap[h]? = _ from t]
theorem Tp.c1 {W : World} {h : Nat} {s n : Int} (t : Tp W h s n) : W.cell? ⟨h, 1, none⟩ = some (.int .u32 n) := by simp [World.cell?, show W.heap[h]? = _ from t]
theorem below_draw (W : World) : Below W.heap.size W W.drew := ⟨rfl, rfl, rfl, Nat.le_refl _, fun _ _ => rfl⟩

set_option maxRecDepth 100000 in
set_option maxHeartbeats 400000 in
theorem tcheck_any (s n : Int) (w : World) : Calls Try.prog 6 #[.agg #[.int .u32 s, .int .u32 n]] w fun e w' => e = .returned (.bool (tok n)) ∧ Below w.heap.size w w' := by
  have hB1 : Below w.heap.size w (w.alloc (.cells #[.int .u32 s, .int .u32 n] 26)) := (Below.refl _ _).alloc (Nat.le_refl _) _
  go_enter Try.func6, Try.ntmps6
  go_wp2
  go_ret
  exact ⟨rfl, hB1⟩

end Go.Proofs.Ytecbhhfncklefac
