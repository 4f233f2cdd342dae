/- What is told of a node, in a block; two of them that are the same; nothing is claimed of the program here. -/
import Derived.Test.YtecbhhfncklefaaDoorAttrMath2
import Derived.Test.YtecbhhfncklefaaDoorRows
import Derived.Test.YtecbhhfncklefaaDoorBookBase
import Derived.ChangeKeysEq
import Derived.RangeFuncRecord
import Derived.Laws.Rows
import Derived.Deep.RegionLaw
import Derived.Deep.RegionHeld3
namespace Go.Proofs.YtecbhhfncklefaaDoor
set_option linter.unusedVariables false
open Go.RowKit

/-- What is told of a node lies in a block. -/
def Ap (W : World) (h : Nat) (x : Atr) : Prop := W.heap[h]? = some (.cells #[.int .u32 x.kind, .int .u32 x.mode, .int .u32 x.links, .int .u32 x.user, .int .u32 x.group, .int .u64 x.size, .int .u64 x.used, .int .u64 x.id, .int .u32 x.rs, .int .u32 x.rn, .int .u32 x.ws, .int .u32 x.wn, .int .u32 x.ts, .int .u32 x.tn] 28)
theorem Ap.new (W : World) (x : Atr) : Ap (W.alloc (.cells #[.int .u32 x.kind, .int .u32 x.mode, .int .u32 x.links, .int .u32 x.user, .int .u32 x.group, .int .u64 x.size, .int .u64 x.used, .int .u64 x.id, .int .u32 x.rs, .int .u32 x.rn, .int .u32 x.ws, .int .u32 x.wn, .int .u32 x.ts, .int .u32 x.tn] 28)) W.heap.size x := World.alloc_heap_new W _
theorem Ap.lt {W : World} {h : Nat} {x : Atr} (t : Ap W h x) : h < W.heap.size := (Array.getElem?_eq_some_iff.1 t).1
theorem Ap.next {W W' : World} {h : Nat} {x : Atr} (t : Ap W h x) (hb : Below W.heap.size W W') : Ap W' h x := (hb.block _ t.lt).trans t
theorem Ap.alloc {W : World} {h : Nat} {x : Atr} (t : Ap W h x) (o : Obj) : Ap (W.alloc o) h x := t.next ((Below.refl _ _).alloc (Nat.le_refl _) o)
theorem Ap.kept {W W' : World} {h : Nat} {x : Atr} (t : Ap W h x) (hb : W'.heap[h]? = W.heap[h]?) : Ap W' h x := hb.trans t
/-- Its cells. -/
theorem Ap.c {W : World} {h : Nat} {x : Atr} (t : Ap W h x) : W.cell? ⟨h, 0, none⟩ = some (.int .u32 x.kind) ∧ W.cell? ⟨h, 1, none⟩ = some (.int .u32 x.mode) ∧ W.cell? ⟨h, 2, none⟩ = some (.int .u32 x.links) ∧ W.cell? ⟨h, 3, none⟩ = some (.int .u32 x.user) ∧ W.cell? ⟨h, 4, none⟩ = some (.int .u32 x.group) ∧ W.cell? ⟨h, 5, none⟩ = some (.int .u64 x.size) ∧ W.cell? ⟨h, 6, none⟩ = some (.int .u64 x.used) ∧ W.cell? ⟨h, 7, none⟩ = some (.int .u64 x.id) ∧ W.cell? ⟨h, 8, none⟩ = some (.int .u32 x.rs) ∧ W.cell? ⟨h, 9, none⟩ = some (.int .u32 x.rn) ∧ W.cell? ⟨h, 10, none⟩ = some (.int .u32 x.ws) ∧ W.cell? ⟨h, 11, none⟩ = some (.int .u32 x.wn) ∧ W.cell? ⟨h, 12, none⟩ = some (.int .u32 x.ts) ∧ W.cell? ⟨h, 13, none⟩ = some (.int .u32 x.tn) := by
  have t' : W.heap[h]? = _ := t
  refine ⟨?_, ?_, ?_, ?_, ?_, ?_, ?_, ?_, ?_, ?_, ?_, ?_, ?_, ?_⟩ <;> (simp only [World.cell?, t']; rfl)
theorem a_info : (Tryd.prog.info? 28).map (·.size) = some 14 := by kernel_rfl
set_option maxRecDepth 100000 in
set_option maxHeartbeats 1000000 in
theorem a_self (x : Atr) (w : World) : (binOp .eql 28 (.agg #[.int .u32 x.kind, .int .u32 x.mode, .int .u32 x.links, .int .u32 x.user, .int .u32 x.group, .int .u64 x.size, .int .u64 x.used, .int .u64 x.id, .int .u32 x.rs, .int .u32 x.rn, .int .u32 x.ws, .int .u32 x.wn, .int .u32 x.ts, .int .u32 x.tn]) (.agg #[.int .u32 x.kind, .int .u32 x.mode, .int .u32 x.links, .int .u32 x.user, .int .u32 x.group, .int .u64 x.size, .int .u64 x.used, .int .u64 x.id, .int .u32 x.rs, .int .u32 x.rn, .int .u32 x.ws, .int .u32 x.wn, .int .u32 x.ts, .int .u32 x.tn])).run Tryd.prog w = .ok (.bool true) w := by
  rw [run_eql_struct]
  simp [go_sem]
set_option maxRecDepth 100000 in
set_option maxHeartbeats 1000000 in
theorem a_selfn (x : Atr) (w : World) : (binOp .neq 28 (.agg #[.int .u32 x.kind, .int .u32 x.mode, .int .u32 x.links, .int .u32 x.user, .int .u32 x.group, .int .u64 x.size, .int .u64 x.used, .int .u64 x.id, .int .u32 x.rs, .int .u32 x.rn, .int .u32 x.ws, .int .u32 x.wn, .int .u32 x.ts, .int .u32 x.tn]) (.agg #[.int .u32 x.kind, .int .u32 x.mode, .int .u32 x.links, .int .u32 x.user, .int .u32 x.group, .int .u64 x.size, .int .u64 x.used, .int .u64 x.id, .int .u32 x.rs, .int .u32 x.rn, .int .u32 x.ws, .int .u32 x.wn, .int .u32 x.ts, .int .u32 x.tn])).run Tryd.prog w = .ok (.bool false) w := by
  rw [run_neq_struct]
  simp [go_sem]
end Go.Proofs.YtecbhhfncklefaaDoor
