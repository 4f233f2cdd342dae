/- What was told ahead and behind, in a block; two of them that are the same; nothing is claimed of the program here. -/
import Derived.Test.YtecbhhfncklefaaDoorAttrMath2
import Derived.Test.YtecbhhfncklefaaDoorRows
import Derived.Test.YtecbhhfncklefaaDoorBookBase
import Derived.ChangeKeysEq
import Derived.RangeFuncRecord
import Derived.Laws.Rows
import Derived.Deep.RegionLaw
import Derived.Deep.RegionHeld3
namespace Go.Proofs.YtecbhhfncklefaaDoor
set_option linter.unusedVariables false
open Go.RowKit

/-- What was told ahead and behind lies in a block. -/
def Wp (W : World) (h : Nat) (x : Wk) : Prop := W.heap[h]? = some (.cells #[.bool x.hb, .int .u64 x.size, .int .u32 x.ws, .int .u32 x.wn, .int .u32 x.ts, .int .u32 x.tn, .bool x.ha, .int .u32 x.af.kind, .int .u32 x.af.mode, .int .u32 x.af.links, .int .u32 x.af.user, .int .u32 x.af.group, .int .u64 x.af.size, .int .u64 x.af.used, .int .u64 x.af.id, .int .u32 x.af.rs, .int .u32 x.af.rn, .int .u32 x.af.ws, .int .u32 x.af.wn, .int .u32 x.af.ts, .int .u32 x.af.tn] 41)
theorem Wp.new (W : World) (x : Wk) : Wp (W.alloc (.cells #[.bool x.hb, .int .u64 x.size, .int .u32 x.ws, .int .u32 x.wn, .int .u32 x.ts, .int .u32 x.tn, .bool x.ha, .int .u32 x.af.kind, .int .u32 x.af.mode, .int .u32 x.af.links, .int .u32 x.af.user, .int .u32 x.af.group, .int .u64 x.af.size, .int .u64 x.af.used, .int .u64 x.af.id, .int .u32 x.af.rs, .int .u32 x.af.rn, .int .u32 x.af.ws, .int .u32 x.af.wn, .int .u32 x.af.ts, .int .u32 x.af.tn] 41)) W.heap.size x := World.alloc_heap_new W _
theorem Wp.lt {W : World} {h : Nat} {x : Wk} (t : Wp W h x) : h < W.heap.size := (Array.getElem?_eq_some_iff.1 t).1
theorem Wp.next {W W' : World} {h : Nat} {x : Wk} (t : Wp W h x) (hb : Below W.heap.size W W') : Wp W' h x := (hb.block _ t.lt).trans t
theorem Wp.alloc {W : World} {h : Nat} {x : Wk} (t : Wp W h x) (o : Obj) : Wp (W.alloc o) h x := t.next ((Below.refl _ _).alloc (Nat.le_refl _) o)
theorem Wp.kept {W W' : World} {h : Nat} {x : Wk} (t : Wp W h x) (hb : W'.heap[h]? = W.heap[h]?) : Wp W' h x := hb.trans t
/-- Its cells. -/
theorem Wp.c {W : World} {h : Nat} {x : Wk} (t : Wp W h x) : W.cell? ⟨h, 0, none⟩ = some (.bool x.hb) ∧ W.cell? ⟨h, 1, none⟩ = some (.int .u64 x.size) ∧ W.cell? ⟨h, 2, none⟩ = some (.int .u32 x.ws) ∧ W.cell? ⟨h, 3, none⟩ = some (.int .u32 x.wn) ∧ W.cell? ⟨h, 4, none⟩ = some (.int .u32 x.ts) ∧ W.cell? ⟨h, 5, none⟩ = some (.int .u32 x.tn) ∧ W.cell? ⟨h, 6, none⟩ = some (.bool x.ha) ∧ W.cell? ⟨h, 7, none⟩ = some (.int .u32 x.af.kind) ∧ W.cell? ⟨h, 8, none⟩ = some (.int .u32 x.af.mode) ∧ W.cell? ⟨h, 9, none⟩ = some (.int .u32 x.af.links) ∧ W.cell? ⟨h, 10, none⟩ = some (.int .u32 x.af.user) ∧ W.cell? ⟨h, 11, none⟩ = some (.int .u32 x.af.group) ∧ W.cell? ⟨h, 12, none⟩ = some (.int .u64 x.af.size) ∧ W.cell? ⟨h, 13, none⟩ = some (.int .u64 x.af.used) ∧ W.cell? ⟨h, 14, none⟩ = some (.int .u64 x.af.id) ∧ W.cell? ⟨h, 15, none⟩ = some (.int .u32 x.af.rs) ∧ W.cell? ⟨h, 16, none⟩ = some (.int .u32 x.af.rn) ∧ W.cell? ⟨h, 17, none⟩ = some (.int .u32 x.af.ws) ∧ W.cell? ⟨h, 18, none⟩ = some (.int .u32 x.af.wn) ∧ W.cell? ⟨h, 19, none⟩ = some (.int .u32 x.af.ts) ∧ W.cell? ⟨h, 20, none⟩ = some (.int .u32 x.af.tn) := by
  have t' : W.heap[h]? = _ := t
  refine ⟨?_, ?_, ?_, ?_, ?_, ?_, ?_, ?_, ?_, ?_, ?_, ?_, ?_, ?_, ?_, ?_, ?_, ?_, ?_, ?_, ?_⟩ <;> (simp only [World.cell?, t']; rfl)
theorem w_info : (Tryd.prog.info? 41).map (·.size) = some 21 := by kernel_rfl
set_option maxRecDepth 100000 in
set_option maxHeartbeats 1000000 in
theorem w_self (x : Wk) (w : World) : (binOp .eql 41 (.agg #[.bool x.hb, .int .u64 x.size, .int .u32 x.ws, .int .u32 x.wn, .int .u32 x.ts, .int .u32 x.tn, .bool x.ha, .int .u32 x.af.kind, .int .u32 x.af.mode, .int .u32 x.af.links, .int .u32 x.af.user, .int .u32 x.af.group, .int .u64 x.af.size, .int .u64 x.af.used, .int .u64 x.af.id, .int .u32 x.af.rs, .int .u32 x.af.rn, .int .u32 x.af.ws, .int .u32 x.af.wn, .int .u32 x.af.ts, .int .u32 x.af.tn]) (.agg #[.bool x.hb, .int .u64 x.size, .int .u32 x.ws, .int .u32 x.wn, .int .u32 x.ts, .int .u32 x.tn, .bool x.ha, .int .u32 x.af.kind, .int .u32 x.af.mode, .int .u32 x.af.links, .int .u32 x.af.user, .int .u32 x.af.group, .int .u64 x.af.size, .int .u64 x.af.used, .int .u64 x.af.id, .int .u32 x.af.rs, .int .u32 x.af.rn, .int .u32 x.af.ws, .int .u32 x.af.wn, .int .u32 x.af.ts, .int .u32 x.af.tn])).run Tryd.prog w = .ok (.bool true) w := by
  rw [run_eql_struct]
  simp [go_sem]
set_option maxRecDepth 100000 in
set_option maxHeartbeats 1000000 in
theorem w_selfn (x : Wk) (w : World) : (binOp .neq 41 (.agg #[.bool x.hb, .int .u64 x.size, .int .u32 x.ws, .int .u32 x.wn, .int .u32 x.ts, .int .u32 x.tn, .bool x.ha, .int .u32 x.af.kind, .int .u32 x.af.mode, .int .u32 x.af.links, .int .u32 x.af.user, .int .u32 x.af.group, .int .u64 x.af.size, .int .u64 x.af.used, .int .u64 x.af.id, .int .u32 x.af.rs, .int .u32 x.af.rn, .int .u32 x.af.ws, .int .u32 x.af.wn, .int .u32 x.af.ts, .int .u32 x.af.tn]) (.agg #[.bool x.hb, .int .u64 x.size, .int .u32 x.ws, .int .u32 x.wn, .int .u32 x.ts, .int .u32 x.tn, .bool x.ha, .int .u32 x.af.kind, .int .u32 x.af.mode, .int .u32 x.af.links, .int .u32 x.af.user, .int .u32 x.af.group, .int .u64 x.af.size, .int .u64 x.af.used, .int .u64 x.af.id, .int .u32 x.af.rs, .int .u32 x.af.rn, .int .u32 x.af.ws, .int .u32 x.af.wn, .int .u32 x.af.ts, .int .u32 x.af.tn])).run Tryd.prog w = .ok (.bool false) w := by
  rw [run_neq_struct]
  simp [go_sem]
end Go.Proofs.YtecbhhfncklefaaDoor
