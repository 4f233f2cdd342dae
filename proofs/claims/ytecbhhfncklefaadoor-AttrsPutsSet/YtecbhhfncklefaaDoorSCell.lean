/- What is to be set, in a block; two of them that are the same; nothing is claimed of the program here. -/
import Derived.Test.YtecbhhfncklefaaDoorAttrMath2
import Derived.Test.YtecbhhfncklefaaDoorRows
import Derived.Test.YtecbhhfncklefaaDoorBookBase
import Derived.ChangeKeysEq
import Derived.RangeFuncRecord
import Derived.Laws.Rows
import Derived.Deep.RegionLaw
import Derived.Deep.RegionHeld3
namespace Go.Proofs.YtecbhhfncklefaaDoor
set_option linter.unusedVariables false
open Go.RowKit

/-- What is to be set lies in a block. -/
def Sp (W : World) (h : Nat) (x : Stt) : Prop := W.heap[h]? = some (.cells #[.bool x.hm, .int .u32 x.mode, .bool x.hu, .int .u32 x.user, .bool x.hg, .int .u32 x.group, .bool x.hs, .int .u64 x.size, .int .u32 x.rh, .int .u32 x.rs, .int .u32 x.rn, .int .u32 x.wh, .int .u32 x.ws, .int .u32 x.wn] 37)
theorem Sp.new (W : World) (x : Stt) : Sp (W.alloc (.cells #[.bool x.hm, .int .u32 x.mode, .bool x.hu, .int .u32 x.user, .bool x.hg, .int .u32 x.group, .bool x.hs, .int .u64 x.size, .int .u32 x.rh, .int .u32 x.rs, .int .u32 x.rn, .int .u32 x.wh, .int .u32 x.ws, .int .u32 x.wn] 37)) W.heap.size x := World.alloc_heap_new W _
theorem Sp.lt {W : World} {h : Nat} {x : Stt} (t : Sp W h x) : h < W.heap.size := (Array.getElem?_eq_some_iff.1 t).1
theorem Sp.next {W W' : World} {h : Nat} {x : Stt} (t : Sp W h x) (hb : Below W.heap.size W W') : Sp W' h x := (hb.block _ t.lt).trans t
theorem Sp.alloc {W : World} {h : Nat} {x : Stt} (t : Sp W h x) (o : Obj) : Sp (W.alloc o) h x := t.next ((Below.refl _ _).alloc (Nat.le_refl _) o)
theorem Sp.kept {W W' : World} {h : Nat} {x : Stt} (t : Sp W h x) (hb : W'.heap[h]? = W.heap[h]?) : Sp W' h x := hb.trans t
/-- Its cells. -/
theorem Sp.c {W : World} {h : Nat} {x : Stt} (t : Sp W h x) : W.cell? ⟨h, 0, none⟩ = some (.bool x.hm) ∧ W.cell? ⟨h, 1, none⟩ = some (.int .u32 x.mode) ∧ W.cell? ⟨h, 2, none⟩ = some (.bool x.hu) ∧ W.cell? ⟨h, 3, none⟩ = some (.int .u32 x.user) ∧ W.cell? ⟨h, 4, none⟩ = some (.bool x.hg) ∧ W.cell? ⟨h, 5, none⟩ = some (.int .u32 x.group) ∧ W.cell? ⟨h, 6, none⟩ = some (.bool x.hs) ∧ W.cell? ⟨h, 7, none⟩ = some (.int .u64 x.size) ∧ W.cell? ⟨h, 8, none⟩ = some (.int .u32 x.rh) ∧ W.cell? ⟨h, 9, none⟩ = some (.int .u32 x.rs) ∧ W.cell? ⟨h, 10, none⟩ = some (.int .u32 x.rn) ∧ W.cell? ⟨h, 11, none⟩ = some (.int .u32 x.wh) ∧ W.cell? ⟨h, 12, none⟩ = some (.int .u32 x.ws) ∧ W.cell? ⟨h, 13, none⟩ = some (.int .u32 x.wn) := by
  have t' : W.heap[h]? = _ := t
  refine ⟨?_, ?_, ?_, ?_, ?_, ?_, ?_, ?_, ?_, ?_, ?_, ?_, ?_, ?_⟩ <;> (simp only [World.cell?, t']; rfl)
theorem s_info : (Tryd.prog.info? 37).map (·.size) = some 14 := by kernel_rfl
set_option maxRecDepth 100000 in
set_option maxHeartbeats 1000000 in
theorem s_self (x : Stt) (w : World) : (binOp .eql 37 (.agg #[.bool x.hm, .int .u32 x.mode, .bool x.hu, .int .u32 x.user, .bool x.hg, .int .u32 x.group, .bool x.hs, .int .u64 x.size, .int .u32 x.rh, .int .u32 x.rs, .int .u32 x.rn, .int .u32 x.wh, .int .u32 x.ws, .int .u32 x.wn]) (.agg #[.bool x.hm, .int .u32 x.mode, .bool x.hu, .int .u32 x.user, .bool x.hg, .int .u32 x.group, .bool x.hs, .int .u64 x.size, .int .u32 x.rh, .int .u32 x.rs, .int .u32 x.rn, .int .u32 x.wh, .int .u32 x.ws, .int .u32 x.wn])).run Tryd.prog w = .ok (.bool true) w := by
  rw [run_eql_struct]
  simp [go_sem]
set_option maxRecDepth 100000 in
set_option maxHeartbeats 1000000 in
theorem s_selfn (x : Stt) (w : World) : (binOp .neq 37 (.agg #[.bool x.hm, .int .u32 x.mode, .bool x.hu, .int .u32 x.user, .bool x.hg, .int .u32 x.group, .bool x.hs, .int .u64 x.size, .int .u32 x.rh, .int .u32 x.rs, .int .u32 x.rn, .int .u32 x.wh, .int .u32 x.ws, .int .u32 x.wn]) (.agg #[.bool x.hm, .int .u32 x.mode, .bool x.hu, .int .u32 x.user, .bool x.hg, .int .u32 x.group, .bool x.hs, .int .u64 x.size, .int .u32 x.rh, .int .u32 x.rs, .int .u32 x.rn, .int .u32 x.wh, .int .u32 x.ws, .int .u32 x.wn])).run Tryd.prog w = .ok (.bool false) w := by
  rw [run_neq_struct]
  simp [go_sem]
end Go.Proofs.YtecbhhfncklefaaDoor
