/- What the functions of stage 10 answer, as forms: a Put, a Get of each of the three kinds; nothing is claimed of the program here. -/
import Derived.Test.YtecbhhfncklefaaDoorAttrMath2
import Derived.Test.YtecbhhfncklefaaDoorRows
import Derived.Test.YtecbhhfncklefaaDoorBase
import Derived.WalkKit
namespace Go.Proofs.YtecbhhfncklefaaDoor
set_option linter.unusedVariables false
open Go.RowKit

def APut (f : FuncId) : Prop := ∀ (x : Atr) (w : World), x.In → Calls Tryd.prog f #[.agg #[.int .u32 x.kind, .int .u32 x.mode, .int .u32 x.links, .int .u32 x.user, .int .u32 x.group, .int .u64 x.size, .int .u64 x.used, .int .u64 x.id, .int .u32 x.rs, .int .u32 x.rn, .int .u32 x.ws, .int .u32 x.wn, .int .u32 x.ts, .int .u32 x.tn]] w fun e w' => ∃ v, e = .returned (.tuple #[v, .int .i64 (paE (amay x))]) ∧
  w'.ownsRow w.heap.size 5 1 v (paZ (amay x) (aB x)).length ((paZ (amay x) (aB x)).map (Value.int .u8)) ∧ Below w.heap.size w w'
def AGet (f : FuncId) : Prop := ∀ (a : Option Addr) (len cap : Nat) (zs : List Int) (w : World), len ≤ cap → cap ≤ 9223372036854775807 → zs.length = len → Byt zs → Seg w a zs →
  Calls Tryd.prog f #[.slice a len cap] w fun e w' => ∃ v : Atr, v = attrC.gV zs ∧ e = .returned (.tuple #[.agg #[.int .u32 v.kind, .int .u32 v.mode, .int .u32 v.links, .int .u32 v.user, .int .u32 v.group, .int .u64 v.size, .int .u64 v.used, .int .u64 v.id, .int .u32 v.rs, .int .u32 v.rn, .int .u32 v.ws, .int .u32 v.wn, .int .u32 v.ts, .int .u32 v.tn], .int .i64 (attrC.gN zs : Int), .int .i64 (attrC.gE zs)]) ∧ Below w.heap.size w w'

def SPut (f : FuncId) : Prop := ∀ (x : Stt) (w : World), x.In → Calls Tryd.prog f #[.agg #[.bool x.hm, .int .u32 x.mode, .bool x.hu, .int .u32 x.user, .bool x.hg, .int .u32 x.group, .bool x.hs, .int .u64 x.size, .int .u32 x.rh, .int .u32 x.rs, .int .u32 x.rn, .int .u32 x.wh, .int .u32 x.ws, .int .u32 x.wn]] w fun e w' => ∃ v, e = .returned (.tuple #[v, .int .i64 (paE (smay x))]) ∧
  w'.ownsRow w.heap.size 5 1 v (paZ (smay x) (sB x)).length ((paZ (smay x) (sB x)).map (Value.int .u8)) ∧ Below w.heap.size w w'
def SGet (f : FuncId) : Prop := ∀ (a : Option Addr) (len cap : Nat) (zs : List Int) (w : World), len ≤ cap → cap ≤ 9223372036854775807 → zs.length = len → Byt zs → Seg w a zs →
  Calls Tryd.prog f #[.slice a len cap] w fun e w' => ∃ v : Stt, v = setC.gV zs ∧ e = .returned (.tuple #[.agg #[.bool v.hm, .int .u32 v.mode, .bool v.hu, .int .u32 v.user, .bool v.hg, .int .u32 v.group, .bool v.hs, .int .u64 v.size, .int .u32 v.rh, .int .u32 v.rs, .int .u32 v.rn, .int .u32 v.wh, .int .u32 v.ws, .int .u32 v.wn], .int .i64 (setC.gN zs : Int), .int .i64 (setC.gE zs)]) ∧ Below w.heap.size w w'

def WPut (f : FuncId) : Prop := ∀ (x : Wk) (w : World), x.In → Calls Tryd.prog f #[.agg #[.bool x.hb, .int .u64 x.size, .int .u32 x.ws, .int .u32 x.wn, .int .u32 x.ts, .int .u32 x.tn, .bool x.ha, .int .u32 x.af.kind, .int .u32 x.af.mode, .int .u32 x.af.links, .int .u32 x.af.user, .int .u32 x.af.group, .int .u64 x.af.size, .int .u64 x.af.used, .int .u64 x.af.id, .int .u32 x.af.rs, .int .u32 x.af.rn, .int .u32 x.af.ws, .int .u32 x.af.wn, .int .u32 x.af.ts, .int .u32 x.af.tn]] w fun e w' => ∃ v, e = .returned (.tuple #[v, .int .i64 (paE (wmay x))]) ∧
  w'.ownsRow w.heap.size 5 1 v (paZ (wmay x) (wB x)).length ((paZ (wmay x) (wB x)).map (Value.int .u8)) ∧ Below w.heap.size w w'
def WGet (f : FuncId) : Prop := ∀ (a : Option Addr) (len cap : Nat) (zs : List Int) (w : World), len ≤ cap → cap ≤ 9223372036854775807 → zs.length = len → Byt zs → Seg w a zs →
  Calls Tryd.prog f #[.slice a len cap] w fun e w' => ∃ v : Wk, v = weakC.gV zs ∧ e = .returned (.tuple #[.agg #[.bool v.hb, .int .u64 v.size, .int .u32 v.ws, .int .u32 v.wn, .int .u32 v.ts, .int .u32 v.tn, .bool v.ha, .int .u32 v.af.kind, .int .u32 v.af.mode, .int .u32 v.af.links, .int .u32 v.af.user, .int .u32 v.af.group, .int .u64 v.af.size, .int .u64 v.af.used, .int .u64 v.af.id, .int .u32 v.af.rs, .int .u32 v.af.rn, .int .u32 v.af.ws, .int .u32 v.af.wn, .int .u32 v.af.ts, .int .u32 v.af.tn], .int .i64 (weakC.gN zs : Int), .int .i64 (weakC.gE zs)]) ∧ Below w.heap.size w w'

end Go.Proofs.YtecbhhfncklefaaDoor
