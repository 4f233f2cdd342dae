/- The walk of 'AttrsPuts', whole. -/
import Derived.Test.YtecbhhfncklefaaDoorAPutsLawM
import Derived.Test.YtecbhhfncklefaaDoorPPutARefTChkM
import Derived.Test.YtecbhhfncklefaaDoorRefAPutM
namespace Go.Proofs.YtecbhhfncklefaaDoor
set_option linter.unusedVariables false
open Go.RowKit

theorem aputs_end (x : Atr) (w : World) (hx : x.In) : Calls Tryd.prog 3 #[.agg #[.int .u32 x.kind, .int .u32 x.mode, .int .u32 x.links, .int .u32 x.user, .int .u32 x.group, .int .u64 x.size, .int .u64 x.used, .int .u64 x.id, .int .u32 x.rs, .int .u32 x.rn, .int .u32 x.ws, .int .u32 x.wn, .int .u32 x.ts, .int .u32 x.tn]] w fun e w' => e = .returned (.bool true) ∧ Below w.heap.size w w' := aputs_walk aput_any refaput_any x w hx
end Go.Proofs.YtecbhhfncklefaaDoor
