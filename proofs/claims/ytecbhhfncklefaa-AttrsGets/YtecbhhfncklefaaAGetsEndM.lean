/- The walk of 'AttrsGets', whole. -/
import Derived.Test.YtecbhhfncklefaaAGetsLaw
import Derived.Test.YtecbhhfncklefaaPGetAM
import Derived.Test.YtecbhhfncklefaaRefAGM
namespace Go.Proofs.Ytecbhhfncklefaa
set_option linter.unusedVariables false
open Go.RowKit

theorem agets_end (a : Option Addr) (len cap : Nat) (zs : List Int) (w : World) (hlc : len ≤ cap) (hm : cap ≤ 9223372036854775807) (hz : zs.length = len) (hb : Byt zs) (hs : Seg w a zs) :
    Calls Try.prog 3 #[.slice a len cap] w fun e w' => e = .returned (.bool true) ∧ Below w.heap.size w w' := agets_walk aget_any refaget_any a len cap zs w hlc hm hz hb hs
end Go.Proofs.Ytecbhhfncklefaa
