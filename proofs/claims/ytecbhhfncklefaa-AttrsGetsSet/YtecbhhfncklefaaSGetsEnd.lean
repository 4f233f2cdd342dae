/- The walk of 'AttrsGetsSet', whole. -/
import Derived.Test.YtecbhhfncklefaaSGetsLaw
import Derived.Test.YtecbhhfncklefaaPGetS
import Derived.Test.YtecbhhfncklefaaRefGS
namespace Go.Proofs.Ytecbhhfncklefaa
set_option linter.unusedVariables false
open Go.RowKit

theorem sgets_end (a : Option Addr) (len cap : Nat) (zs : List Int) (w : World) (hlc : len ≤ cap) (hm : cap ≤ 9223372036854775807) (hz : zs.length = len) (hb : Byt zs) (hs : Seg w a zs) :
    Calls Try.prog 4 #[.slice a len cap] w fun e w' => e = .returned (.bool true) ∧ Below w.heap.size w w' := sgets_walk sget_any refgets_any a len cap zs w hlc hm hz hb hs
end Go.Proofs.Ytecbhhfncklefaa
