/- The walk of 'AttrsGetsWeak', whole. -/
import Derived.Test.YtecbhhfncklefaaWGetsLaw
import Derived.Test.YtecbhhfncklefaaPGetWMx
import Derived.Test.YtecbhhfncklefaaRefGWMx
namespace Go.Proofs.Ytecbhhfncklefaa
set_option linter.unusedVariables false
open Go.RowKit

theorem wgets_end (a : Option Addr) (len cap : Nat) (zs : List Int) (w : World) (hlc : len ≤ cap) (hm : cap ≤ 9223372036854775807) (hz : zs.length = len) (hb : Byt zs) (hs : Seg w a zs) :
    Calls Try.prog 5 #[.slice a len cap] w fun e w' => e = .returned (.bool true) ∧ Below w.heap.size w w' := wgets_walk wget_any refgetw_any a len cap zs w hlc hm hz hb hs
end Go.Proofs.Ytecbhhfncklefaa
