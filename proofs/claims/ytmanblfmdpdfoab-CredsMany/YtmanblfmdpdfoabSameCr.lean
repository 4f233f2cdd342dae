/- 'SameCred' of the same ones: true; nothing that was there turns. -/
import Derived.Test.YtmanblfmdpdfoabSame4
import Derived.WalkSmall
namespace Go.Proofs.Ytmanblfmdpdfoab
set_option linter.unusedVariables false
open Go.RowKit

set_option maxHeartbeats 1000000 in
theorem samecred_true (u g : Int) (a b : Option Addr) (len ca cb : Nat) (gs : List Int) (w : World) (hl : len ≤ 4611686018427387904) (hz : gs.length = len) (ha : Seg4 w a gs) (hb : Seg4 w b gs) :
    Calls Try.prog 13 #[.agg #[.int .u32 u, .int .u32 g, .slice a len ca], .agg #[.int .u32 u, .int .u32 g, .slice b len cb]] w fun e w' => e = .returned (.bool true) ∧ Below w.heap.size w w' := by
  have hB : Below w.heap.size w ((w.alloc (.cells #[.int .u32 u, .int .u32 g, .slice a len ca] 25)).alloc (.cells #[.int .u32 u, .int .u32 g, .slice b len cb] 25)) := ((Below.refl _ _).alloc (Nat.le_refl _) _).alloc (by simp) _
  have ha' := ha.below hB
  have hb' := hb.below hB
  have q1 : (u == u) = true := by simp
  have q2 : (g == g) = true := by simp
  go_enter Try.func13, Try.ntmps13
  go_wp2_with fail
  refine (same4_true a b len ca cb gs _ hl hz ha' hb').mono ?_
  rintro e w' ⟨rfl, n, rfl⟩
  have hB' := below_drewN hB n
  go_wp2
  go_ret
  exact ⟨rfl, hB'⟩

end Go.Proofs.Ytmanblfmdpdfoab
