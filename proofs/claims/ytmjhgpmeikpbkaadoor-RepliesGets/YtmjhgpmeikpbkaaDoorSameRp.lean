/- 'SameReply' of the same ones: true; nothing that was there turns. -/
import Derived.Test.YtmjhgpmeikpbkaaDoorSame
import Derived.Test.YtmjhgpmeikpbkaaDoorRepSmall
namespace Go.Proofs.YtmjhgpmeikpbkaaDoor
set_option linter.unusedVariables false
open Go.RowKit

theorem below_drews {B : Nat} {w W : World} (h : Below B w W) (n : Nat) : Below B w (W.drewN n) := ⟨h.os, h.tape, h.output, h.size, h.block⟩

set_option maxRecDepth 100000 in
set_option maxHeartbeats 1000000 in
theorem samereply_true (x h l g : Int) (ba bb : Option Addr) (bl bc bd : Nat) (bs : List Int) (w : World) (hbl : bl ≤ 4611686018427387904) (hbz : bs.length = bl) (h3 : Seg w ba bs) (h4 : Seg w bb bs) :
    Calls Tryd.prog 20 #[.agg #[.int .u32 x, .int .u32 h, .int .u32 l, .int .u32 g, .slice ba bl bc], .agg #[.int .u32 x, .int .u32 h, .int .u32 l, .int .u32 g, .slice bb bl bd]] w fun e w' => e = .returned (.bool true) ∧ Below w.heap.size w w' := by
  obtain ⟨k1, k2, hB, hsz⟩ := two_boxes w (.cells #[.int .u32 x, .int .u32 h, .int .u32 l, .int .u32 g, .slice ba bl bc] 26) (.cells #[.int .u32 x, .int .u32 h, .int .u32 l, .int .u32 g, .slice bb bl bd] 26)
  have q0 : ∀ z : Int, (z == z) = true := fun z => by simp
  go_enter Tryd.func20, Tryd.ntmps20
  clear hsz
  go_wp2_with fail
  generalize (w.alloc (.cells #[.int .u32 x, .int .u32 h, .int .u32 l, .int .u32 g, .slice ba bl bc] 26)).alloc (.cells #[.int .u32 x, .int .u32 h, .int .u32 l, .int .u32 g, .slice bb bl bd] 26) = W at *
  refine (same_true ba bb bl bc bd bs _ hbl hbz (h3.below hB) (h4.below hB)).mono ?_
  rintro e w' ⟨rfl, n, rfl⟩
  have hB2 := below_drews hB n
  go_wp2
  go_ret
  exact ⟨rfl, hB2⟩

theorem same_below (a b : Option Addr) (len c1 c2 : Nat) (zs : List Int) (w : World) (hl : len ≤ 4611686018427387904) (hz : zs.length = len) (h1 : Seg w a zs) (h2 : Seg w b zs) :
    Calls Tryd.prog 12 #[.slice a len c1, .slice b len c2] w fun e w' => e = .returned (.bool true) ∧ Below w.heap.size w w' :=
  (same_true a b len c1 c2 zs w hl hz h1 h2).mono (by rintro e w' ⟨rfl, n, rfl⟩; exact ⟨rfl, below_drews (Below.refl _ _) n⟩)
end Go.Proofs.YtmjhgpmeikpbkaaDoor
