/- 'SameCall' of the same ones: true; nothing that was there turns. -/
import Derived.Test.YtciinabhelfnoaaSame4SameCrM
import Derived.Test.YtciinabhelfnoaaSame
import Derived.Test.YtciinabhelfnoaaCallPutM
namespace Go.Proofs.Ytciinabhelfnoaa
set_option linter.unusedVariables false
open Go.RowKit

set_option maxRecDepth 100000 in
set_option maxHeartbeats 1000000 in
theorem samecall_true (x p v c f : Int) (m : ByteArray) (s u g : Int) (ga gb : Option Addr) (gl gc gd : Nat) (ba bb : Option Addr) (bl bc bd : Nat) (gs bs : List Int) (w : World) (hgl : gl ≤ 4611686018427387904) (hgz : gs.length = gl) (h1 : Seg4 w ga gs) (h2 : Seg4 w gb gs)
    (hbl : bl ≤ 4611686018427387904) (hbz : bs.length = bl) (h3 : Seg w ba bs) (h4 : Seg w bb bs) :
    Calls Try.prog 12 #[.agg #[.int .u32 x, .int .u32 p, .int .u32 v, .int .u32 c, .int .u32 f, .string m, .int .u32 s, .int .u32 u, .int .u32 g, .slice ga gl gc, .slice ba bl bc], .agg #[.int .u32 x, .int .u32 p, .int .u32 v, .int .u32 c, .int .u32 f, .string m, .int .u32 s, .int .u32 u, .int .u32 g, .slice gb gl gd, .slice bb bl bd]] w fun e w' => e = .returned (.bool true) ∧ Below w.heap.size w w' := by
  have hB0 : Below w.heap.size w (w.alloc (.cells #[.int .u32 x, .int .u32 p, .int .u32 v, .int .u32 c, .int .u32 f, .string m, .int .u32 s, .int .u32 u, .int .u32 g, .slice ga gl gc, .slice ba bl bc] 28)) := (Below.refl _ _).alloc (Nat.le_refl _) _
  have hB : Below w.heap.size w ((w.alloc (.cells #[.int .u32 x, .int .u32 p, .int .u32 v, .int .u32 c, .int .u32 f, .string m, .int .u32 s, .int .u32 u, .int .u32 g, .slice ga gl gc, .slice ba bl bc] 28)).alloc (.cells #[.int .u32 x, .int .u32 p, .int .u32 v, .int .u32 c, .int .u32 f, .string m, .int .u32 s, .int .u32 u, .int .u32 g, .slice gb gl gd, .slice bb bl bd] 28)) := hB0.alloc hB0.size _
  have k1 : ((w.alloc (.cells #[.int .u32 x, .int .u32 p, .int .u32 v, .int .u32 c, .int .u32 f, .string m, .int .u32 s, .int .u32 u, .int .u32 g, .slice ga gl gc, .slice ba bl bc] 28)).alloc (.cells #[.int .u32 x, .int .u32 p, .int .u32 v, .int .u32 c, .int .u32 f, .string m, .int .u32 s, .int .u32 u, .int .u32 g, .slice gb gl gd, .slice bb bl bd] 28)).heap[w.heap.size]? = some (.cells #[.int .u32 x, .int .u32 p, .int .u32 v, .int .u32 c, .int .u32 f, .string m, .int .u32 s, .int .u32 u, .int .u32 g, .slice ga gl gc, .slice ba bl bc] 28) :=
    (Below.heap_alloc _ _ _ (by simp)).trans (heap_alloc_new w _)
  have k2 : ((w.alloc (.cells #[.int .u32 x, .int .u32 p, .int .u32 v, .int .u32 c, .int .u32 f, .string m, .int .u32 s, .int .u32 u, .int .u32 g, .slice ga gl gc, .slice ba bl bc] 28)).alloc (.cells #[.int .u32 x, .int .u32 p, .int .u32 v, .int .u32 c, .int .u32 f, .string m, .int .u32 s, .int .u32 u, .int .u32 g, .slice gb gl gd, .slice bb bl bd] 28)).heap[w.heap.size + 1]? = some (.cells #[.int .u32 x, .int .u32 p, .int .u32 v, .int .u32 c, .int .u32 f, .string m, .int .u32 s, .int .u32 u, .int .u32 g, .slice gb gl gd, .slice bb bl bd] 28) := by
    have := heap_alloc_new (w.alloc (.cells #[.int .u32 x, .int .u32 p, .int .u32 v, .int .u32 c, .int .u32 f, .string m, .int .u32 s, .int .u32 u, .int .u32 g, .slice ga gl gc, .slice ba bl bc] 28)) (.cells #[.int .u32 x, .int .u32 p, .int .u32 v, .int .u32 c, .int .u32 f, .string m, .int .u32 s, .int .u32 u, .int .u32 g, .slice gb gl gd, .slice bb bl bd] 28)
    simpa using this
  have q0 : ∀ z : Int, (z == z) = true := fun z => by simp
  have q1 : (m.toList == m.toList) = true := by simp
  go_enter Try.func12, Try.ntmps12
  go_wp2_with fail
  generalize (w.alloc (.cells #[.int .u32 x, .int .u32 p, .int .u32 v, .int .u32 c, .int .u32 f, .string m, .int .u32 s, .int .u32 u, .int .u32 g, .slice ga gl gc, .slice ba bl bc] 28)).alloc (.cells #[.int .u32 x, .int .u32 p, .int .u32 v, .int .u32 c, .int .u32 f, .string m, .int .u32 s, .int .u32 u, .int .u32 g, .slice gb gl gd, .slice bb bl bd] 28) = W at *
  clear hB0
  refine (samecred_true u g ga gb gl gc gd gs _ hgl hgz (h1.below hB) (h2.below hB)).mono ?_
  rintro e W1 ⟨rfl, hb1⟩
  replace k1 := (hb1.block _ (Array.getElem?_eq_some_iff.1 k1).1).trans k1
  replace k2 := (hb1.block _ (Array.getElem?_eq_some_iff.1 k2).1).trans k2
  obtain ⟨_, _, _, _, _, _, _, _, _, _, c10⟩ := call_at k1
  obtain ⟨_, _, _, _, _, _, _, _, _, _, d10⟩ := call_at k2
  have hB1 := hB.trans (hb1.mono hB.size)
  clear hB hb1
  go_wp2_with fail
  refine (same_true ba bb bl bc bd bs _ hbl hbz (h3.below hB1) (h4.below hB1)).mono ?_
  rintro e w' ⟨rfl, n, rfl⟩
  have hB2 := below_drewN hB1 n
  go_wp2
  go_ret
  exact ⟨rfl, hB2⟩
end Go.Proofs.Ytciinabhelfnoaa
