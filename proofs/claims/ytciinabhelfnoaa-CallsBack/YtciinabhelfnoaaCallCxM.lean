/- A call that came in, in its box; and what is gone through ('great'). -/
import Derived.Test.YtciinabhelfnoaaCallPutM
import Derived.WalkSmall
namespace Go.Proofs.Ytciinabhelfnoaa
set_option linter.unusedVariables false
open Go.RowKit

/-- A call in the first box since w; w as it was. -/
structure Cx (w : World) (x p v c f : Int) (m : ByteArray) (s u g : Int) (ga : Option Addr) (gl gc : Nat) (ba : Option Addr) (bl bc : Nat) (W : World) : Prop where
  below : Below w.heap.size w W
  call : W.heap[w.heap.size]? = some (.cells #[.int .u32 x, .int .u32 p, .int .u32 v, .int .u32 c, .int .u32 f, .string m, .int .u32 s, .int .u32 u, .int .u32 g, .slice ga gl gc, .slice ba bl bc] 28)
theorem Cx.start (w : World) (x p v c f : Int) (m : ByteArray) (s u g : Int) (ga : Option Addr) (gl gc : Nat) (ba : Option Addr) (bl bc : Nat) : Cx w x p v c f m s u g ga gl gc ba bl bc (w.alloc (.cells #[.int .u32 x, .int .u32 p, .int .u32 v, .int .u32 c, .int .u32 f, .string m, .int .u32 s, .int .u32 u, .int .u32 g, .slice ga gl gc, .slice ba bl bc] 28)) := ⟨(Below.refl _ _).alloc (Nat.le_refl _) _, heap_alloc_new w _⟩
theorem Cx.next {w : World} {x p v c f : Int} {m : ByteArray} {s u g : Int} {ga : Option Addr} {gl gc : Nat} {ba : Option Addr} {bl bc : Nat} {W W' : World} (h : Cx w x p v c f m s u g ga gl gc ba bl bc W) (hb : Below W.heap.size W W') : Cx w x p v c f m s u g ga gl gc ba bl bc W' :=
  ⟨h.below.trans (hb.mono h.below.size), (hb.block _ (Array.getElem?_eq_some_iff.1 h.call).1).trans h.call⟩
theorem Cx.alloc {w : World} {x p v c f : Int} {m : ByteArray} {s u g : Int} {ga : Option Addr} {gl gc : Nat} {ba : Option Addr} {bl bc : Nat} {W : World} (h : Cx w x p v c f m s u g ga gl gc ba bl bc W) (o : Obj) : Cx w x p v c f m s u g ga gl gc ba bl bc (W.alloc o) := h.next ((Below.refl _ _).alloc (Nat.le_refl _) o)

/-- More than is gone through. -/
def isGreat (m : ByteArray) (gl bl : Nat) : Prop := 5000 < m.size ∨ 1000 < gl ∨ 200000 < bl

set_option maxHeartbeats 1000000 in
theorem great_yes (x p v c f : Int) (m : ByteArray) (s u g : Int) (ga : Option Addr) (gl gc : Nat) (ba : Option Addr) (bl bc : Nat) (w : World) (hm : m.size ≤ 140737488351232) (hg : gl ≤ 140737488351232) (hb : bl ≤ 140737488351232) (h : isGreat m gl bl) : Calls Try.prog 8 #[.agg #[.int .u32 x, .int .u32 p, .int .u32 v, .int .u32 c, .int .u32 f, .string m, .int .u32 s, .int .u32 u, .int .u32 g, .slice ga gl gc, .slice ba bl bc]] w fun e w' => e = .returned (.bool true) ∧ Below w.heap.size w w' := by
  have hB : Below w.heap.size w (w.alloc (.cells #[.int .u32 x, .int .u32 p, .int .u32 v, .int .u32 c, .int .u32 f, .string m, .int .u32 s, .int .u32 u, .int .u32 g, .slice ga gl gc, .slice ba bl bc] 28)) := (Below.refl _ _).alloc (Nat.le_refl _) _
  by_cases h1 : 5000 < m.size
  · have h1' : (5000 : Int) < m.size := by omega
    go_enter Try.func8, Try.ntmps8
    go_wp2
    go_ret
    exact ⟨rfl, hB⟩
  have h1' : ¬ (5000 : Int) < m.size := by omega
  by_cases h2 : 1000 < gl
  · have h2' : (1000 : Int) < gl := by omega
    go_enter Try.func8, Try.ntmps8
    go_wp2
    go_ret
    exact ⟨rfl, hB⟩
  have h2' : ¬ (1000 : Int) < gl := by omega
  have h3 : 200000 < bl := by
    rcases h with h | h | h
    · exact absurd h h1
    · exact absurd h h2
    · exact h
  have h3' : (200000 : Int) < bl := by omega
  clear h h1 h2
  go_enter Try.func8, Try.ntmps8
  go_wp2
  go_ret
  exact ⟨rfl, hB⟩

set_option maxHeartbeats 1000000 in
theorem great_no (x p v c f : Int) (m : ByteArray) (s u g : Int) (ga : Option Addr) (gl gc : Nat) (ba : Option Addr) (bl bc : Nat) (w : World) (h : ¬ isGreat m gl bl) : Calls Try.prog 8 #[.agg #[.int .u32 x, .int .u32 p, .int .u32 v, .int .u32 c, .int .u32 f, .string m, .int .u32 s, .int .u32 u, .int .u32 g, .slice ga gl gc, .slice ba bl bc]] w fun e w' => e = .returned (.bool false) ∧ Below w.heap.size w w' := by
  have hB : Below w.heap.size w (w.alloc (.cells #[.int .u32 x, .int .u32 p, .int .u32 v, .int .u32 c, .int .u32 f, .string m, .int .u32 s, .int .u32 u, .int .u32 g, .slice ga gl gc, .slice ba bl bc] 28)) := (Below.refl _ _).alloc (Nat.le_refl _) _
  have h1 : ¬ (5000 : Int) < m.size := fun k => h (.inl (by omega))
  have h2 : ¬ (1000 : Int) < gl := fun k => h (.inr (.inl (by omega)))
  have h3 : ¬ (200000 : Int) < bl := fun k => h (.inr (.inr (by omega)))
  have hm : m.size ≤ 5000 := by omega
  have hg : gl ≤ 1000 := by omega
  have hb : bl ≤ 200000 := by omega
  clear h
  go_enter Try.func8, Try.ntmps8
  go_wp2
  go_ret
  exact ⟨rfl, hB⟩
end Go.Proofs.Ytciinabhelfnoaa
