/- 'TwinCall', 'LeftCall'; nothing that was there turns. -/
import Derived.Test.YtciinabhelfnoaaDoorCredCellsCredTwinM
import Derived.Test.YtciinabhelfnoaaDoorCallPutM
import Derived.Test.YtciinabhelfnoaaDoorTwinLeftM
import Derived.WalkSmall
import Derived.Deep.RegionHeld3
namespace Go.Proofs.YtciinabhelfnoaaDoor
set_option linter.unusedVariables false
open Go.RowKit

set_option maxRecDepth 100000 in
set_option maxHeartbeats 1000000 in
theorem leftcall_true (x p v c f : Int) (m : ByteArray) (s u g : Int) (gb : Nat) (ga : Option Addr) (gl gc : Nat) (bb : Nat) (ba : Option Addr) (bl bc : Nat) (gs bs : List Int) (w : World) (hgl : gl ≤ 1048576) (hgz : gs.length = gl) (h1 : Seg4 w ga gs) (t1 : IsTwin4 w gb gs)
    (hbl : bl ≤ 1048576) (hbz : bs.length = bl) (h3 : Seg w ba bs) (t2 : IsTwin w bb bs) :
    Calls Tryd.prog 9 #[.agg #[.int .u32 x, .int .u32 p, .int .u32 v, .int .u32 c, .int .u32 f, .string m, .int .u32 s, .int .u32 u, .int .u32 g, .slice (some ⟨gb, 0, none⟩) gl (gl + 1), .slice (some ⟨bb, 0, none⟩) bl (bl + 1)], .agg #[.int .u32 x, .int .u32 p, .int .u32 v, .int .u32 c, .int .u32 f, .string m, .int .u32 s, .int .u32 u, .int .u32 g, .slice ga gl gc, .slice ba bl bc]] w fun e w' => e = .returned (.bool true) ∧ Below w.heap.size w w' := by
  have hB0 : Below w.heap.size w (w.alloc (.cells #[.int .u32 x, .int .u32 p, .int .u32 v, .int .u32 c, .int .u32 f, .string m, .int .u32 s, .int .u32 u, .int .u32 g, .slice (some ⟨gb, 0, none⟩) gl (gl + 1), .slice (some ⟨bb, 0, none⟩) bl (bl + 1)] 28)) := (Below.refl _ _).alloc (Nat.le_refl _) _
  have hB : Below w.heap.size w ((w.alloc (.cells #[.int .u32 x, .int .u32 p, .int .u32 v, .int .u32 c, .int .u32 f, .string m, .int .u32 s, .int .u32 u, .int .u32 g, .slice (some ⟨gb, 0, none⟩) gl (gl + 1), .slice (some ⟨bb, 0, none⟩) bl (bl + 1)] 28)).alloc (.cells #[.int .u32 x, .int .u32 p, .int .u32 v, .int .u32 c, .int .u32 f, .string m, .int .u32 s, .int .u32 u, .int .u32 g, .slice ga gl gc, .slice ba bl bc] 28)) := hB0.alloc hB0.size _
  have k1 : ((w.alloc (.cells #[.int .u32 x, .int .u32 p, .int .u32 v, .int .u32 c, .int .u32 f, .string m, .int .u32 s, .int .u32 u, .int .u32 g, .slice (some ⟨gb, 0, none⟩) gl (gl + 1), .slice (some ⟨bb, 0, none⟩) bl (bl + 1)] 28)).alloc (.cells #[.int .u32 x, .int .u32 p, .int .u32 v, .int .u32 c, .int .u32 f, .string m, .int .u32 s, .int .u32 u, .int .u32 g, .slice ga gl gc, .slice ba bl bc] 28)).heap[w.heap.size]? = some (.cells #[.int .u32 x, .int .u32 p, .int .u32 v, .int .u32 c, .int .u32 f, .string m, .int .u32 s, .int .u32 u, .int .u32 g, .slice (some ⟨gb, 0, none⟩) gl (gl + 1), .slice (some ⟨bb, 0, none⟩) bl (bl + 1)] 28) :=
    (Below.heap_alloc _ _ _ (by simp)).trans (heap_alloc_new w _)
  have k2 : ((w.alloc (.cells #[.int .u32 x, .int .u32 p, .int .u32 v, .int .u32 c, .int .u32 f, .string m, .int .u32 s, .int .u32 u, .int .u32 g, .slice (some ⟨gb, 0, none⟩) gl (gl + 1), .slice (some ⟨bb, 0, none⟩) bl (bl + 1)] 28)).alloc (.cells #[.int .u32 x, .int .u32 p, .int .u32 v, .int .u32 c, .int .u32 f, .string m, .int .u32 s, .int .u32 u, .int .u32 g, .slice ga gl gc, .slice ba bl bc] 28)).heap[w.heap.size + 1]? = some (.cells #[.int .u32 x, .int .u32 p, .int .u32 v, .int .u32 c, .int .u32 f, .string m, .int .u32 s, .int .u32 u, .int .u32 g, .slice ga gl gc, .slice ba bl bc] 28) := by
    have := heap_alloc_new (w.alloc (.cells #[.int .u32 x, .int .u32 p, .int .u32 v, .int .u32 c, .int .u32 f, .string m, .int .u32 s, .int .u32 u, .int .u32 g, .slice (some ⟨gb, 0, none⟩) gl (gl + 1), .slice (some ⟨bb, 0, none⟩) bl (bl + 1)] 28)) (.cells #[.int .u32 x, .int .u32 p, .int .u32 v, .int .u32 c, .int .u32 f, .string m, .int .u32 s, .int .u32 u, .int .u32 g, .slice ga gl gc, .slice ba bl bc] 28)
    simpa using this
  have q0 : ∀ z : Int, (z == z) = true := fun z => by simp
  have q1 : (m.toList == m.toList) = true := by simp
  go_enter Tryd.func9, Tryd.ntmps9
  go_wp2_with fail
  generalize (w.alloc (.cells #[.int .u32 x, .int .u32 p, .int .u32 v, .int .u32 c, .int .u32 f, .string m, .int .u32 s, .int .u32 u, .int .u32 g, .slice (some ⟨gb, 0, none⟩) gl (gl + 1), .slice (some ⟨bb, 0, none⟩) bl (bl + 1)] 28)).alloc (.cells #[.int .u32 x, .int .u32 p, .int .u32 v, .int .u32 c, .int .u32 f, .string m, .int .u32 s, .int .u32 u, .int .u32 g, .slice ga gl gc, .slice ba bl bc] 28) = W at *
  clear hB0
  refine (leftcred_true u g gb ga gl gc gs _ hgl hgz (h1.below hB) (t1.below hB)).mono ?_
  rintro e W1 ⟨rfl, hb1⟩
  replace k1 := (hb1.block _ (Array.getElem?_eq_some_iff.1 k1).1).trans k1
  replace k2 := (hb1.block _ (Array.getElem?_eq_some_iff.1 k2).1).trans k2
  obtain ⟨_, _, _, _, _, _, _, _, _, _, c10⟩ := call_at k1
  obtain ⟨_, _, _, _, _, _, _, _, _, _, d10⟩ := call_at k2
  have hB1 := hB.trans (hb1.mono hB.size)
  clear hB hb1
  go_wp2_with fail
  refine (left bb bl ba bc bs _ hbl hbz (h3.below hB1) (t2.below hB1)).mono ?_
  rintro e w' ⟨rfl, n, rfl⟩
  have hB2 := below_drewN hB1 n
  go_wp2
  go_ret
  exact ⟨rfl, hB2⟩

theorem call_farB {W : World} {h H : Nat} (hne : h ≠ H) (y0 y1 y2 y3 y4 y5 y6 y7 y8 y9 y10 : Value) : (((((((((((W.setCell ⟨H, 0, none⟩ y0).setCell ⟨H, 1, none⟩ y1).setCell ⟨H, 2, none⟩ y2).setCell ⟨H, 3, none⟩ y3).setCell ⟨H, 4, none⟩ y4).setCell ⟨H, 5, none⟩ y5).setCell ⟨H, 6, none⟩ y6).setCell ⟨H, 7, none⟩ y7).setCell ⟨H, 8, none⟩ y8).setCell ⟨H, 9, none⟩ y9).setCell ⟨H, 10, none⟩ y10).heap[h]? = W.heap[h]? := by
  have e0 : (W.setCell ⟨H, 0, none⟩ y0).heap[h]? = W.heap[h]? := (Below.heap_setCell _ ⟨H, 0, none⟩ y0 h hne)
  have e1 : ((W.setCell ⟨H, 0, none⟩ y0).setCell ⟨H, 1, none⟩ y1).heap[h]? = W.heap[h]? := (Below.heap_setCell _ ⟨H, 1, none⟩ y1 h hne).trans e0
  have e2 : (((W.setCell ⟨H, 0, none⟩ y0).setCell ⟨H, 1, none⟩ y1).setCell ⟨H, 2, none⟩ y2).heap[h]? = W.heap[h]? := (Below.heap_setCell _ ⟨H, 2, none⟩ y2 h hne).trans e1
  have e3 : ((((W.setCell ⟨H, 0, none⟩ y0).setCell ⟨H, 1, none⟩ y1).setCell ⟨H, 2, none⟩ y2).setCell ⟨H, 3, none⟩ y3).heap[h]? = W.heap[h]? := (Below.heap_setCell _ ⟨H, 3, none⟩ y3 h hne).trans e2
  have e4 : (((((W.setCell ⟨H, 0, none⟩ y0).setCell ⟨H, 1, none⟩ y1).setCell ⟨H, 2, none⟩ y2).setCell ⟨H, 3, none⟩ y3).setCell ⟨H, 4, none⟩ y4).heap[h]? = W.heap[h]? := (Below.heap_setCell _ ⟨H, 4, none⟩ y4 h hne).trans e3
  have e5 : ((((((W.setCell ⟨H, 0, none⟩ y0).setCell ⟨H, 1, none⟩ y1).setCell ⟨H, 2, none⟩ y2).setCell ⟨H, 3, none⟩ y3).setCell ⟨H, 4, none⟩ y4).setCell ⟨H, 5, none⟩ y5).heap[h]? = W.heap[h]? := (Below.heap_setCell _ ⟨H, 5, none⟩ y5 h hne).trans e4
  have e6 : (((((((W.setCell ⟨H, 0, none⟩ y0).setCell ⟨H, 1, none⟩ y1).setCell ⟨H, 2, none⟩ y2).setCell ⟨H, 3, none⟩ y3).setCell ⟨H, 4, none⟩ y4).setCell ⟨H, 5, none⟩ y5).setCell ⟨H, 6, none⟩ y6).heap[h]? = W.heap[h]? := (Below.heap_setCell _ ⟨H, 6, none⟩ y6 h hne).trans e5
  have e7 : ((((((((W.setCell ⟨H, 0, none⟩ y0).setCell ⟨H, 1, none⟩ y1).setCell ⟨H, 2, none⟩ y2).setCell ⟨H, 3, none⟩ y3).setCell ⟨H, 4, none⟩ y4).setCell ⟨H, 5, none⟩ y5).setCell ⟨H, 6, none⟩ y6).setCell ⟨H, 7, none⟩ y7).heap[h]? = W.heap[h]? := (Below.heap_setCell _ ⟨H, 7, none⟩ y7 h hne).trans e6
  have e8 : (((((((((W.setCell ⟨H, 0, none⟩ y0).setCell ⟨H, 1, none⟩ y1).setCell ⟨H, 2, none⟩ y2).setCell ⟨H, 3, none⟩ y3).setCell ⟨H, 4, none⟩ y4).setCell ⟨H, 5, none⟩ y5).setCell ⟨H, 6, none⟩ y6).setCell ⟨H, 7, none⟩ y7).setCell ⟨H, 8, none⟩ y8).heap[h]? = W.heap[h]? := (Below.heap_setCell _ ⟨H, 8, none⟩ y8 h hne).trans e7
  have e9 : ((((((((((W.setCell ⟨H, 0, none⟩ y0).setCell ⟨H, 1, none⟩ y1).setCell ⟨H, 2, none⟩ y2).setCell ⟨H, 3, none⟩ y3).setCell ⟨H, 4, none⟩ y4).setCell ⟨H, 5, none⟩ y5).setCell ⟨H, 6, none⟩ y6).setCell ⟨H, 7, none⟩ y7).setCell ⟨H, 8, none⟩ y8).setCell ⟨H, 9, none⟩ y9).heap[h]? = W.heap[h]? := (Below.heap_setCell _ ⟨H, 9, none⟩ y9 h hne).trans e8
  have e10 : (((((((((((W.setCell ⟨H, 0, none⟩ y0).setCell ⟨H, 1, none⟩ y1).setCell ⟨H, 2, none⟩ y2).setCell ⟨H, 3, none⟩ y3).setCell ⟨H, 4, none⟩ y4).setCell ⟨H, 5, none⟩ y5).setCell ⟨H, 6, none⟩ y6).setCell ⟨H, 7, none⟩ y7).setCell ⟨H, 8, none⟩ y8).setCell ⟨H, 9, none⟩ y9).setCell ⟨H, 10, none⟩ y10).heap[h]? = W.heap[h]? := (Below.heap_setCell _ ⟨H, 10, none⟩ y10 h hne).trans e9
  exact e10
theorem call_far {W W' : World} {h : Nat} (e : W'.heap[h]? = W.heap[h]?) {x0 x1 x2 x3 x4 x5 x6 x7 x8 x9 x10 : Value} (S : W.cell? ⟨h, 0, none⟩ = some x0 ∧ W.cell? ⟨h, 1, none⟩ = some x1 ∧ W.cell? ⟨h, 2, none⟩ = some x2 ∧ W.cell? ⟨h, 3, none⟩ = some x3 ∧ W.cell? ⟨h, 4, none⟩ = some x4 ∧ W.cell? ⟨h, 5, none⟩ = some x5 ∧ W.cell? ⟨h, 6, none⟩ = some x6 ∧ W.cell? ⟨h, 7, none⟩ = some x7 ∧ W.cell? ⟨h, 8, none⟩ = some x8 ∧ W.cell? ⟨h, 9, none⟩ = some x9 ∧ W.cell? ⟨h, 10, none⟩ = some x10) : W'.cell? ⟨h, 0, none⟩ = some x0 ∧ W'.cell? ⟨h, 1, none⟩ = some x1 ∧ W'.cell? ⟨h, 2, none⟩ = some x2 ∧ W'.cell? ⟨h, 3, none⟩ = some x3 ∧ W'.cell? ⟨h, 4, none⟩ = some x4 ∧ W'.cell? ⟨h, 5, none⟩ = some x5 ∧ W'.cell? ⟨h, 6, none⟩ = some x6 ∧ W'.cell? ⟨h, 7, none⟩ = some x7 ∧ W'.cell? ⟨h, 8, none⟩ = some x8 ∧ W'.cell? ⟨h, 9, none⟩ = some x9 ∧ W'.cell? ⟨h, 10, none⟩ = some x10 := by
  have e' : ∀ k, W'.cell? ⟨h, k, none⟩ = W.cell? ⟨h, k, none⟩ := fun k => World.cell?_of_block (w := W) e
  obtain ⟨s0, s1, s2, s3, s4, s5, s6, s7, s8, s9, s10⟩ := S
  exact ⟨(e' 0).trans s0, (e' 1).trans s1, (e' 2).trans s2, (e' 3).trans s3, (e' 4).trans s4, (e' 5).trans s5, (e' 6).trans s6, (e' 7).trans s7, (e' 8).trans s8, (e' 9).trans s9, (e' 10).trans s10⟩
theorem call_set6 {W : World} {h : Nat} {x0 x1 x2 x3 x4 x5 x6 x7 x8 x9 x10 : Value} {t : TypeId} (hh : W.heap[h]? = some (.cells #[x0, x1, x2, x3, x4, x5, x6, x7, x8, x9, x10] t)) (y0 y1 y2 y3 y4 y5 y6 y7 y8 y9 y10 : Value) : (((((((((((W.setCell ⟨h, 0, none⟩ y0).setCell ⟨h, 1, none⟩ y1).setCell ⟨h, 2, none⟩ y2).setCell ⟨h, 3, none⟩ y3).setCell ⟨h, 4, none⟩ y4).setCell ⟨h, 5, none⟩ y5).setCell ⟨h, 6, none⟩ y6).setCell ⟨h, 7, none⟩ y7).setCell ⟨h, 8, none⟩ y8).setCell ⟨h, 9, none⟩ y9).setCell ⟨h, 10, none⟩ y10).heap[h]? = some (.cells #[y0, y1, y2, y3, y4, y5, y6, y7, y8, y9, y10] t) := by
  have h0 : (W.setCell ⟨h, 0, none⟩ y0).heap[h]? = some (.cells #[y0, x1, x2, x3, x4, x5, x6, x7, x8, x9, x10] t) := setCell_same hh y0
  have h1 : ((W.setCell ⟨h, 0, none⟩ y0).setCell ⟨h, 1, none⟩ y1).heap[h]? = some (.cells #[y0, y1, x2, x3, x4, x5, x6, x7, x8, x9, x10] t) := setCell_same h0 y1
  have h2 : (((W.setCell ⟨h, 0, none⟩ y0).setCell ⟨h, 1, none⟩ y1).setCell ⟨h, 2, none⟩ y2).heap[h]? = some (.cells #[y0, y1, y2, x3, x4, x5, x6, x7, x8, x9, x10] t) := setCell_same h1 y2
  have h3 : ((((W.setCell ⟨h, 0, none⟩ y0).setCell ⟨h, 1, none⟩ y1).setCell ⟨h, 2, none⟩ y2).setCell ⟨h, 3, none⟩ y3).heap[h]? = some (.cells #[y0, y1, y2, y3, x4, x5, x6, x7, x8, x9, x10] t) := setCell_same h2 y3
  have h4 : (((((W.setCell ⟨h, 0, none⟩ y0).setCell ⟨h, 1, none⟩ y1).setCell ⟨h, 2, none⟩ y2).setCell ⟨h, 3, none⟩ y3).setCell ⟨h, 4, none⟩ y4).heap[h]? = some (.cells #[y0, y1, y2, y3, y4, x5, x6, x7, x8, x9, x10] t) := setCell_same h3 y4
  have h5 : ((((((W.setCell ⟨h, 0, none⟩ y0).setCell ⟨h, 1, none⟩ y1).setCell ⟨h, 2, none⟩ y2).setCell ⟨h, 3, none⟩ y3).setCell ⟨h, 4, none⟩ y4).setCell ⟨h, 5, none⟩ y5).heap[h]? = some (.cells #[y0, y1, y2, y3, y4, y5, x6, x7, x8, x9, x10] t) := setCell_same h4 y5
  have h6 : (((((((W.setCell ⟨h, 0, none⟩ y0).setCell ⟨h, 1, none⟩ y1).setCell ⟨h, 2, none⟩ y2).setCell ⟨h, 3, none⟩ y3).setCell ⟨h, 4, none⟩ y4).setCell ⟨h, 5, none⟩ y5).setCell ⟨h, 6, none⟩ y6).heap[h]? = some (.cells #[y0, y1, y2, y3, y4, y5, y6, x7, x8, x9, x10] t) := setCell_same h5 y6
  have h7 : ((((((((W.setCell ⟨h, 0, none⟩ y0).setCell ⟨h, 1, none⟩ y1).setCell ⟨h, 2, none⟩ y2).setCell ⟨h, 3, none⟩ y3).setCell ⟨h, 4, none⟩ y4).setCell ⟨h, 5, none⟩ y5).setCell ⟨h, 6, none⟩ y6).setCell ⟨h, 7, none⟩ y7).heap[h]? = some (.cells #[y0, y1, y2, y3, y4, y5, y6, y7, x8, x9, x10] t) := setCell_same h6 y7
  have h8 : (((((((((W.setCell ⟨h, 0, none⟩ y0).setCell ⟨h, 1, none⟩ y1).setCell ⟨h, 2, none⟩ y2).setCell ⟨h, 3, none⟩ y3).setCell ⟨h, 4, none⟩ y4).setCell ⟨h, 5, none⟩ y5).setCell ⟨h, 6, none⟩ y6).setCell ⟨h, 7, none⟩ y7).setCell ⟨h, 8, none⟩ y8).heap[h]? = some (.cells #[y0, y1, y2, y3, y4, y5, y6, y7, y8, x9, x10] t) := setCell_same h7 y8
  have h9 : ((((((((((W.setCell ⟨h, 0, none⟩ y0).setCell ⟨h, 1, none⟩ y1).setCell ⟨h, 2, none⟩ y2).setCell ⟨h, 3, none⟩ y3).setCell ⟨h, 4, none⟩ y4).setCell ⟨h, 5, none⟩ y5).setCell ⟨h, 6, none⟩ y6).setCell ⟨h, 7, none⟩ y7).setCell ⟨h, 8, none⟩ y8).setCell ⟨h, 9, none⟩ y9).heap[h]? = some (.cells #[y0, y1, y2, y3, y4, y5, y6, y7, y8, y9, x10] t) := setCell_same h8 y9
  have h10 : (((((((((((W.setCell ⟨h, 0, none⟩ y0).setCell ⟨h, 1, none⟩ y1).setCell ⟨h, 2, none⟩ y2).setCell ⟨h, 3, none⟩ y3).setCell ⟨h, 4, none⟩ y4).setCell ⟨h, 5, none⟩ y5).setCell ⟨h, 6, none⟩ y6).setCell ⟨h, 7, none⟩ y7).setCell ⟨h, 8, none⟩ y8).setCell ⟨h, 9, none⟩ y9).setCell ⟨h, 10, none⟩ y10).heap[h]? = some (.cells #[y0, y1, y2, y3, y4, y5, y6, y7, y8, y9, y10] t) := setCell_same h9 y10
  exact h10
theorem call_below6 {B : Nat} {w W : World} {h : Nat} (hb : Below B w W) (hh : B ≤ h) (y0 y1 y2 y3 y4 y5 y6 y7 y8 y9 y10 : Value) : Below B w (((((((((((W.setCell ⟨h, 0, none⟩ y0).setCell ⟨h, 1, none⟩ y1).setCell ⟨h, 2, none⟩ y2).setCell ⟨h, 3, none⟩ y3).setCell ⟨h, 4, none⟩ y4).setCell ⟨h, 5, none⟩ y5).setCell ⟨h, 6, none⟩ y6).setCell ⟨h, 7, none⟩ y7).setCell ⟨h, 8, none⟩ y8).setCell ⟨h, 9, none⟩ y9).setCell ⟨h, 10, none⟩ y10) :=
  ((((((((((hb.setCell hh _).setCell hh _).setCell hh _).setCell hh _).setCell hh _).setCell hh _).setCell hh _).setCell hh _).setCell hh _).setCell hh _).setCell hh _
theorem call_kept6 {W : World} {h : Nat} (y0 y1 y2 y3 y4 y5 y6 y7 y8 y9 y10 : Value) : Kept (fun b => b = h) W (((((((((((W.setCell ⟨h, 0, none⟩ y0).setCell ⟨h, 1, none⟩ y1).setCell ⟨h, 2, none⟩ y2).setCell ⟨h, 3, none⟩ y3).setCell ⟨h, 4, none⟩ y4).setCell ⟨h, 5, none⟩ y5).setCell ⟨h, 6, none⟩ y6).setCell ⟨h, 7, none⟩ y7).setCell ⟨h, 8, none⟩ y8).setCell ⟨h, 9, none⟩ y9).setCell ⟨h, 10, none⟩ y10) :=
  (((((((((((kept_one y0).trans (kept_one y1)).trans (kept_one y2)).trans (kept_one y3)).trans (kept_one y4)).trans (kept_one y5)).trans (kept_one y6)).trans (kept_one y7)).trans (kept_one y8)).trans (kept_one y9)).trans (kept_one y10))

theorem frozen_at6 {W : World} {h k : Nat} {xs : Array Value} {t : TypeId} (hc : W.heap[h]? = some (.cells xs t)) : W.frozen? ⟨h, k, none⟩ = false := by simp [World.frozen?, hc]

set_option maxRecDepth 100000 in
set_option maxHeartbeats 4000000 in
theorem twincall_any (x p v c f : Int) (m : ByteArray) (s u g : Int) (ga : Option Addr) (gl gc : Nat) (ba : Option Addr) (bl bc : Nat) (gs bs : List Int) (w : World) (hgl : gl ≤ 1048576) (hgz : gs.length = gl) (hs : Seg4 w ga gs) (hbl : bl ≤ 1048576) (hbz : bs.length = bl) (hbs : Seg w ba bs) :
    Calls Tryd.prog 5 #[.agg #[.int .u32 x, .int .u32 p, .int .u32 v, .int .u32 c, .int .u32 f, .string m, .int .u32 s, .int .u32 u, .int .u32 g, .slice ga gl gc, .slice ba bl bc]] w fun e w' => ∃ gb bb, e = .returned (.agg #[.int .u32 x, .int .u32 p, .int .u32 v, .int .u32 c, .int .u32 f, .string m, .int .u32 s, .int .u32 u, .int .u32 g, .slice (some ⟨gb, 0, none⟩) gl (gl + 1), .slice (some ⟨bb, 0, none⟩) bl (bl + 1)]) ∧ Below w.heap.size w w' ∧
      w'.ownsRow w.heap.size 22 1 (.slice (some ⟨gb, 0, none⟩) (gl + 1) (gl + 1)) (gl + 1) ((gs ++ [77]).map (Value.int .u32)) ∧ w'.ownsRow w.heap.size 5 1 (.slice (some ⟨bb, 0, none⟩) (bl + 1) (bl + 1)) (bl + 1) ((bs ++ [77]).map (Value.int .u8)) := by
  have hB0 : Below w.heap.size w (w.alloc (.cells #[.int .u32 x, .int .u32 p, .int .u32 v, .int .u32 c, .int .u32 f, .string m, .int .u32 s, .int .u32 u, .int .u32 g, .slice ga gl gc, .slice ba bl bc] 28)) := (Below.refl _ _).alloc (Nat.le_refl _) _
  have hB : Below w.heap.size w ((w.alloc (.cells #[.int .u32 x, .int .u32 p, .int .u32 v, .int .u32 c, .int .u32 f, .string m, .int .u32 s, .int .u32 u, .int .u32 g, .slice ga gl gc, .slice ba bl bc] 28)).alloc (.cells #[.int .u32 0, .int .u32 0, .int .u32 0, .int .u32 0, .int .u32 0, .string ⟨#[]⟩, .int .u32 0, .int .u32 0, .int .u32 0, .slice none 0 0, .slice none 0 0] 28)) := hB0.alloc hB0.size _
  have k1 : ((w.alloc (.cells #[.int .u32 x, .int .u32 p, .int .u32 v, .int .u32 c, .int .u32 f, .string m, .int .u32 s, .int .u32 u, .int .u32 g, .slice ga gl gc, .slice ba bl bc] 28)).alloc (.cells #[.int .u32 0, .int .u32 0, .int .u32 0, .int .u32 0, .int .u32 0, .string ⟨#[]⟩, .int .u32 0, .int .u32 0, .int .u32 0, .slice none 0 0, .slice none 0 0] 28)).heap[w.heap.size]? = some (.cells #[.int .u32 x, .int .u32 p, .int .u32 v, .int .u32 c, .int .u32 f, .string m, .int .u32 s, .int .u32 u, .int .u32 g, .slice ga gl gc, .slice ba bl bc] 28) :=
    (Below.heap_alloc _ _ _ (by simp)).trans (heap_alloc_new w _)
  have k2 : ((w.alloc (.cells #[.int .u32 x, .int .u32 p, .int .u32 v, .int .u32 c, .int .u32 f, .string m, .int .u32 s, .int .u32 u, .int .u32 g, .slice ga gl gc, .slice ba bl bc] 28)).alloc (.cells #[.int .u32 0, .int .u32 0, .int .u32 0, .int .u32 0, .int .u32 0, .string ⟨#[]⟩, .int .u32 0, .int .u32 0, .int .u32 0, .slice none 0 0, .slice none 0 0] 28)).heap[w.heap.size + 1]? = some (.cells #[.int .u32 0, .int .u32 0, .int .u32 0, .int .u32 0, .int .u32 0, .string ⟨#[]⟩, .int .u32 0, .int .u32 0, .int .u32 0, .slice none 0 0, .slice none 0 0] 28) := by
    have := heap_alloc_new (w.alloc (.cells #[.int .u32 x, .int .u32 p, .int .u32 v, .int .u32 c, .int .u32 f, .string m, .int .u32 s, .int .u32 u, .int .u32 g, .slice ga gl gc, .slice ba bl bc] 28)) (.cells #[.int .u32 0, .int .u32 0, .int .u32 0, .int .u32 0, .int .u32 0, .string ⟨#[]⟩, .int .u32 0, .int .u32 0, .int .u32 0, .slice none 0 0, .slice none 0 0] 28)
    simpa using this
  have hsz : w.heap.size + 1 < ((w.alloc (.cells #[.int .u32 x, .int .u32 p, .int .u32 v, .int .u32 c, .int .u32 f, .string m, .int .u32 s, .int .u32 u, .int .u32 g, .slice ga gl gc, .slice ba bl bc] 28)).alloc (.cells #[.int .u32 0, .int .u32 0, .int .u32 0, .int .u32 0, .int .u32 0, .string ⟨#[]⟩, .int .u32 0, .int .u32 0, .int .u32 0, .slice none 0 0, .slice none 0 0] 28)).heap.size := by simp
  go_enter Tryd.func5, Tryd.ntmps5
  go_wp2_with fail
  have hs2 := hs.below hB
  have hb2 := hbs.below hB
  generalize (w.alloc (.cells #[.int .u32 x, .int .u32 p, .int .u32 v, .int .u32 c, .int .u32 f, .string m, .int .u32 s, .int .u32 u, .int .u32 g, .slice ga gl gc, .slice ba bl bc] 28)).alloc (.cells #[.int .u32 0, .int .u32 0, .int .u32 0, .int .u32 0, .int .u32 0, .string ⟨#[]⟩, .int .u32 0, .int .u32 0, .int .u32 0, .slice none 0 0, .slice none 0 0] 28) = W at *
  obtain ⟨h, hh⟩ : ∃ h, h = w.heap.size := ⟨_, rfl⟩
  rw [← hh] at k1 k2 hsz hB ⊢
  have HH : Hid (h = w.heap.size) := hh
  clear hh
  have S0 := call_at k1
  have hbW : Below W.heap.size W W.drew := below_drew W
  have k1d := (hbW.block _ (by omega)).trans k1
  have k2d := (hbW.block _ hsz).trans k2
  have S1 := call_at k1d
  have hs3 := hs2.below hbW
  have hb3 := hb2.below hbW
  clear S0 hB0 k1 k2
  go_region_held3 (fun w' => w'.cell? ⟨h, 0, none⟩ = some (.int .u32 x) ∧ w'.cell? ⟨h, 1, none⟩ = some (.int .u32 p) ∧ w'.cell? ⟨h, 2, none⟩ = some (.int .u32 v) ∧ w'.cell? ⟨h, 3, none⟩ = some (.int .u32 c) ∧ w'.cell? ⟨h, 4, none⟩ = some (.int .u32 f) ∧ w'.cell? ⟨h, 5, none⟩ = some (.string m) ∧ w'.cell? ⟨h, 6, none⟩ = some (.int .u32 s) ∧ w'.cell? ⟨h, 7, none⟩ = some (.int .u32 u) ∧ w'.cell? ⟨h, 8, none⟩ = some (.int .u32 g) ∧ w'.cell? ⟨h, 9, none⟩ = some (.slice ga gl gc) ∧ w'.cell? ⟨h, 10, none⟩ = some (.slice ba bl bc)) (first | with_reducible exact S3 | with_reducible exact S2 | with_reducible exact S1 | with_reducible exact call_far (W := w2) (call_farB (W := w2) (h := h) (H := h + 1) (Nat.ne_of_lt (Nat.lt_succ_self h)) (.int .u32 x) (.int .u32 p) (.int .u32 v) (.int .u32 c) (.int .u32 f) (.string m) (.int .u32 s) (.int .u32 u) (.int .u32 g) (.slice (some ⟨gb, 0, none⟩) gl (gl + 1)) (.slice (some ⟨w1.heap.size, 0, none⟩) bl (bl + 1))) S3) (first
    | (go_at_call 13; refine (twincred_any u g ga gl gc gs _ hgl hgz ?_).mono ?_; exact hs3; rintro e w1 ⟨gb, rfl, hb1, ho1⟩; have hs1 : W.heap.size ≤ w1.heap.size := hb1.size; have k1a := (hb1.block h (Nat.lt_of_succ_lt hsz)).trans k1d; have k2a := (hb1.block (h + 1) hsz).trans k2d; have S2 := call_at k1a; have hb4 := hb3.below hb1)
    | (go_at_call 14; refine (twin_any ba bl bc bs _ hbl hbz ?_).mono ?_; exact hb4; rintro e w2 ⟨rfl, hb5, ho2⟩; have k1b := (hb5.block h (Nat.lt_of_lt_of_le (Nat.lt_of_succ_lt hsz) hs1)).trans k1a; have k2b := (hb5.block (h + 1) (Nat.lt_of_lt_of_le hsz hs1)).trans k2a; have S3 := call_at k1b; have fz := fun k => frozen_at6 (k := k) k2b; have z3 := call_at k2b))
  all_goals
    have hc' := call_set6 k2b (.int .u32 x) (.int .u32 p) (.int .u32 v) (.int .u32 c) (.int .u32 f) (.string m) (.int .u32 s) (.int .u32 u) (.int .u32 g) (.slice (some ⟨gb, 0, none⟩) gl (gl + 1)) (.slice (some ⟨w1.heap.size, 0, none⟩) bl (bl + 1))
    have hk := call_kept6 (W := w2) (h := h + 1) (.int .u32 x) (.int .u32 p) (.int .u32 v) (.int .u32 c) (.int .u32 f) (.string m) (.int .u32 s) (.int .u32 u) (.int .u32 g) (.slice (some ⟨gb, 0, none⟩) gl (gl + 1)) (.slice (some ⟨w1.heap.size, 0, none⟩) bl (bl + 1))
    have hbW1 : Below W.heap.size W w1 := hbW.trans hb1
    have hBw : Below h w w2 := (hB.trans (hbW1.mono (by omega))).trans (hb5.mono (by omega))
    have hfin := call_below6 (h := h + 1) hBw (by omega) (.int .u32 x) (.int .u32 p) (.int .u32 v) (.int .u32 c) (.int .u32 f) (.string m) (.int .u32 s) (.int .u32 u) (.int .u32 g) (.slice (some ⟨gb, 0, none⟩) gl (gl + 1)) (.slice (some ⟨w1.heap.size, 0, none⟩) bl (bl + 1))
    have hfo1 := own_kept (own_base (own_below ho1 hb5) (show h ≤ W.heap.size by omega)) hk (fun k e1 e2 => by
      have := (own_lt ho1 e1).1
      have e3 : W.heap.size ≤ k := this
      omega)
    have hfo2 := own_kept (own_base ho2 (show h ≤ w1.heap.size by omega)) hk (fun k e1 e2 => by
      have := (own_lt ho2 e1).1
      omega)
    clear hk S1 S2 S3 z3 fz k1b k2b k1a k2a k1d k2d hb5 hb1 hbW ho1 ho2 hBw hbW1 hb3 hb4 hs2 hs3 hb2
    generalize (((((((((((w2.setCell ⟨h + 1, 0, none⟩ (.int .u32 x)).setCell ⟨h + 1, 1, none⟩ (.int .u32 p)).setCell ⟨h + 1, 2, none⟩ (.int .u32 v)).setCell ⟨h + 1, 3, none⟩ (.int .u32 c)).setCell ⟨h + 1, 4, none⟩ (.int .u32 f)).setCell ⟨h + 1, 5, none⟩ (.string m)).setCell ⟨h + 1, 6, none⟩ (.int .u32 s)).setCell ⟨h + 1, 7, none⟩ (.int .u32 u)).setCell ⟨h + 1, 8, none⟩ (.int .u32 g)).setCell ⟨h + 1, 9, none⟩ (.slice (some ⟨gb, 0, none⟩) gl (gl + 1))).setCell ⟨h + 1, 10, none⟩ (.slice (some ⟨w1.heap.size, 0, none⟩) bl (bl + 1))) = Wf at *
    obtain ⟨z0, z1, z2, z3, z4, z5, z6, z7, z8, z9, z10⟩ := call_at hc'
    go_wp2
    refine bodyPost_ret (v := .agg #[.int .u32 x, .int .u32 p, .int .u32 v, .int .u32 c, .int .u32 f, .string m, .int .u32 s, .int .u32 u, .int .u32 g, .slice (some ⟨gb, 0, none⟩) gl (gl + 1), .slice (some ⟨w1.heap.size, 0, none⟩) bl (bl + 1)]) (by simp [results, Tryd.results5, go_sem, z0, z1, z2, z3, z4, z5, z6, z7, z8, z9, z10]) rfl ⟨_, _, rfl, ?_, ?_, ?_⟩
    · rw [← HH.out]; exact hfin
    · rw [← HH.out]; exact hfo1
    · rw [← HH.out]; exact hfo2
end Go.Proofs.YtciinabhelfnoaaDoor
