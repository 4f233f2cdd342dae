/- Three cells of one who calls; nothing is claimed of the program here. -/
import Derived.Test.YtciinabhelfnoaaGreatDoorBookBase
import Derived.Outline
import Derived.Test.YtciinabhelfnoaaGreatDoorSame4SameCrSameM
namespace Go.Proofs.YtciinabhelfnoaaGreatDoor
set_option linter.unusedVariables false
open Go.RowKit

theorem cred_cells (w : World) (x y z x' y' z' : Value) (t : TypeId) : ∀ W, W = (w.alloc (.cells #[x, y, z] t)).alloc (.cells #[x', y', z'] t) →
    (W.cell? ⟨w.heap.size, 0, none⟩ = some x ∧ W.cell? ⟨w.heap.size, 1, none⟩ = some y ∧ W.cell? ⟨w.heap.size, 2, none⟩ = some z) ∧ W.heap[w.heap.size + 1]? = some (.cells #[x', y', z'] t) ∧ w.heap.size + 1 < W.heap.size ∧ Below w.heap.size w W := by
  rintro W rfl
  refine ⟨⟨by simp, by simp, by simp⟩, ?_, by simp, ((Below.refl _ _).alloc (Nat.le_refl _) _).alloc (by simp) _⟩
  have := heap_alloc_new (w.alloc (.cells #[x, y, z] t)) (.cells #[x', y', z'] t)
  simpa using this

theorem cred_at {W : World} {h : Nat} {x y z : Value} {t : TypeId} (hh : W.heap[h]? = some (.cells #[x, y, z] t)) :
    W.cell? ⟨h, 0, none⟩ = some x ∧ W.cell? ⟨h, 1, none⟩ = some y ∧ W.cell? ⟨h, 2, none⟩ = some z ∧ W.frozen? ⟨h, 0, none⟩ = false ∧ W.frozen? ⟨h, 1, none⟩ = false ∧ W.frozen? ⟨h, 2, none⟩ = false := by
  refine ⟨?_, ?_, ?_, ?_, ?_, ?_⟩ <;> simp [World.cell?, World.frozen?, hh]

theorem cred_set {W : World} {h : Nat} {x y z : Value} {t : TypeId} (hh : W.heap[h]? = some (.cells #[x, y, z] t)) (x' y' z' : Value) :
    (((W.setCell ⟨h, 0, none⟩ x').setCell ⟨h, 1, none⟩ y').setCell ⟨h, 2, none⟩ z').heap[h]? = some (.cells #[x', y', z'] t) := by
  rw [setCell_same (setCell_same (setCell_same hh x') y') z']
  rfl

theorem below_drew (W : World) : Below W.heap.size W W.drew := ⟨rfl, rfl, rfl, Nat.le_refl _, fun _ _ => rfl⟩

theorem kept_one {W : World} {h k : Nat} (x : Value) : Kept (fun b => b = h) W (W.setCell ⟨h, k, none⟩ x) := (Kept.refl (fun b => b = h) W).setCell (p := ⟨h, k, none⟩) (.inl rfl) _
theorem kept_cred {W : World} {h : Nat} (x' y' z' : Value) : Kept (fun b => b = h) W (((W.setCell ⟨h, 0, none⟩ x').setCell ⟨h, 1, none⟩ y').setCell ⟨h, 2, none⟩ z') :=
  (kept_one x').trans ((kept_one y').trans (kept_one z'))
end Go.Proofs.YtciinabhelfnoaaGreatDoor

/- The eleven cells of a call; nothing is claimed of the program here. -/
namespace Go.Proofs.YtciinabhelfnoaaGreatDoor
set_option linter.unusedVariables false
open Go.RowKit

theorem call_at {W : World} {h : Nat} {x0 x1 x2 x3 x4 x5 x6 x7 x8 x9 x10 : Value} {t : TypeId} (hh : W.heap[h]? = some (.cells #[x0, x1, x2, x3, x4, x5, x6, x7, x8, x9, x10] t)) :
    W.cell? ⟨h, 0, none⟩ = some x0 ∧ W.cell? ⟨h, 1, none⟩ = some x1 ∧ W.cell? ⟨h, 2, none⟩ = some x2 ∧ W.cell? ⟨h, 3, none⟩ = some x3 ∧ W.cell? ⟨h, 4, none⟩ = some x4 ∧ W.cell? ⟨h, 5, none⟩ = some x5 ∧ W.cell? ⟨h, 6, none⟩ = some x6 ∧ W.cell? ⟨h, 7, none⟩ = some x7 ∧ W.cell? ⟨h, 8, none⟩ = some x8 ∧ W.cell? ⟨h, 9, none⟩ = some x9 ∧ W.cell? ⟨h, 10, none⟩ = some x10 := by
  refine ⟨?_, ?_, ?_, ?_, ?_, ?_, ?_, ?_, ?_, ?_, ?_⟩ <;> simp [World.cell?, hh]
end Go.Proofs.YtciinabhelfnoaaGreatDoor

/- 'SameCall' of the same ones: true; nothing that was there turns. -/
namespace Go.Proofs.YtciinabhelfnoaaGreatDoor
set_option linter.unusedVariables false
open Go.RowKit

set_option maxRecDepth 100000 in
set_option maxHeartbeats 1000000 in
theorem samecall_true (x p v c f : Int) (m : ByteArray) (s u g : Int) (ga gb : Option Addr) (gl gc gd : Nat) (ba bb : Option Addr) (bl bc bd : Nat) (gs bs : List Int) (w : World) (hgl : gl ≤ 4611686018427387904) (hgz : gs.length = gl) (h1 : Seg4 w ga gs) (h2 : Seg4 w gb gs)
    (hbl : bl ≤ 4611686018427387904) (hbz : bs.length = bl) (h3 : Seg w ba bs) (h4 : Seg w bb bs) :
    Calls Tryz.prog 7 #[.agg #[.int .u32 x, .int .u32 p, .int .u32 v, .int .u32 c, .int .u32 f, .string m, .int .u32 s, .int .u32 u, .int .u32 g, .slice ga gl gc, .slice ba bl bc], .agg #[.int .u32 x, .int .u32 p, .int .u32 v, .int .u32 c, .int .u32 f, .string m, .int .u32 s, .int .u32 u, .int .u32 g, .slice gb gl gd, .slice bb bl bd]] w fun e w' => e = .returned (.bool true) ∧ Below w.heap.size w w' := by
  have hB0 : Below w.heap.size w (w.alloc (.cells #[.int .u32 x, .int .u32 p, .int .u32 v, .int .u32 c, .int .u32 f, .string m, .int .u32 s, .int .u32 u, .int .u32 g, .slice ga gl gc, .slice ba bl bc] 29)) := (Below.refl _ _).alloc (Nat.le_refl _) _
  have hB : Below w.heap.size w ((w.alloc (.cells #[.int .u32 x, .int .u32 p, .int .u32 v, .int .u32 c, .int .u32 f, .string m, .int .u32 s, .int .u32 u, .int .u32 g, .slice ga gl gc, .slice ba bl bc] 29)).alloc (.cells #[.int .u32 x, .int .u32 p, .int .u32 v, .int .u32 c, .int .u32 f, .string m, .int .u32 s, .int .u32 u, .int .u32 g, .slice gb gl gd, .slice bb bl bd] 29)) := hB0.alloc hB0.size _
  have k1 : ((w.alloc (.cells #[.int .u32 x, .int .u32 p, .int .u32 v, .int .u32 c, .int .u32 f, .string m, .int .u32 s, .int .u32 u, .int .u32 g, .slice ga gl gc, .slice ba bl bc] 29)).alloc (.cells #[.int .u32 x, .int .u32 p, .int .u32 v, .int .u32 c, .int .u32 f, .string m, .int .u32 s, .int .u32 u, .int .u32 g, .slice gb gl gd, .slice bb bl bd] 29)).heap[w.heap.size]? = some (.cells #[.int .u32 x, .int .u32 p, .int .u32 v, .int .u32 c, .int .u32 f, .string m, .int .u32 s, .int .u32 u, .int .u32 g, .slice ga gl gc, .slice ba bl bc] 29) :=
    (Below.heap_alloc _ _ _ (by simp)).trans (heap_alloc_new w _)
  have k2 : ((w.alloc (.cells #[.int .u32 x, .int .u32 p, .int .u32 v, .int .u32 c, .int .u32 f, .string m, .int .u32 s, .int .u32 u, .int .u32 g, .slice ga gl gc, .slice ba bl bc] 29)).alloc (.cells #[.int .u32 x, .int .u32 p, .int .u32 v, .int .u32 c, .int .u32 f, .string m, .int .u32 s, .int .u32 u, .int .u32 g, .slice gb gl gd, .slice bb bl bd] 29)).heap[w.heap.size + 1]? = some (.cells #[.int .u32 x, .int .u32 p, .int .u32 v, .int .u32 c, .int .u32 f, .string m, .int .u32 s, .int .u32 u, .int .u32 g, .slice gb gl gd, .slice bb bl bd] 29) := by
    have := heap_alloc_new (w.alloc (.cells #[.int .u32 x, .int .u32 p, .int .u32 v, .int .u32 c, .int .u32 f, .string m, .int .u32 s, .int .u32 u, .int .u32 g, .slice ga gl gc, .slice ba bl bc] 29)) (.cells #[.int .u32 x, .int .u32 p, .int .u32 v, .int .u32 c, .int .u32 f, .string m, .int .u32 s, .int .u32 u, .int .u32 g, .slice gb gl gd, .slice bb bl bd] 29)
    simpa using this
  have q0 : ∀ z : Int, (z == z) = true := fun z => by simp
  have q1 : (m.toList == m.toList) = true := by simp
  go_enter Tryz.func7, Tryz.ntmps7
  go_wp2_with fail
  generalize (w.alloc (.cells #[.int .u32 x, .int .u32 p, .int .u32 v, .int .u32 c, .int .u32 f, .string m, .int .u32 s, .int .u32 u, .int .u32 g, .slice ga gl gc, .slice ba bl bc] 29)).alloc (.cells #[.int .u32 x, .int .u32 p, .int .u32 v, .int .u32 c, .int .u32 f, .string m, .int .u32 s, .int .u32 u, .int .u32 g, .slice gb gl gd, .slice bb bl bd] 29) = W at *
  clear hB0
  refine (samecred_true u g ga gb gl gc gd gs _ hgl hgz (h1.below hB) (h2.below hB)).mono ?_
  rintro e W1 ⟨rfl, hb1⟩
  replace k1 := (hb1.block _ (Array.getElem?_eq_some_iff.1 k1).1).trans k1
  replace k2 := (hb1.block _ (Array.getElem?_eq_some_iff.1 k2).1).trans k2
  obtain ⟨_, _, _, _, _, _, _, _, _, _, c10⟩ := call_at k1
  obtain ⟨_, _, _, _, _, _, _, _, _, _, d10⟩ := call_at k2
  have hB1 := hB.trans (hb1.mono hB.size)
  clear hB hb1
  go_wp2_with fail
  refine (same_true ba bb bl bc bd bs _ hbl hbz (h3.below hB1) (h4.below hB1)).mono ?_
  rintro e w' ⟨rfl, n, rfl⟩
  have hB2 := below_drewN hB1 n
  go_wp2
  go_ret
  exact ⟨rfl, hB2⟩
end Go.Proofs.YtciinabhelfnoaaGreatDoor
