/- A handle and its bytes, which stay while new memory is laid. -/
import Derived.Test.YtcpciodcecpibaaDoorHPut
import Derived.Test.YtcpciodcecpibaaDoorPieces
namespace Go.Proofs.YtcpciodcecpibaaDoor
set_option linter.unusedVariables false
open Go.RowKit

/-- What stays: a handle, its bytes. -/
structure Ah (w W : World) (h G : Nat) (n g : Int) : Prop where
  h : W.heap[h]? = some (.cells #[.int .i64 n, .int .u32 g] 24)
  own : W.ownsRow w.heap.size 5 1 (.slice (some ⟨G, 0, none⟩) 16 16) 16 ((hB n g).map (Value.int .u8))
  below : Below w.heap.size w W
theorem Ah.next {w W W' : World} {h G : Nat} {n g : Int} (a : Ah w W h G n g) (hb : Below W.heap.size W W') : Ah w W' h G n g :=
  ⟨(hb.block _ (Array.getElem?_eq_some_iff.1 a.h).1).trans a.h, own_below a.own hb, a.below.trans (hb.mono a.below.size)⟩
theorem Ah.seg {w W : World} {h G : Nat} {n g : Int} (a : Ah w W h G n g) : Seg W (some ⟨G, 0, none⟩) (hB n g) := seg_own a.own (hB_length n g)
theorem Ah.new {w W : World} {G : Nat} {n g : Int} (ho : W.ownsRow w.heap.size 5 1 (.slice (some ⟨G, 0, none⟩) 16 16) 16 ((hB n g).map (Value.int .u8))) (hb : Below w.heap.size w W) : Ah w (W.alloc (.cells #[.int .i64 n, .int .u32 g] 24)) W.heap.size G n g :=
  have hb2 : Below W.heap.size W (W.alloc (.cells #[.int .i64 n, .int .u32 g] 24)) := (Below.refl _ _).alloc (Nat.le_refl _) _
  ⟨World.alloc_heap_new W _, own_below ho hb2, hb.trans (hb2.mono hb.size)⟩
theorem Ah.alloc {w W : World} {h G : Nat} {n g : Int} (a : Ah w W h G n g) (o : Obj) : Ah w (W.alloc o) h G n g := a.next ((Below.refl _ _).alloc (Nat.le_refl _) o)

/-- Blocks of unlike types are two. -/
theorem own_ne {W : World} {base e G n c h : Nat} {xs : List Value} {cs : Array Value} {t : TypeId} {fz : Nat × Nat} (ho : W.ownsRow base e 1 (.slice (some ⟨G, 0, none⟩) n c) n xs) (hh : W.heap[h]? = some (.cells cs t fz)) (ht : e ≠ t) : G ≠ h := by
  rintro rfl
  rcases ho.2 with ⟨h2, _⟩ | ⟨g, cap, cur, hv, hg, hk, r⟩
  · cases h2
  · cases hv
    rw [hk] at hh
    cases hh
    exact ht rfl
end Go.Proofs.YtcpciodcecpibaaDoor
