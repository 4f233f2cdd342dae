/- 'Call' of a Book: its Groups and its Body; boxes of other types stay. -/
import Derived.Test.YtciinabhelfnoaaGreatDoorBookSomeM
import Derived.Test.YtciinabhelfnoaaGreatDoorCredCellsCallCellsSameClM
namespace Go.Proofs.YtciinabhelfnoaaGreatDoor
set_option linter.unusedVariables false
open Go.RowKit

/-- Boxes of types that a Book does not hold stay. -/
def KeepC (W W' : World) : Prop := ∀ (H : Nat) (cs : Array Value) (fz : Nat × Nat), W.heap[H]? = some (.cells cs 29 fz) → W'.heap[H]? = W.heap[H]?

set_option maxRecDepth 100000 in
set_option maxHeartbeats 1000000 in
theorem Hn.callK {w : World} {es fs : List Ent} {B : Nat} {i : Int} {vb vn : Value} {hs ks : List (Value × Value × Int)} {W : World} (hn0 : Hn w es fs B i vb vn hs ks W) (x p v c f : Int) (m : ByteArray) (s u g : Int) (ga : Option Addr) (gl gc : Nat) (ba : Option Addr) (bl bc : Nat) (h0 : 0 ≤ i) (h1 : i ≤ 100000) (hl : ks.length ≤ 1000000) (hl2 : hs.length ≤ 1000000) :
    Calls Tryz.prog 10 #[.pointer (some ⟨B, 0, none⟩), .agg #[.int .u32 x, .int .u32 p, .int .u32 v, .int .u32 c, .int .u32 f, .string m, .int .u32 s, .int .u32 u, .int .u32 g, .slice ga gl gc, .slice ba bl bc]] W fun e W' => e = .returned (.tuple #[]) ∧ (∃ vb' vn', Hn w es fs B (i + 1 + 1) vb' vn' (hs ++ [(.slice ba bl bc, .slice none 0 0, i + 1 + 1)]) (ks ++ [(.slice ga gl gc, .slice none 0 0, i + 1)]) W') ∧ KeepC W W' := by
  have hb0 : Below W.heap.size W (W.alloc (.cells #[.int .u32 x, .int .u32 p, .int .u32 v, .int .u32 c, .int .u32 f, .string m, .int .u32 s, .int .u32 u, .int .u32 g, .slice ga gl gc, .slice ba bl bc] 29)) := (Below.refl _ _).alloc (Nat.le_refl _) _
  have hn := hn0.next hb0
  have hc0 : (W.alloc (.cells #[.int .u32 x, .int .u32 p, .int .u32 v, .int .u32 c, .int .u32 f, .string m, .int .u32 s, .int .u32 u, .int .u32 g, .slice ga gl gc, .slice ba bl bc] 29)).heap[W.heap.size]? = some (.cells #[.int .u32 x, .int .u32 p, .int .u32 v, .int .u32 c, .int .u32 f, .string m, .int .u32 s, .int .u32 u, .int .u32 g, .slice ga gl gc, .slice ba bl bc] 29) := heap_alloc_new W _
  obtain ⟨_, _, _, _, _, _, _, c7, c8, c9, c10⟩ := call_at hc0
  go_enter Tryz.func10, Tryz.ntmps10
  go_wp2_with fail
  generalize W.alloc (.cells #[.int .u32 x, .int .u32 p, .int .u32 v, .int .u32 c, .int .u32 f, .string m, .int .u32 s, .int .u32 u, .int .u32 g, .slice ga gl gc, .slice ba bl bc] 29) = W0 at *
  generalize hH : W.heap.size = H at *
  refine (hn.credK u g ga gl gc h0 (by omega) hl).mono ?_
  rintro e W1 ⟨rfl, ⟨vn', hn1⟩, hK1⟩
  have hc1 := (hK1 H _ _ _ hc0 (by decide) (by decide)).trans hc0
  obtain ⟨_, _, _, _, _, _, _, _, _, _, d10⟩ := call_at hc1
  clear c7 c8 c9 c10
  go_wp2_with fail
  refine (hn1.bytesK ba bl bc (by omega) (by omega) hl2).mono ?_
  rintro e W2 ⟨rfl, ⟨vb', hn2⟩, hK2⟩
  have hK : KeepC W W2 := fun G cs fz hG => by
    have e0 := hb0.block G (by rw [← hH]; exact (Array.getElem?_eq_some_iff.1 hG).1)
    have e1 := hK1 G cs _ fz (e0.trans hG) (by decide) (by decide)
    have e2 := hK2 G cs _ fz ((e1.trans e0).trans hG) (by decide) (by decide)
    rw [e2, e1, e0]
  clear hn hn1 hn0 hK1 hK2 hc0 hc1 d10 hb0
  go_wp2
  go_end0
  exact ⟨rfl, ⟨vb', vn', hn2⟩, hK⟩
theorem KeepO.call {t : TypeId} {W W' : World} (h : KeepO t W W') (ht : 29 ≠ t) (hB : 29 ≠ 43) : KeepC W W' := fun H cs fz hH => h H cs _ fz hH hB ht
end Go.Proofs.YtciinabhelfnoaaGreatDoor
