/- '[]byte("..")' of a constant, and 'string(b)' of some bytes; nothing is claimed of the program here. -/
import Derived.Test.YtecbhhfncklefacRows
import Derived.Test.YtecbhhfncklefacBase
import Derived.Lib.SlBytesConst
namespace Go.Proofs.Ytecbhhfncklefac
set_option linter.unusedVariables false
open Go.RowKit

/-- Bytes written out in a new block that bears a mark. -/
theorem seg_litm (w : World) (t : TypeId) (fz : Nat × Nat) (zs : List Int) : Seg (w.alloc (.cells (zs.map (Value.int .u8)).toArray t fz)) (some ⟨w.heap.size, 0, none⟩) zs := by
  refine .inr ⟨_, _, rfl, fun i hi => ?_⟩
  have h : (w.alloc (.cells (zs.map (Value.int .u8)).toArray t fz)).heap[w.heap.size]? = some (.cells (zs.map (Value.int .u8)).toArray t fz) := by
    show (w.heap.push _)[w.heap.size]? = _
    simp
  simp only [World.cell?, h]
  simp [List.getElem?_eq_getElem hi]

theorem seg_text {w : World} {g off n cap : Nat} {zs : List Int} (h : Seg w (some ⟨g, off, none⟩) zs) (hz : zs.length = n) (hn : 0 < n) :
    (convert 30 9 (.slice (some ⟨g, off, none⟩) n cap)).run Try.prog w = .ok (.string (strOfNums zs)) w := by
  rcases h with rfl | ⟨b, o, e, hc⟩
  · simp at hz; omega
  · cases e
    exact run_convert_bytes_arg w 30 5 Try.underlying30 Try.underlying5 g off n cap zs hz (fun i hi => by rw [hc i (by omega)]; simp [List.getD]) 9 Try.underlying9
end Go.Proofs.Ytecbhhfncklefac
