/- Lists of lists of bytes that lie in memory: plain words; nothing is claimed of the program here. -/
import Derived.Test.YtmjjoiljdcjhdaaDoorBase
import Derived.Test.YtmjjoiljdcjhdaaDoorPieces
namespace Go.Proofs.YtmjjoiljdcjhdaaDoor
set_option linter.unusedVariables false
open Go.RowKit

/-- A list of lists lies at that address (of none nothing is said). -/
def Segs (w : World) (a : Option Addr) (ps : List Part) : Prop :=
  ps = [] ∨ ∃ b off, a = some ⟨b, off, none⟩ ∧ ∀ i, (h : i < ps.length) → w.cell? ⟨b, off + i, none⟩ = some ps[i].v

structure Part.Ok (p : Part) (w : World) : Prop where
  isIn : p.In w
  lc : p.len ≤ p.cap
  reach : p.cap ≤ 140737488351232
  byt : Byt p.zs

theorem Part.Ok.below {p : Part} {w w' : World} (h : p.Ok w) (hb : Below w.heap.size w w') : p.Ok w' := ⟨⟨h.isIn.len, h.isIn.seg.below hb, h.isIn.nil⟩, h.lc, h.reach, h.byt⟩

theorem Segs.below {w w' : World} {a : Option Addr} {ps : List Part} (h : Segs w a ps) (hb : Below w.heap.size w w') : Segs w' a ps := by
  rcases h with h | ⟨b, off, e, hc⟩
  · exact .inl h
  · by_cases hz : ps = []
    · exact .inl hz
    · have hp : 0 < ps.length := List.length_pos_iff.2 hz
      have hl : b < w.heap.size := World.block_lt_of_cell? _ _ (hc 0 hp)
      exact .inr ⟨b, off, e, fun i hi => (hb.cell (p := ⟨b, off + i, none⟩) hl).trans (hc i hi)⟩

end Go.Proofs.YtmjjoiljdcjhdaaDoor
