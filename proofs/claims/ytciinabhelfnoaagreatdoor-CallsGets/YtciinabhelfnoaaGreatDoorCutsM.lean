/- 'b[p:]' of any bytes, whatever room they have; nothing is claimed of the program here. -/
import Derived.Test.YtciinabhelfnoaaGreatDoorRows
import Derived.Test.YtciinabhelfnoaaGreatDoorTextsPiecesM
import Derived.WalkKit
namespace Go.Proofs.YtciinabhelfnoaaGreatDoor
set_option linter.unusedVariables false
open Go.RowKit

/-- What is left of bytes from a place on: the value, and where it lies. -/
theorem cut_from {w : World} {a : Option Addr} {len cap : Nat} {zs : List Int} (h : Seg w a zs) (hz : zs.length = len) (hlc : len ≤ cap) (p : Nat) (hp : p ≤ len) :
    ∃ a', (∀ W, (Instr.slice 22 (.slice a len cap) (some (.int .i64 (p : Int))) none none).run Tryz.prog W = .ok (.slice a' (len - p) (cap - p)) W) ∧ Seg w a' (zs.drop p) := by
  have he : Tryz.prog.elem 22 = 5 := by kernel_rfl
  have hu : Tryz.prog.underlying 22 = some (.slice (Tryz.prog.elem 22)) := by rw [he]; exact Tryz.underlying22
  refine ⟨if cap = p then a else a.map (·.add (p * 1)), fun W => ?_, ?_⟩
  · rw [run_slice_l W 22 a len cap hu .i64 (p : Int) (by omega) (by omega)]
    simp [go_sem]
  · split
    · exact .inl (List.drop_eq_nil_of_le (by omega))
    · rcases h with rfl | ⟨b, off, rfl, hc⟩
      · exact .inl (by simp)
      · have := Seg.drop (.inr ⟨b, off, rfl, hc⟩ : Seg w (some ⟨b, off, none⟩) zs) p
        by_cases h0 : p = 0
        · subst h0
          simpa [Addr.add] using this
        · simpa [Addr.add, h0] using this
end Go.Proofs.YtciinabhelfnoaaGreatDoor
