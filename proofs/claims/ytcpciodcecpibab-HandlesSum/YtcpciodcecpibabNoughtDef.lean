/- Whether all of some bytes are 0: plain mathematics. -/
import Derived.Test.YtcpciodcecpibabBase
namespace Go.Proofs.Ytcpciodcecpibab
set_option linter.unusedVariables false

/-- All of them are 0. -/
def allNought (zs : List Int) : Bool := zs.all fun z => z == 0

theorem nought_step (zs : List Int) (k : Nat) (h : allNought (zs.take k) = true) (hk : k < zs.length) (hx : zs[k]?.getD 0 = 0) : allNought (zs.take (k + 1)) = true := by
  unfold allNought at *
  rw [List.take_succ_eq_append_getElem hk, List.all_append, h]
  rw [List.getElem?_eq_getElem hk, Option.getD_some] at hx
  simp [hx]

theorem nought_stop (zs : List Int) (k : Nat) (hk : k < zs.length) (hx : zs[k]?.getD 0 ≠ 0) : allNought zs = false := by
  unfold allNought
  rw [List.getElem?_eq_getElem hk, Option.getD_some] at hx
  rw [List.all_eq_false]
  exact ⟨zs[k], List.getElem_mem hk, by simpa using hx⟩
end Go.Proofs.Ytcpciodcecpibab
