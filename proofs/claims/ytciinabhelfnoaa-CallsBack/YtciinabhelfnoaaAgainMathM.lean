/- What is got is put as it was: the mathematics; no function is named. -/
import Derived.Test.YtciinabhelfnoaaOpqMathM
namespace Go.Proofs.Ytciinabhelfnoaa
set_option linter.unusedVariables false
open Go.RowKit

theorem nought_all {zs : List Int} (h : allNought zs = true) : zs = List.replicate zs.length 0 := by
  unfold allNought at h
  rw [List.all_eq_true] at h
  refine List.eq_replicate_iff.2 ⟨rfl, fun z hz => ?_⟩
  simpa using h z hz

theorem cut_again {zs : List Int} {n : Nat} (h : fixE zs n = 0) : padded (zs.take n) = zs.take (n + padN n) ∧ (zs.take n).length = n := by
  have hl := fixE_len h
  rw [fixE_form hl] at h
  have ha : allNought ((zs.drop n).take (padN n)) = true := by
    cases hx : allNought ((zs.drop n).take (padN n)) with
    | true => rfl
    | false => rw [hx] at h; cases h
  have he := nought_all ha
  rw [List.length_take, List.length_drop, Nat.min_eq_left (by omega)] at he
  have hz : (zs.take n).length = n := by rw [List.length_take]; omega
  refine ⟨?_, hz⟩
  rw [padded, hz, List.take_add, ← he]

theorem op_again {zs : List Int} {most : Int} (hb : Byt zs) (h : opE zs most = 0) : opBytes (opZ zs most) = zs.take (opL zs most) ∧ opL zs most ≤ zs.length ∧ ((opZ zs most).length : Int) ≤ most ∧ opL zs most = 4 + ((opZ zs most).length + padN (opZ zs most).length) := by
  have h' := h
  unfold opE at h'
  split at h'
  · cases h'
  · rename_i h4
    split at h'
    · cases h'
    · rename_i hm
      obtain ⟨c1, c2⟩ := cut_again h'
      have hl := fixE_len h'
      have eZ : opZ zs most = (zs.drop 4).take (toldN zs) := by rw [opZ, if_pos h]
      have eL : opL zs most = 4 + (toldN zs + padN (toldN zs)) := by rw [opL, if_pos h]; omega
      rw [List.length_drop] at hl
      have hbe := bytesOf_be_take zs hb 4 (by omega)
      have hto : be (zs.take 4) = (toldN zs : Int) := by
        have := be_bound zs hb 4 (by omega)
        unfold toldN
        omega
      rw [hto] at hbe
      rw [eZ, eL, c2]
      refine ⟨?_, by omega, by omega, rfl⟩
      rw [opBytes, c2, c1, hbe, ← List.take_add]

theorem op_none {zs : List Int} {most : Int} (h : opE zs most ≠ 0) : opL zs most = 0 ∧ opZ zs most = [] := by
  rw [opL, opZ, if_neg h, if_neg h]
  exact ⟨rfl, rfl⟩

end Go.Proofs.Ytciinabhelfnoaa
