/- What is got of so many bytes: the error, the bytes, how many they are (the mathematics; no function is named). -/
import Derived.Test.YtcpciodcecpibabPieces
import Derived.Test.YtcpciodcecpibabFixDef
namespace Go.Proofs.Ytcpciodcecpibab
set_option linter.unusedVariables false
open Go.RowKit

/-- The error, the bytes, how many they are with the padding: so many of these bytes, as they stand ahead. -/
def cutZ (zs : List Int) (n : Nat) : List Int := if fixE zs n = 0 then zs.take n else []
def cutL (zs : List Int) (n : Nat) : Nat := if fixE zs n = 0 then n + padN n else 0

/-- The same, of any number. -/
def fxE (zs : List Int) (n : Int) : Int := if n < 0 ∨ 65536 < n then 1 else fixE zs n.toNat
def fxZ (zs : List Int) (n : Int) : List Int := if n < 0 ∨ 65536 < n then [] else cutZ zs n.toNat
def fxL (zs : List Int) (n : Int) : Nat := if n < 0 ∨ 65536 < n then 0 else cutL zs n.toNat

theorem fixE_len {zs : List Int} {n : Nat} (h : fixE zs n = 0) : n + padN n ≤ zs.length := by
  unfold fixE at h
  split at h
  · cases h
  · omega



theorem fixE_cases (zs : List Int) (n : Nat) : fixE zs n = 0 ∨ fixE zs n = 4 ∨ fixE zs n = 5 := by
  unfold fixE
  split
  · exact .inr (.inl rfl)
  · split
    · exact .inl rfl
    · exact .inr (.inr rfl)
end Go.Proofs.Ytcpciodcecpibab
