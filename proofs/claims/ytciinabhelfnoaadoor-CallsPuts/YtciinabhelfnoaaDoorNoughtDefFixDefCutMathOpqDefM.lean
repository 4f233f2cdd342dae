/- Whether all of some bytes are 0: plain mathematics. -/
import Derived.Test.YtciinabhelfnoaaDoorBase
import Derived.Test.YtciinabhelfnoaaDoorPiecesGrowM
import Derived.Test.YtciinabhelfnoaaDoorTextsPadM
import Derived.Test.YtciinabhelfnoaaDoorBytesM
import Derived.Test.YtciinabhelfnoaaDoorAppendsNumM
namespace Go.Proofs.YtciinabhelfnoaaDoor
set_option linter.unusedVariables false

/-- All of them are 0. -/
def allNought (zs : List Int) : Bool := zs.all fun z => z == 0

theorem nought_step (zs : List Int) (k : Nat) (h : allNought (zs.take k) = true) (hk : k < zs.length) (hx : zs[k]?.getD 0 = 0) : allNought (zs.take (k + 1)) = true := by
  unfold allNought at *
  rw [List.take_succ_eq_append_getElem hk, List.all_append, h]
  rw [List.getElem?_eq_getElem hk, Option.getD_some] at hx
  simp [hx]

theorem nought_stop (zs : List Int) (k : Nat) (hk : k < zs.length) (hx : zs[k]?.getD 0 ≠ 0) : allNought zs = false := by
  unfold allNought
  rw [List.getElem?_eq_getElem hk, Option.getD_some] at hx
  rw [List.all_eq_false]
  exact ⟨zs[k], List.getElem_mem hk, by simpa using hx⟩
end Go.Proofs.YtciinabhelfnoaaDoor

/- So many bytes with their padding: plain mathematics. -/
namespace Go.Proofs.YtciinabhelfnoaaDoor
set_option linter.unusedVariables false
open Go.RowKit

/-- Which error: so many bytes with their padding, of these. -/
def fixE (zs : List Int) (n : Nat) : Int := if zs.length < n + padN n then 4 else if allNought ((zs.drop n).take (padN n)) then 0 else 5

theorem allNought_nil : allNought [] = true := rfl

/-- What 'taken' hands on. -/
def tookV (a : Option Addr) (zs : List Int) (n : Nat) : Value := if fixE zs n = 0 then .slice a n n else .slice none 0 0

theorem fixE_form {zs : List Int} {n : Nat} (h : n + padN n ≤ zs.length) : fixE zs n = if allNought ((zs.drop n).take (padN n)) then 0 else 5 := by
  unfold fixE
  rw [if_neg (by omega)]
end Go.Proofs.YtciinabhelfnoaaDoor

/- What is got of so many bytes: the error, the bytes, how many they are (the mathematics; no function is named). -/
namespace Go.Proofs.YtciinabhelfnoaaDoor
set_option linter.unusedVariables false
open Go.RowKit

/-- The error, the bytes, how many they are with the padding: so many of these bytes, as they stand ahead. -/
def cutZ (zs : List Int) (n : Nat) : List Int := if fixE zs n = 0 then zs.take n else []
def cutL (zs : List Int) (n : Nat) : Nat := if fixE zs n = 0 then n + padN n else 0

/-- The same, of any number. -/
def fxE (zs : List Int) (n : Int) : Int := if n < 0 ∨ 65536 < n then 1 else fixE zs n.toNat
def fxZ (zs : List Int) (n : Int) : List Int := if n < 0 ∨ 65536 < n then [] else cutZ zs n.toNat
def fxL (zs : List Int) (n : Int) : Nat := if n < 0 ∨ 65536 < n then 0 else cutL zs n.toNat

theorem fixE_len {zs : List Int} {n : Nat} (h : fixE zs n = 0) : n + padN n ≤ zs.length := by
  unfold fixE at h
  split at h
  · cases h
  · omega



theorem fixE_cases (zs : List Int) (n : Nat) : fixE zs n = 0 ∨ fixE zs n = 4 ∨ fixE zs n = 5 := by
  unfold fixE
  split
  · exact .inr (.inl rfl)
  · split
    · exact .inl rfl
    · exact .inr (.inr rfl)
end Go.Proofs.YtciinabhelfnoaaDoor

/- Bytes with their length: plain mathematics. -/
namespace Go.Proofs.YtciinabhelfnoaaDoor
set_option linter.unusedVariables false
open Go.RowKit

/-- The number ahead. -/
def toldN (zs : List Int) : Nat := (be (zs.take 4)).toNat

/-- The error, the bytes, how many they are with number and padding. -/
def opE (zs : List Int) (most : Int) : Int := if zs.length < 4 then 4 else if most < (toldN zs : Int) then 3 else fixE (zs.drop 4) (toldN zs)
def opZ (zs : List Int) (most : Int) : List Int := if opE zs most = 0 then (zs.drop 4).take (toldN zs) else []
def opL (zs : List Int) (most : Int) : Nat := if opE zs most = 0 then 4 + toldN zs + padN (toldN zs) else 0

theorem told_be {zs : List Int} (hb : Byt zs) (h : ¬ zs.length < 4) : getN zs = (toldN zs : Int) ∧ getE zs = 0 ∧ toldN zs ≤ 4294967295 := by
  have h1 := be_bound zs hb 4 (by omega)
  unfold getN getE toldN
  rw [if_neg h, if_neg h]
  generalize be (zs.take 4) = x at *
  refine ⟨by omega, rfl, by omega⟩

theorem Byt.nil : Byt [] := fun i => by simp
end Go.Proofs.YtciinabhelfnoaaDoor
