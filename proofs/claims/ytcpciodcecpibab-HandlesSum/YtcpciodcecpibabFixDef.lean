/- So many bytes with their padding: plain mathematics. -/
import Derived.Test.YtcpciodcecpibabPieces
import Derived.Test.YtcpciodcecpibabPad
import Derived.Test.YtcpciodcecpibabNoughtDef
namespace Go.Proofs.Ytcpciodcecpibab
set_option linter.unusedVariables false
open Go.RowKit

/-- Which error: so many bytes with their padding, of these. -/
def fixE (zs : List Int) (n : Nat) : Int := if zs.length < n + padN n then 4 else if allNought ((zs.drop n).take (padN n)) then 0 else 5

theorem allNought_nil : allNought [] = true := rfl

/-- What 'taken' hands on. -/
def tookV (a : Option Addr) (zs : List Int) (n : Nat) : Value := if fixE zs n = 0 then .slice a n n else .slice none 0 0

theorem fixE_form {zs : List Int} {n : Nat} (h : n + padN n ≤ zs.length) : fixE zs n = if allNought ((zs.drop n).take (padN n)) then 0 else 5 := by
  unfold fixE
  rw [if_neg (by omega)]
end Go.Proofs.Ytcpciodcecpibab
