/- Bytes with their number and their padding: plain mathematics. -/
import Derived.Test.YtcpciodcecpibaaDoorPad
import Derived.Test.YtcpciodcecpibaaDoorBytes
namespace Go.Proofs.YtcpciodcecpibaaDoor
set_option linter.unusedVariables false

/-- The bytes with their padding. -/
def padded (zs : List Int) : List Int := zs ++ List.replicate (padN zs.length) 0

theorem padded_length (zs : List Int) : (padded zs).length = zs.length + padN zs.length := by simp [padded]

/-- Bytes with their number ahead and their padding behind. -/
def opBytes (zs : List Int) : List Int := bytesOf (zs.length : Int) 4 ++ padded zs

theorem opBytes_length (zs : List Int) : (opBytes zs).length = 4 + (zs.length + padN zs.length) := by rw [opBytes, List.length_append, bytesOf_length, padded_length]
end Go.Proofs.YtcpciodcecpibaaDoor
