/-
  DERIVED. GIVEN WITH THE SEED: THE CARDS: each row of YtciinabhelfnoaaGreatDoorRows.lean that lists a variable, with what it lists TIED to the program's text (the seventh form; the later family's looks); each row that meets fmt, with fmt's text TOLD by the authors' own Lean function (tested against real Go, not proved from fmt's source: count such statements apart). THE CARD IS WHAT COUNTS. Prove the row's statement (the work); the ties are given (YtciinabhelfnoaaGreatDoorTie.lean); close each card by the builder's one call (the guide's Derived/Test/ToyasCard.lean, 'card_holds'). Laid BY PROGRAM, IN A SANDBOX (cutbox-door.mjs). By AI agents, Wed Nov 11 2026. No macro, syntax, notation, axiom, sorry.
-/
import Derived.Test.YtciinabhelfnoaaGreatDoorRows
import GoSem.ClaimSeven
namespace Go.Proofs.YtciinabhelfnoaaGreatDoor
namespace Rows

/-- THE TIED CARD OF 'wharfingerlaw06.CallsGets'. -/
def callsGetsCard : Claim7 := { stood := { row := callsGetsRow, standIns := [], harness := (true, "0583bc881172f5b3f820f3d8ed32c22d3f80fc5c51cc7eb21b09f219de60c1f8"), looks := false }, kinds := [], alts := [], laidByText := true, laidKinds := [.data, .data, .data], laidTests := true, laidLooks := .later }
def CallsGetsCardSaid : Prop := Claim7.holds Tryz.pinned (.plain (OpenSpec.ofChange callsGetsSpec)) callsGetsCard

/-- THE SECOND FORM's CARD OF 'wharfingerlaw06.CallsGets'. -/
def callsGetsUptoCard : Claim7 := { stood := { row := callsGetsUptoRow, standIns := [], harness := (true, "0583bc881172f5b3f820f3d8ed32c22d3f80fc5c51cc7eb21b09f219de60c1f8"), looks := false }, kinds := [], alts := [], laidByText := true, laidKinds := [.data, .data, .data], laidTests := true, laidLooks := .later }
def CallsGetsUptoCardSaid : Prop := Claim7.holds Tryz.pinned (.plain (OpenSpec.upto callsGetsSpec)) callsGetsUptoCard
end Rows
end Go.Proofs.YtciinabhelfnoaaGreatDoor
