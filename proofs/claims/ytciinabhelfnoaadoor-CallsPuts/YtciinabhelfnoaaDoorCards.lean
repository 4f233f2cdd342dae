/-
  DERIVED. GIVEN WITH THE SEED: THE CARDS: each row of YtciinabhelfnoaaDoorRows.lean that lists a variable, with what it lists TIED to the program's text (the seventh form; the later family's looks); each row that meets fmt, with fmt's text TOLD by the authors' own Lean function (tested against real Go, not proved from fmt's source: count such statements apart). THE CARD IS WHAT COUNTS. Prove the row's statement (the work); the ties are given (YtciinabhelfnoaaDoorTie.lean); close each card by the builder's one call (the guide's Derived/Test/ToyasCard.lean, 'card_holds'). Laid BY PROGRAM, IN A SANDBOX (cutbox-door.mjs). By AI agents, Wed Nov 11 2026. No macro, syntax, notation, axiom, sorry.
-/
import Derived.Test.YtciinabhelfnoaaDoorRows
import GoSem.ClaimSeven
namespace Go.Proofs.YtciinabhelfnoaaDoor
namespace Rows

/-- THE TIED CARD OF 'wharfingerlaw06.CallsPuts'. -/
def callsPutsCard : Claim7 := { stood := { row := callsPutsRow, standIns := [], harness := (true, "c50bc784f7ecd4d939b2269f36d11ba81a9c9b57e83f32c13c400469b42b8e61"), looks := false }, kinds := [], alts := [], laidByText := true, laidKinds := [.data, .data, .data], laidTests := true, laidLooks := .later }
def CallsPutsCardSaid : Prop := Claim7.holds Tryd.pinned (.plain (OpenSpec.ofChange callsPutsSpec)) callsPutsCard

/-- THE SECOND FORM's CARD OF 'wharfingerlaw06.CallsPuts'. -/
def callsPutsUptoCard : Claim7 := { stood := { row := callsPutsUptoRow, standIns := [], harness := (true, "c50bc784f7ecd4d939b2269f36d11ba81a9c9b57e83f32c13c400469b42b8e61"), looks := false }, kinds := [], alts := [], laidByText := true, laidKinds := [.data, .data, .data], laidTests := true, laidLooks := .later }
def CallsPutsUptoCardSaid : Prop := Claim7.holds Tryd.pinned (.plain (OpenSpec.upto callsPutsSpec)) callsPutsUptoCard
end Rows
end Go.Proofs.YtciinabhelfnoaaDoor
