/-
  DERIVED. GIVEN WITH THE SEED: THE CARDS: each row of YtjognjggampejaaDoorRows.lean that lists a variable, with what it lists TIED to the program's text (the seventh form; the later family's looks); each row that meets fmt, with fmt's text TOLD by the authors' own Lean function (tested against real Go, not proved from fmt's source: count such statements apart). THE CARD IS WHAT COUNTS. Prove the row's statement (the work); the ties are given (YtjognjggampejaaDoorTie.lean); close each card by the builder's one call (the guide's Derived/Test/ToyasCard.lean, 'card_holds'). Laid BY PROGRAM, IN A SANDBOX (cutbox-door.mjs). By AI agents, Wed Nov 11 2026. No macro, syntax, notation, axiom, sorry.
-/
import Derived.Test.YtjognjggampejaaDoorRows
import GoSem.ClaimSeven
namespace Go.Proofs.YtjognjggampejaaDoor
namespace Rows

/-- THE TIED CARD OF 'wharfingerlaw09.TimesPuts'. -/
def timesPutsCard : Claim7 := { stood := { row := timesPutsRow, standIns := [], harness := (true, "9a0e0de961c6c3a28a4576cfa8d50e4c579b01431c37fef2ff0310e227e5f60d"), looks := false }, kinds := [], alts := [], laidByText := true, laidKinds := [.data, .data, .data], laidTests := true, laidLooks := .later }
def TimesPutsCardSaid : Prop := Claim7.holds Tryd.pinned (.plain (OpenSpec.ofChange timesPutsSpec)) timesPutsCard

/-- THE SECOND FORM's CARD OF 'wharfingerlaw09.TimesPuts'. -/
def timesPutsUptoCard : Claim7 := { stood := { row := timesPutsUptoRow, standIns := [], harness := (true, "9a0e0de961c6c3a28a4576cfa8d50e4c579b01431c37fef2ff0310e227e5f60d"), looks := false }, kinds := [], alts := [], laidByText := true, laidKinds := [.data, .data, .data], laidTests := true, laidLooks := .later }
def TimesPutsUptoCardSaid : Prop := Claim7.holds Tryd.pinned (.plain (OpenSpec.upto timesPutsSpec)) timesPutsUptoCard
end Rows
end Go.Proofs.YtjognjggampejaaDoor
