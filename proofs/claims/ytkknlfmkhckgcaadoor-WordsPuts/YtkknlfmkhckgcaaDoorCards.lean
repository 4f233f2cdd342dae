/-
  DERIVED. GIVEN WITH THE SEED: THE CARDS: each row of YtkknlfmkhckgcaaDoorRows.lean that lists a variable, with what it lists TIED to the program's text (the seventh form; the later family's looks); each row that meets fmt, with fmt's text TOLD by the authors' own Lean function (tested against real Go, not proved from fmt's source: count such statements apart). THE CARD IS WHAT COUNTS. Prove the row's statement (the work); the ties are given (YtkknlfmkhckgcaaDoorTie.lean); close each card by the builder's one call (the guide's Derived/Test/ToyasCard.lean, 'card_holds'). Laid BY PROGRAM, IN A SANDBOX (cutbox-door.mjs). By AI agents, Wed Nov 11 2026. No macro, syntax, notation, axiom, sorry.
-/
import Derived.Test.YtkknlfmkhckgcaaDoorRows
import GoSem.ClaimSeven
namespace Go.Proofs.YtkknlfmkhckgcaaDoor
namespace Rows

/-- THE TIED CARD OF 'wharfingerlaw01.WordsPuts'. -/
def wordsPutsCard : Claim7 := { stood := { row := wordsPutsRow, standIns := [], harness := (true, "1baf79858b0057d4ff638804c386ecfcce0b4fcf289424144e57b3cdf66e45b4"), looks := false }, kinds := [], alts := [], laidByText := true, laidKinds := [.data, .data, .data], laidTests := true, laidLooks := .later }
def WordsPutsCardSaid : Prop := Claim7.holds Tryd.pinned (.plain (OpenSpec.ofChange wordsPutsSpec)) wordsPutsCard

/-- THE SECOND FORM's CARD OF 'wharfingerlaw01.WordsPuts'. -/
def wordsPutsUptoCard : Claim7 := { stood := { row := wordsPutsUptoRow, standIns := [], harness := (true, "1baf79858b0057d4ff638804c386ecfcce0b4fcf289424144e57b3cdf66e45b4"), looks := false }, kinds := [], alts := [], laidByText := true, laidKinds := [.data, .data, .data], laidTests := true, laidLooks := .later }
def WordsPutsUptoCardSaid : Prop := Claim7.holds Tryd.pinned (.plain (OpenSpec.upto wordsPutsSpec)) wordsPutsUptoCard
end Rows
end Go.Proofs.YtkknlfmkhckgcaaDoor
