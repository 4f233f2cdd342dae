/-
  DERIVED. GIVEN WITH THE SEED: THE CARDS: each row of YtmeampolndpjeaaDoorRows.lean that lists a variable, with what it lists TIED to the program's text (the seventh form; the later family's looks); each row that meets fmt, with fmt's text TOLD by the authors' own Lean function (tested against real Go, not proved from fmt's source: count such statements apart). THE CARD IS WHAT COUNTS. Prove the row's statement (the work); the ties are given (YtmeampolndpjeaaDoorTie.lean); close each card by the builder's one call (the guide's Derived/Test/ToyasCard.lean, 'card_holds'). Laid BY PROGRAM, IN A SANDBOX (cutbox-door.mjs). By AI agents, Wed Nov 11 2026. No macro, syntax, notation, axiom, sorry.
-/
import Derived.Test.YtmeampolndpjeaaDoorRows
import GoSem.ClaimSeven
namespace Go.Proofs.YtmeampolndpjeaaDoor
namespace Rows

/-- THE TIED CARD OF 'wharfingerlaw03.StringsPuts'. -/
def stringsPutsCard : Claim7 := { stood := { row := stringsPutsRow, standIns := [], harness := (true, "8e91f60ff5b9f73363c7f1ba2a02b00efe6da47eb3cae5d5e19271056ee96ce0"), looks := false }, kinds := [], alts := [], laidByText := true, laidKinds := [.data, .data, .data], laidTests := true, laidLooks := .later }
def StringsPutsCardSaid : Prop := Claim7.holds Tryd.pinned (.plain (OpenSpec.ofChange stringsPutsSpec)) stringsPutsCard

/-- THE SECOND FORM's CARD OF 'wharfingerlaw03.StringsPuts'. -/
def stringsPutsUptoCard : Claim7 := { stood := { row := stringsPutsUptoRow, standIns := [], harness := (true, "8e91f60ff5b9f73363c7f1ba2a02b00efe6da47eb3cae5d5e19271056ee96ce0"), looks := false }, kinds := [], alts := [], laidByText := true, laidKinds := [.data, .data, .data], laidTests := true, laidLooks := .later }
def StringsPutsUptoCardSaid : Prop := Claim7.holds Tryd.pinned (.plain (OpenSpec.upto stringsPutsSpec)) stringsPutsUptoCard
end Rows
end Go.Proofs.YtmeampolndpjeaaDoor
