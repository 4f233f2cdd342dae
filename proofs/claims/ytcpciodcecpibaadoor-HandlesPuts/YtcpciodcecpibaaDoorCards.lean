/-
  DERIVED. GIVEN WITH THE SEED: THE CARDS: each row of YtcpciodcecpibaaDoorRows.lean that lists a variable, with what it lists TIED to the program's text (the seventh form; the later family's looks); each row that meets fmt, with fmt's text TOLD by the authors' own Lean function (tested against real Go, not proved from fmt's source: count such statements apart). THE CARD IS WHAT COUNTS. Prove the row's statement (the work); the ties are given (YtcpciodcecpibaaDoorTie.lean); close each card by the builder's one call (the guide's Derived/Test/ToyasCard.lean, 'card_holds'). Laid BY PROGRAM, IN A SANDBOX (cutbox-door.mjs). By AI agents, Wed Nov 11 2026. No macro, syntax, notation, axiom, sorry.
-/
import Derived.Test.YtcpciodcecpibaaDoorRows
import GoSem.ClaimSeven
namespace Go.Proofs.YtcpciodcecpibaaDoor
namespace Rows

/-- THE TIED CARD OF 'wharfingerlaw08.HandlesPuts'. -/
def handlesPutsCard : Claim7 := { stood := { row := handlesPutsRow, standIns := [], harness := (true, "74b18ffd02648e347c1bcc44a6fb85c029c7d84158681db8ac8cfc02c75868f4"), looks := false }, kinds := [], alts := [], laidByText := true, laidKinds := [.data, .data, .data], laidTests := true, laidLooks := .later }
def HandlesPutsCardSaid : Prop := Claim7.holds Tryd.pinned (.plain (OpenSpec.ofChange handlesPutsSpec)) handlesPutsCard

/-- THE SECOND FORM's CARD OF 'wharfingerlaw08.HandlesPuts'. -/
def handlesPutsUptoCard : Claim7 := { stood := { row := handlesPutsUptoRow, standIns := [], harness := (true, "74b18ffd02648e347c1bcc44a6fb85c029c7d84158681db8ac8cfc02c75868f4"), looks := false }, kinds := [], alts := [], laidByText := true, laidKinds := [.data, .data, .data], laidTests := true, laidLooks := .later }
def HandlesPutsUptoCardSaid : Prop := Claim7.holds Tryd.pinned (.plain (OpenSpec.upto handlesPutsSpec)) handlesPutsUptoCard
end Rows
end Go.Proofs.YtcpciodcecpibaaDoor
