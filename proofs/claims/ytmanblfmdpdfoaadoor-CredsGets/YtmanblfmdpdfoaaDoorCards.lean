/-
  DERIVED. GIVEN WITH THE SEED: THE CARDS: each row of YtmanblfmdpdfoaaDoorRows.lean that lists a variable, with what it lists TIED to the program's text (the seventh form; the later family's looks); each row that meets fmt, with fmt's text TOLD by the authors' own Lean function (tested against real Go, not proved from fmt's source: count such statements apart). THE CARD IS WHAT COUNTS. Prove the row's statement (the work); the ties are given (YtmanblfmdpdfoaaDoorTie.lean); close each card by the builder's one call (the guide's Derived/Test/ToyasCard.lean, 'card_holds'). Laid BY PROGRAM, IN A SANDBOX (cutbox-door.mjs). By AI agents, Wed Nov 11 2026. No macro, syntax, notation, axiom, sorry.
-/
import Derived.Test.YtmanblfmdpdfoaaDoorRows
import GoSem.ClaimSeven
namespace Go.Proofs.YtmanblfmdpdfoaaDoor
namespace Rows

/-- THE TIED CARD OF 'wharfingerlaw05.CredsPuts'. -/
def credsPutsCard : Claim7 := { stood := { row := credsPutsRow, standIns := [], harness := (true, "f8033c952c37a0deee2d38e1d191f98417dbcf0c4bbededd6ce473056bb5f33d"), looks := false }, kinds := [], alts := [], laidByText := true, laidKinds := [.data, .data, .data], laidTests := true, laidLooks := .later }
def CredsPutsCardSaid : Prop := Claim7.holds Tryd.pinned (.plain (OpenSpec.ofChange credsPutsSpec)) credsPutsCard

/-- THE TIED CARD OF 'wharfingerlaw05.CredsGets'. -/
def credsGetsCard : Claim7 := { stood := { row := credsGetsRow, standIns := [], harness := (true, "f8033c952c37a0deee2d38e1d191f98417dbcf0c4bbededd6ce473056bb5f33d"), looks := false }, kinds := [], alts := [], laidByText := true, laidKinds := [.data, .data, .data], laidTests := true, laidLooks := .later }
def CredsGetsCardSaid : Prop := Claim7.holds Tryd.pinned (.plain (OpenSpec.ofChange credsGetsSpec)) credsGetsCard

/-- THE SECOND FORM's CARD OF 'wharfingerlaw05.CredsPuts'. -/
def credsPutsUptoCard : Claim7 := { stood := { row := credsPutsUptoRow, standIns := [], harness := (true, "f8033c952c37a0deee2d38e1d191f98417dbcf0c4bbededd6ce473056bb5f33d"), looks := false }, kinds := [], alts := [], laidByText := true, laidKinds := [.data, .data, .data], laidTests := true, laidLooks := .later }
def CredsPutsUptoCardSaid : Prop := Claim7.holds Tryd.pinned (.plain (OpenSpec.upto credsPutsSpec)) credsPutsUptoCard

/-- THE SECOND FORM's CARD OF 'wharfingerlaw05.CredsGets'. -/
def credsGetsUptoCard : Claim7 := { stood := { row := credsGetsUptoRow, standIns := [], harness := (true, "f8033c952c37a0deee2d38e1d191f98417dbcf0c4bbededd6ce473056bb5f33d"), looks := false }, kinds := [], alts := [], laidByText := true, laidKinds := [.data, .data, .data], laidTests := true, laidLooks := .later }
def CredsGetsUptoCardSaid : Prop := Claim7.holds Tryd.pinned (.plain (OpenSpec.upto credsGetsSpec)) credsGetsUptoCard
end Rows
end Go.Proofs.YtmanblfmdpdfoaaDoor
