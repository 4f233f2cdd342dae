/-
  DERIVED. GIVEN WITH THE SEED: THE CARDS: each row of YtmjjoiljdcjhdaaDoorRows.lean that lists a variable, with what it lists TIED to the program's text (the seventh form; the later family's looks); each row that meets fmt, with fmt's text TOLD by the authors' own Lean function (tested against real Go, not proved from fmt's source: count such statements apart). THE CARD IS WHAT COUNTS. Prove the row's statement (the work); the ties are given (YtmjjoiljdcjhdaaDoorTie.lean); close each card by the builder's one call (the guide's Derived/Test/ToyasCard.lean, 'card_holds'). Laid BY PROGRAM, IN A SANDBOX (cutbox-door.mjs). By AI agents, Wed Nov 11 2026. No macro, syntax, notation, axiom, sorry.
-/
import Derived.Test.YtmjjoiljdcjhdaaDoorRows
import GoSem.ClaimSeven
namespace Go.Proofs.YtmjjoiljdcjhdaaDoor
namespace Rows

/-- THE TIED CARD OF 'wharfingerlaw04.MarksPuts'. -/
def marksPutsCard : Claim7 := { stood := { row := marksPutsRow, standIns := [], harness := (true, "327452519f92dfa0149bf99861ddeebbf1330426b695adfe23a36fe78d4c8c84"), looks := false }, kinds := [], alts := [], laidByText := true, laidKinds := [.data, .data, .data], laidTests := true, laidLooks := .later }
def MarksPutsCardSaid : Prop := Claim7.holds Tryd.pinned (.plain (OpenSpec.ofChange marksPutsSpec)) marksPutsCard

/-- THE TIED CARD OF 'wharfingerlaw04.MarksGets'. -/
def marksGetsCard : Claim7 := { stood := { row := marksGetsRow, standIns := [], harness := (true, "327452519f92dfa0149bf99861ddeebbf1330426b695adfe23a36fe78d4c8c84"), looks := false }, kinds := [], alts := [], laidByText := true, laidKinds := [.data, .data, .data], laidTests := true, laidLooks := .later }
def MarksGetsCardSaid : Prop := Claim7.holds Tryd.pinned (.plain (OpenSpec.ofChange marksGetsSpec)) marksGetsCard

/-- THE TIED CARD OF 'wharfingerlaw04.MarksAlls'. -/
def marksAllsCard : Claim7 := { stood := { row := marksAllsRow, standIns := [], harness := (true, "327452519f92dfa0149bf99861ddeebbf1330426b695adfe23a36fe78d4c8c84"), looks := false }, kinds := [], alts := [], laidByText := true, laidKinds := [.data, .data, .data], laidTests := true, laidLooks := .later }
def MarksAllsCardSaid : Prop := Claim7.holds Tryd.pinned (.plain (OpenSpec.ofChange marksAllsSpec)) marksAllsCard

/-- THE SECOND FORM's CARD OF 'wharfingerlaw04.MarksPuts'. -/
def marksPutsUptoCard : Claim7 := { stood := { row := marksPutsUptoRow, standIns := [], harness := (true, "327452519f92dfa0149bf99861ddeebbf1330426b695adfe23a36fe78d4c8c84"), looks := false }, kinds := [], alts := [], laidByText := true, laidKinds := [.data, .data, .data], laidTests := true, laidLooks := .later }
def MarksPutsUptoCardSaid : Prop := Claim7.holds Tryd.pinned (.plain (OpenSpec.upto marksPutsSpec)) marksPutsUptoCard

/-- THE SECOND FORM's CARD OF 'wharfingerlaw04.MarksGets'. -/
def marksGetsUptoCard : Claim7 := { stood := { row := marksGetsUptoRow, standIns := [], harness := (true, "327452519f92dfa0149bf99861ddeebbf1330426b695adfe23a36fe78d4c8c84"), looks := false }, kinds := [], alts := [], laidByText := true, laidKinds := [.data, .data, .data], laidTests := true, laidLooks := .later }
def MarksGetsUptoCardSaid : Prop := Claim7.holds Tryd.pinned (.plain (OpenSpec.upto marksGetsSpec)) marksGetsUptoCard

/-- THE SECOND FORM's CARD OF 'wharfingerlaw04.MarksAlls'. -/
def marksAllsUptoCard : Claim7 := { stood := { row := marksAllsUptoRow, standIns := [], harness := (true, "327452519f92dfa0149bf99861ddeebbf1330426b695adfe23a36fe78d4c8c84"), looks := false }, kinds := [], alts := [], laidByText := true, laidKinds := [.data, .data, .data], laidTests := true, laidLooks := .later }
def MarksAllsUptoCardSaid : Prop := Claim7.holds Tryd.pinned (.plain (OpenSpec.upto marksAllsSpec)) marksAllsUptoCard
end Rows
end Go.Proofs.YtmjjoiljdcjhdaaDoor
