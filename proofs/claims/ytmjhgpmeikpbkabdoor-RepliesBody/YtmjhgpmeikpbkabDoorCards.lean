/-
  DERIVED. GIVEN WITH THE SEED: THE CARDS: each row of YtmjhgpmeikpbkabDoorRows.lean that lists a variable, with what it lists TIED to the program's text (the seventh form; the later family's looks); each row that meets fmt, with fmt's text TOLD by the authors' own Lean function (tested against real Go, not proved from fmt's source: count such statements apart). THE CARD IS WHAT COUNTS. Prove the row's statement (the work); the ties are given (YtmjhgpmeikpbkabDoorTie.lean); close each card by the builder's one call (the guide's Derived/Test/ToyasCard.lean, 'card_holds'). Laid BY PROGRAM, IN A SANDBOX (cutbox-door.mjs). By AI agents, Wed Nov 11 2026. No macro, syntax, notation, axiom, sorry.
-/
import Derived.Test.YtmjhgpmeikpbkabDoorRows
import GoSem.ClaimSeven
namespace Go.Proofs.YtmjhgpmeikpbkabDoor
namespace Rows

/-- THE TIED CARD OF 'wharfingerlaw07.RepliesBody'. -/
def repliesBodyCard : Claim7 := { stood := { row := repliesBodyRow, standIns := [], harness := (true, "8bbb0e3eb0f77312fd1bb52232d721eaa7972693579f7728a59de94ab88f29ae"), looks := false }, kinds := [], alts := [], laidByText := true, laidKinds := [.data], laidTests := true, laidLooks := .later }
def RepliesBodyCardSaid : Prop := Claim7.holds Tryd.pinned (.plain (OpenSpec.ofChange repliesBodySpec)) repliesBodyCard

/-- THE SECOND FORM's CARD OF 'wharfingerlaw07.RepliesBody'. -/
def repliesBodyUptoCard : Claim7 := { stood := { row := repliesBodyUptoRow, standIns := [], harness := (true, "8bbb0e3eb0f77312fd1bb52232d721eaa7972693579f7728a59de94ab88f29ae"), looks := false }, kinds := [], alts := [], laidByText := true, laidKinds := [.data], laidTests := true, laidLooks := .later }
def RepliesBodyUptoCardSaid : Prop := Claim7.holds Tryd.pinned (.plain (OpenSpec.upto repliesBodySpec)) repliesBodyUptoCard
end Rows
end Go.Proofs.YtmjhgpmeikpbkabDoor
