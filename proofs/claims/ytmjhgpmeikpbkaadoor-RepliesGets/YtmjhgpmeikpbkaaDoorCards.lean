/-
  DERIVED. GIVEN WITH THE SEED: THE CARDS: each row of YtmjhgpmeikpbkaaDoorRows.lean that lists a variable, with what it lists TIED to the program's text (the seventh form; the later family's looks); each row that meets fmt, with fmt's text TOLD by the authors' own Lean function (tested against real Go, not proved from fmt's source: count such statements apart). THE CARD IS WHAT COUNTS. Prove the row's statement (the work); the ties are given (YtmjhgpmeikpbkaaDoorTie.lean); close each card by the builder's one call (the guide's Derived/Test/ToyasCard.lean, 'card_holds'). Laid BY PROGRAM, IN A SANDBOX (cutbox-door.mjs). By AI agents, Wed Nov 11 2026. No macro, syntax, notation, axiom, sorry.
-/
import Derived.Test.YtmjhgpmeikpbkaaDoorRows
import GoSem.ClaimSeven
namespace Go.Proofs.YtmjhgpmeikpbkaaDoor
namespace Rows

/-- THE TIED CARD OF 'wharfingerlaw07.RepliesPuts'. -/
def repliesPutsCard : Claim7 := { stood := { row := repliesPutsRow, standIns := [], harness := (true, "40f1e0dc8ddc6b9508099d058ede181a00a3e88c2b7525300382bfb67f9bf43c"), looks := false }, kinds := [], alts := [], laidByText := true, laidKinds := [.data, .data, .data, .data], laidTests := true, laidLooks := .later }
def RepliesPutsCardSaid : Prop := Claim7.holds Tryd.pinned (.plain (OpenSpec.ofChange repliesPutsSpec)) repliesPutsCard

/-- THE TIED CARD OF 'wharfingerlaw07.RepliesGets'. -/
def repliesGetsCard : Claim7 := { stood := { row := repliesGetsRow, standIns := [], harness := (true, "40f1e0dc8ddc6b9508099d058ede181a00a3e88c2b7525300382bfb67f9bf43c"), looks := false }, kinds := [], alts := [], laidByText := true, laidKinds := [.data, .data, .data, .data], laidTests := true, laidLooks := .later }
def RepliesGetsCardSaid : Prop := Claim7.holds Tryd.pinned (.plain (OpenSpec.ofChange repliesGetsSpec)) repliesGetsCard

/-- THE TIED CARD OF 'wharfingerlaw07.RepliesBack'. -/
def repliesBackCard : Claim7 := { stood := { row := repliesBackRow, standIns := [], harness := (true, "40f1e0dc8ddc6b9508099d058ede181a00a3e88c2b7525300382bfb67f9bf43c"), looks := false }, kinds := [], alts := [], laidByText := true, laidKinds := [.data], laidTests := true, laidLooks := .later }
def RepliesBackCardSaid : Prop := Claim7.holds Tryd.pinned (.plain (OpenSpec.ofChange repliesBackSpec)) repliesBackCard

/-- THE TIED CARD OF 'wharfingerlaw07.RepliesAgain'. -/
def repliesAgainCard : Claim7 := { stood := { row := repliesAgainRow, standIns := [], harness := (true, "40f1e0dc8ddc6b9508099d058ede181a00a3e88c2b7525300382bfb67f9bf43c"), looks := false }, kinds := [], alts := [], laidByText := true, laidKinds := [.data], laidTests := true, laidLooks := .later }
def RepliesAgainCardSaid : Prop := Claim7.holds Tryd.pinned (.plain (OpenSpec.ofChange repliesAgainSpec)) repliesAgainCard

/-- THE TIED CARD OF 'wharfingerlaw07.RepliesRows'. -/
def repliesRowsCard : Claim7 := { stood := { row := repliesRowsRow, standIns := [], harness := (true, "40f1e0dc8ddc6b9508099d058ede181a00a3e88c2b7525300382bfb67f9bf43c"), looks := false }, kinds := [], alts := [], laidByText := true, laidKinds := [.data], laidTests := true, laidLooks := .later }
def RepliesRowsCardSaid : Prop := Claim7.holds Tryd.pinned (.plain (OpenSpec.ofChange repliesRowsSpec)) repliesRowsCard

/-- THE TIED CARD OF 'wharfingerlaw07.RepliesOdd'. -/
def repliesOddCard : Claim7 := { stood := { row := repliesOddRow, standIns := [], harness := (true, "40f1e0dc8ddc6b9508099d058ede181a00a3e88c2b7525300382bfb67f9bf43c"), looks := false }, kinds := [], alts := [], laidByText := true, laidKinds := [.data], laidTests := true, laidLooks := .later }
def RepliesOddCardSaid : Prop := Claim7.holds Tryd.pinned (.plain (OpenSpec.ofChange repliesOddSpec)) repliesOddCard

/-- THE SECOND FORM's CARD OF 'wharfingerlaw07.RepliesPuts'. -/
def repliesPutsUptoCard : Claim7 := { stood := { row := repliesPutsUptoRow, standIns := [], harness := (true, "40f1e0dc8ddc6b9508099d058ede181a00a3e88c2b7525300382bfb67f9bf43c"), looks := false }, kinds := [], alts := [], laidByText := true, laidKinds := [.data, .data, .data, .data], laidTests := true, laidLooks := .later }
def RepliesPutsUptoCardSaid : Prop := Claim7.holds Tryd.pinned (.plain (OpenSpec.upto repliesPutsSpec)) repliesPutsUptoCard

/-- THE SECOND FORM's CARD OF 'wharfingerlaw07.RepliesGets'. -/
def repliesGetsUptoCard : Claim7 := { stood := { row := repliesGetsUptoRow, standIns := [], harness := (true, "40f1e0dc8ddc6b9508099d058ede181a00a3e88c2b7525300382bfb67f9bf43c"), looks := false }, kinds := [], alts := [], laidByText := true, laidKinds := [.data, .data, .data, .data], laidTests := true, laidLooks := .later }
def RepliesGetsUptoCardSaid : Prop := Claim7.holds Tryd.pinned (.plain (OpenSpec.upto repliesGetsSpec)) repliesGetsUptoCard

/-- THE SECOND FORM's CARD OF 'wharfingerlaw07.RepliesBack'. -/
def repliesBackUptoCard : Claim7 := { stood := { row := repliesBackUptoRow, standIns := [], harness := (true, "40f1e0dc8ddc6b9508099d058ede181a00a3e88c2b7525300382bfb67f9bf43c"), looks := false }, kinds := [], alts := [], laidByText := true, laidKinds := [.data], laidTests := true, laidLooks := .later }
def RepliesBackUptoCardSaid : Prop := Claim7.holds Tryd.pinned (.plain (OpenSpec.upto repliesBackSpec)) repliesBackUptoCard

/-- THE SECOND FORM's CARD OF 'wharfingerlaw07.RepliesAgain'. -/
def repliesAgainUptoCard : Claim7 := { stood := { row := repliesAgainUptoRow, standIns := [], harness := (true, "40f1e0dc8ddc6b9508099d058ede181a00a3e88c2b7525300382bfb67f9bf43c"), looks := false }, kinds := [], alts := [], laidByText := true, laidKinds := [.data], laidTests := true, laidLooks := .later }
def RepliesAgainUptoCardSaid : Prop := Claim7.holds Tryd.pinned (.plain (OpenSpec.upto repliesAgainSpec)) repliesAgainUptoCard

/-- THE SECOND FORM's CARD OF 'wharfingerlaw07.RepliesRows'. -/
def repliesRowsUptoCard : Claim7 := { stood := { row := repliesRowsUptoRow, standIns := [], harness := (true, "40f1e0dc8ddc6b9508099d058ede181a00a3e88c2b7525300382bfb67f9bf43c"), looks := false }, kinds := [], alts := [], laidByText := true, laidKinds := [.data], laidTests := true, laidLooks := .later }
def RepliesRowsUptoCardSaid : Prop := Claim7.holds Tryd.pinned (.plain (OpenSpec.upto repliesRowsSpec)) repliesRowsUptoCard

/-- THE SECOND FORM's CARD OF 'wharfingerlaw07.RepliesOdd'. -/
def repliesOddUptoCard : Claim7 := { stood := { row := repliesOddUptoRow, standIns := [], harness := (true, "40f1e0dc8ddc6b9508099d058ede181a00a3e88c2b7525300382bfb67f9bf43c"), looks := false }, kinds := [], alts := [], laidByText := true, laidKinds := [.data], laidTests := true, laidLooks := .later }
def RepliesOddUptoCardSaid : Prop := Claim7.holds Tryd.pinned (.plain (OpenSpec.upto repliesOddSpec)) repliesOddUptoCard
end Rows
end Go.Proofs.YtmjhgpmeikpbkaaDoor
