/-
  No cell of these rows narrows 'for every input' (looked for: loops, veiled, ifaces, maps, wideKeys, modest, calm, conditions, laid).
  DERIVED. THE GIVEN ROWS OF THIS SEAT. 5 by the template 'for every input the law returns true; each argument reads behind the call as it read before'; 0 by the template 'total and deterministic' (their statements: YtmeampolndpjeaaTotals.lean).
  GIVEN WITH THE SEED: the statements are not yours to turn. If you find one false, say at which input.
  Laid BY PROGRAM, IN A SANDBOX (cutbox-rows.mjs): the forced cells as the released guide's own fill.sh prints them over the translation dc20ada16335649c… (all of the seat's roots in one cut). By AI agents, Wed Nov 11 2026. No macro, syntax, notation, axiom, sorry.
-/
import Derived.Test.YtmeampolndpjeaaChecked
import GoSem.Claim
import GoSem.ClaimJoined
import GoSem.ClaimMapViews
import Derived.JoinedTies
import Derived.KernelRfl
namespace Go.Proofs.Ytmeampolndpjeaa
/- THE CELL 'sum', in the pinned program and in every row, IS THE sha256 OF THE DUMP (.gsa) THAT YtmeampolndpjeaaProg.lean LOADS. Nothing in Lean hashes anything: it is a label: what it is worth is what the hold of that sum in a sandbox is worth. -/
noncomputable def Try.pinned : Pinned := { name := "ytmeampolndpjeaa", sum := "dc20ada16335649ca4308362d52550651c3077469d2564161ae7186dffa9ecd0", checked := Try.checked }
namespace Rows
def none {H : Type} : Left H := { results := [], args := [] }

/-- 'wharfingerlaw03.StringsGets': WHATEVER THE INPUT: true; the input reads as it did. -/
def stringsGetsSpec : ChangeSpec := { name := "stringsGets", fn := fun _ => fun
  | [d1, d2] => { results := [.lit (.bool true)], args := [d1, d2] }
  | _ => none }
def stringsGetsRow : OpenClaim := { program := "ytmeampolndpjeaa", sum := "dc20ada16335649ca4308362d52550651c3077469d2564161ae7186dffa9ecd0", func := "wharfinger/wharfingerlaw03.StringsGets", spec := "stringsGets", apart := false }
def StringsGetsSaid : Prop := stringsGetsRow.holds Try.pinned (OpenSpec.ofChange stringsGetsSpec)

/-- ITS FALSE NEIGHBOUR: 'it returns false'. Refute it at one input. -/
def stringsGetsWrong : ChangeSpec := { name := "stringsGets", fn := fun _ => fun
  | [d1, d2] => { results := [.lit (.bool false)], args := [d1, d2] }
  | _ => none }
def StringsGetsWrongFalsely : Prop := stringsGetsRow.holds Try.pinned (OpenSpec.ofChange stringsGetsWrong)

/-- 'wharfingerlaw03.StringsBack': WHATEVER THE INPUT: true; the input reads as it did. -/
def stringsBackSpec : ChangeSpec := { name := "stringsBack", fn := fun _ => fun
  | [d1, d2] => { results := [.lit (.bool true)], args := [d1, d2] }
  | _ => none }
def stringsBackRow : OpenClaim := { program := "ytmeampolndpjeaa", sum := "dc20ada16335649ca4308362d52550651c3077469d2564161ae7186dffa9ecd0", func := "wharfinger/wharfingerlaw03.StringsBack", spec := "stringsBack", inPlace := ["internal/bytealg.IndexByteString"], unfollowed := true, recurses := true, apart := false }
def StringsBackSaid : Prop := stringsBackRow.holds Try.pinned (OpenSpec.ofChange stringsBackSpec)

/-- ITS FALSE NEIGHBOUR: 'it returns false'. Refute it at one input. -/
def stringsBackWrong : ChangeSpec := { name := "stringsBack", fn := fun _ => fun
  | [d1, d2] => { results := [.lit (.bool false)], args := [d1, d2] }
  | _ => none }
def StringsBackWrongFalsely : Prop := stringsBackRow.holds Try.pinned (OpenSpec.ofChange stringsBackWrong)

/-- 'wharfingerlaw03.StringsAgain': WHATEVER THE INPUT: true; the input reads as it did. -/
def stringsAgainSpec : ChangeSpec := { name := "stringsAgain", fn := fun _ => fun
  | [d1, d2] => { results := [.lit (.bool true)], args := [d1, d2] }
  | _ => none }
def stringsAgainRow : OpenClaim := { program := "ytmeampolndpjeaa", sum := "dc20ada16335649ca4308362d52550651c3077469d2564161ae7186dffa9ecd0", func := "wharfinger/wharfingerlaw03.StringsAgain", spec := "stringsAgain", inPlace := ["internal/bytealg.IndexByteString"], unfollowed := true, recurses := true, apart := false }
def StringsAgainSaid : Prop := stringsAgainRow.holds Try.pinned (OpenSpec.ofChange stringsAgainSpec)

/-- ITS FALSE NEIGHBOUR: 'it returns false'. Refute it at one input. -/
def stringsAgainWrong : ChangeSpec := { name := "stringsAgain", fn := fun _ => fun
  | [d1, d2] => { results := [.lit (.bool false)], args := [d1, d2] }
  | _ => none }
def StringsAgainWrongFalsely : Prop := stringsAgainRow.holds Try.pinned (OpenSpec.ofChange stringsAgainWrong)

/-- 'wharfingerlaw03.StringsNames': WHATEVER THE INPUT: true; the input reads as it did. -/
def stringsNamesSpec : ChangeSpec := { name := "stringsNames", fn := fun _ => fun
  | [d] => { results := [.lit (.bool true)], args := [d] }
  | _ => none }
def stringsNamesRow : OpenClaim := { program := "ytmeampolndpjeaa", sum := "dc20ada16335649ca4308362d52550651c3077469d2564161ae7186dffa9ecd0", func := "wharfinger/wharfingerlaw03.StringsNames", spec := "stringsNames", inPlace := ["internal/bytealg.IndexByteString"], unfollowed := true, recurses := true, apart := false }
def StringsNamesSaid : Prop := stringsNamesRow.holds Try.pinned (OpenSpec.ofChange stringsNamesSpec)

/-- ITS FALSE NEIGHBOUR: 'it returns false'. Refute it at one input. -/
def stringsNamesWrong : ChangeSpec := { name := "stringsNames", fn := fun _ => fun
  | [d] => { results := [.lit (.bool false)], args := [d] }
  | _ => none }
def StringsNamesWrongFalsely : Prop := stringsNamesRow.holds Try.pinned (OpenSpec.ofChange stringsNamesWrong)

/-- 'wharfingerlaw03.StringsBytes': WHATEVER THE INPUT: true; the input reads as it did. -/
def stringsBytesSpec : ChangeSpec := { name := "stringsBytes", fn := fun _ => fun
  | [d1, d2] => { results := [.lit (.bool true)], args := [d1, d2] }
  | _ => none }
def stringsBytesRow : OpenClaim := { program := "ytmeampolndpjeaa", sum := "dc20ada16335649ca4308362d52550651c3077469d2564161ae7186dffa9ecd0", func := "wharfinger/wharfingerlaw03.StringsBytes", spec := "stringsBytes", inPlace := ["internal/bytealg.IndexByteString"], unfollowed := true, recurses := true, apart := false }
def StringsBytesSaid : Prop := stringsBytesRow.holds Try.pinned (OpenSpec.ofChange stringsBytesSpec)

/-- ITS FALSE NEIGHBOUR: 'it returns false'. Refute it at one input. -/
def stringsBytesWrong : ChangeSpec := { name := "stringsBytes", fn := fun _ => fun
  | [d1, d2] => { results := [.lit (.bool false)], args := [d1, d2] }
  | _ => none }
def StringsBytesWrongFalsely : Prop := stringsBytesRow.holds Try.pinned (OpenSpec.ofChange stringsBytesWrong)

/- THE SECOND FORM. 'bulk': how many values and letters a reading holds, each counted each time it is reached (what is shared counts as often as it is met; a slice's spare places count too). A statement '..UptoSaid' is the law's where the arguments, and the package variables that the reading takes, are together of bulk at most 1048576: NARROWER than '..Said'. Prove '..Said' where nothing that the law and all that it calls make is longer than what came in: it says more and counts as full. Else prove '..UptoSaid'. A law counts once. -/
mutual
def uptoBulk {H : Type} : DataW H → Nat
  | .lit (.string bytes) => bytes.length + 1
  | .lit _ => 1
  | .nil => 1
  | .ptr d => uptoBulk d + 1
  | .slice elems spare => uptoBulkAll elems + uptoBulkAll spare + 1
  | .agg parts => uptoBulkAll parts + 1
  | .iface _ d => uptoBulk d + 1
  | .map entries => uptoBulkEntries entries + 1
  | .held _ => 1
def uptoBulkAll {H : Type} : List (DataW H) → Nat
  | [] => 0
  | d :: r => uptoBulk d + uptoBulkAll r
def uptoBulkEntries {H : Type} : List (Lit × DataW H) → Nat
  | [] => 0
  | x :: r => uptoBulkEntry x + uptoBulkEntries r
def uptoBulkEntry {H : Type} : Lit × DataW H → Nat
  | (.string bytes, d) => bytes.length + uptoBulk d + 1
  | (_, d) => uptoBulk d + 1
 end
def uptoSmall : (H : Type) → List (DataW H) → Bool := fun _ ds => decide (uptoBulkAll ds ≤ 1048576)
def OpenSpec.upto (s : _root_.Go.ChangeSpec) : _root_.Go.OpenSpec := { _root_.Go.OpenSpec.ofChange s with cond := some uptoSmall }

/-- 'wharfingerlaw03.StringsGets', WHERE WHAT IT READS IS OF BULK AT MOST 1048576: true; the input reads as it did. -/
def stringsGetsUptoRow : OpenClaim := { program := "ytmeampolndpjeaa", sum := "dc20ada16335649ca4308362d52550651c3077469d2564161ae7186dffa9ecd0", func := "wharfinger/wharfingerlaw03.StringsGets", spec := "stringsGets", apart := false, narrowed := true }
def StringsGetsUptoSaid : Prop := stringsGetsUptoRow.holds Try.pinned (OpenSpec.upto stringsGetsSpec)

/-- 'wharfingerlaw03.StringsBack', WHERE WHAT IT READS IS OF BULK AT MOST 1048576: true; the input reads as it did. -/
def stringsBackUptoRow : OpenClaim := { program := "ytmeampolndpjeaa", sum := "dc20ada16335649ca4308362d52550651c3077469d2564161ae7186dffa9ecd0", func := "wharfinger/wharfingerlaw03.StringsBack", spec := "stringsBack", inPlace := ["internal/bytealg.IndexByteString"], unfollowed := true, recurses := true, apart := false, narrowed := true }
def StringsBackUptoSaid : Prop := stringsBackUptoRow.holds Try.pinned (OpenSpec.upto stringsBackSpec)

/-- 'wharfingerlaw03.StringsAgain', WHERE WHAT IT READS IS OF BULK AT MOST 1048576: true; the input reads as it did. -/
def stringsAgainUptoRow : OpenClaim := { program := "ytmeampolndpjeaa", sum := "dc20ada16335649ca4308362d52550651c3077469d2564161ae7186dffa9ecd0", func := "wharfinger/wharfingerlaw03.StringsAgain", spec := "stringsAgain", inPlace := ["internal/bytealg.IndexByteString"], unfollowed := true, recurses := true, apart := false, narrowed := true }
def StringsAgainUptoSaid : Prop := stringsAgainUptoRow.holds Try.pinned (OpenSpec.upto stringsAgainSpec)

/-- 'wharfingerlaw03.StringsNames', WHERE WHAT IT READS IS OF BULK AT MOST 1048576: true; the input reads as it did. -/
def stringsNamesUptoRow : OpenClaim := { program := "ytmeampolndpjeaa", sum := "dc20ada16335649ca4308362d52550651c3077469d2564161ae7186dffa9ecd0", func := "wharfinger/wharfingerlaw03.StringsNames", spec := "stringsNames", inPlace := ["internal/bytealg.IndexByteString"], unfollowed := true, recurses := true, apart := false, narrowed := true }
def StringsNamesUptoSaid : Prop := stringsNamesUptoRow.holds Try.pinned (OpenSpec.upto stringsNamesSpec)

/-- 'wharfingerlaw03.StringsBytes', WHERE WHAT IT READS IS OF BULK AT MOST 1048576: true; the input reads as it did. -/
def stringsBytesUptoRow : OpenClaim := { program := "ytmeampolndpjeaa", sum := "dc20ada16335649ca4308362d52550651c3077469d2564161ae7186dffa9ecd0", func := "wharfinger/wharfingerlaw03.StringsBytes", spec := "stringsBytes", inPlace := ["internal/bytealg.IndexByteString"], unfollowed := true, recurses := true, apart := false, narrowed := true }
def StringsBytesUptoSaid : Prop := stringsBytesUptoRow.holds Try.pinned (OpenSpec.upto stringsBytesSpec)

end Rows
end Go.Proofs.Ytmeampolndpjeaa
