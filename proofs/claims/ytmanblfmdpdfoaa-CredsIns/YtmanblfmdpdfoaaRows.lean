/-
  No cell of these rows narrows 'for every input' (looked for: loops, veiled, ifaces, maps, wideKeys, modest, calm, conditions, laid).
  DERIVED. THE GIVEN ROWS OF THIS SEAT. 4 by the template 'for every input the law returns true; each argument reads behind the call as it read before'; 0 by the template 'total and deterministic' (their statements: YtmanblfmdpdfoaaTotals.lean).
  GIVEN WITH THE SEED: the statements are not yours to turn. If you find one false, say at which input.
  Laid BY PROGRAM, IN A SANDBOX (cutbox-rows.mjs): the forced cells as the released guide's own fill.sh prints them over the translation a82feaff68bcdcdd… (all of the seat's roots in one cut). By AI agents, Wed Nov 11 2026. No macro, syntax, notation, axiom, sorry.
-/
import Derived.Test.YtmanblfmdpdfoaaChecked
import GoSem.Claim
import GoSem.ClaimJoined
import GoSem.ClaimMapViews
import Derived.JoinedTies
import Derived.KernelRfl
namespace Go.Proofs.Ytmanblfmdpdfoaa
/- THE CELL 'sum', in the pinned program and in every row, IS THE sha256 OF THE DUMP (.gsa) THAT YtmanblfmdpdfoaaProg.lean LOADS. Nothing in Lean hashes anything: it is a label: what it is worth is what the hold of that sum in a sandbox is worth. -/
noncomputable def Try.pinned : Pinned := { name := "ytmanblfmdpdfoaa", sum := "a82feaff68bcdcddface80d4c3cf7a861ac6b611365ad3e018faab2b9824c1a0", checked := Try.checked }
namespace Rows
def none {H : Type} : Left H := { results := [], args := [] }

/-- 'wharfingerlaw05.CredsIns': WHATEVER THE INPUT: true; the input reads as it did. -/
def credsInsSpec : ChangeSpec := { name := "credsIns", fn := fun _ => fun
  | [d1, d2] => { results := [.lit (.bool true)], args := [d1, d2] }
  | _ => none }
def credsInsRow : OpenClaim := { program := "ytmanblfmdpdfoaa", sum := "a82feaff68bcdcddface80d4c3cf7a861ac6b611365ad3e018faab2b9824c1a0", func := "wharfinger/wharfingerlaw05.CredsIns", spec := "credsIns", apart := false }
def CredsInsSaid : Prop := credsInsRow.holds Try.pinned (OpenSpec.ofChange credsInsSpec)

/-- ITS FALSE NEIGHBOUR: 'it returns false'. Refute it at one input. -/
def credsInsWrong : ChangeSpec := { name := "credsIns", fn := fun _ => fun
  | [d1, d2] => { results := [.lit (.bool false)], args := [d1, d2] }
  | _ => none }
def CredsInsWrongFalsely : Prop := credsInsRow.holds Try.pinned (OpenSpec.ofChange credsInsWrong)

/-- 'wharfingerlaw05.CredsBack': WHATEVER THE INPUT: true; the input reads as it did. -/
def credsBackSpec : ChangeSpec := { name := "credsBack", fn := fun _ => fun
  | [d1, d2, d3] => { results := [.lit (.bool true)], args := [d1, d2, d3] }
  | _ => none }
def credsBackRow : OpenClaim := { program := "ytmanblfmdpdfoaa", sum := "a82feaff68bcdcddface80d4c3cf7a861ac6b611365ad3e018faab2b9824c1a0", func := "wharfinger/wharfingerlaw05.CredsBack", spec := "credsBack", unfollowed := true, recurses := true, apart := false }
def CredsBackSaid : Prop := credsBackRow.holds Try.pinned (OpenSpec.ofChange credsBackSpec)

/-- ITS FALSE NEIGHBOUR: 'it returns false'. Refute it at one input. -/
def credsBackWrong : ChangeSpec := { name := "credsBack", fn := fun _ => fun
  | [d1, d2, d3] => { results := [.lit (.bool false)], args := [d1, d2, d3] }
  | _ => none }
def CredsBackWrongFalsely : Prop := credsBackRow.holds Try.pinned (OpenSpec.ofChange credsBackWrong)

/-- 'wharfingerlaw05.CredsAgain': WHATEVER THE INPUT: true; the input reads as it did. -/
def credsAgainSpec : ChangeSpec := { name := "credsAgain", fn := fun _ => fun
  | [d] => { results := [.lit (.bool true)], args := [d] }
  | _ => none }
def credsAgainRow : OpenClaim := { program := "ytmanblfmdpdfoaa", sum := "a82feaff68bcdcddface80d4c3cf7a861ac6b611365ad3e018faab2b9824c1a0", func := "wharfinger/wharfingerlaw05.CredsAgain", spec := "credsAgain", unfollowed := true, recurses := true, apart := false }
def CredsAgainSaid : Prop := credsAgainRow.holds Try.pinned (OpenSpec.ofChange credsAgainSpec)

/-- ITS FALSE NEIGHBOUR: 'it returns false'. Refute it at one input. -/
def credsAgainWrong : ChangeSpec := { name := "credsAgain", fn := fun _ => fun
  | [d] => { results := [.lit (.bool false)], args := [d] }
  | _ => none }
def CredsAgainWrongFalsely : Prop := credsAgainRow.holds Try.pinned (OpenSpec.ofChange credsAgainWrong)

/-- 'wharfingerlaw05.CredsParts': WHATEVER THE INPUT: true; the input reads as it did. -/
def credsPartsSpec : ChangeSpec := { name := "credsParts", fn := fun _ => fun
  | [d1, d2, d3] => { results := [.lit (.bool true)], args := [d1, d2, d3] }
  | _ => none }
def credsPartsRow : OpenClaim := { program := "ytmanblfmdpdfoaa", sum := "a82feaff68bcdcddface80d4c3cf7a861ac6b611365ad3e018faab2b9824c1a0", func := "wharfinger/wharfingerlaw05.CredsParts", spec := "credsParts", unfollowed := true, recurses := true, apart := false }
def CredsPartsSaid : Prop := credsPartsRow.holds Try.pinned (OpenSpec.ofChange credsPartsSpec)

/-- ITS FALSE NEIGHBOUR: 'it returns false'. Refute it at one input. -/
def credsPartsWrong : ChangeSpec := { name := "credsParts", fn := fun _ => fun
  | [d1, d2, d3] => { results := [.lit (.bool false)], args := [d1, d2, d3] }
  | _ => none }
def CredsPartsWrongFalsely : Prop := credsPartsRow.holds Try.pinned (OpenSpec.ofChange credsPartsWrong)

/- THE SECOND FORM. 'bulk': how many values and letters a reading holds, each counted each time it is reached (what is shared counts as often as it is met; a slice's spare places count too). A statement '..UptoSaid' is the law's where the arguments, and the package variables that the reading takes, are together of bulk at most 1048576: NARROWER than '..Said'. Prove '..Said' where nothing that the law and all that it calls make is longer than what came in: it says more and counts as full. Else prove '..UptoSaid'. A law counts once. -/
mutual
def uptoBulk {H : Type} : DataW H → Nat
  | .lit (.string bytes) => bytes.length + 1
  | .lit _ => 1
  | .nil => 1
  | .ptr d => uptoBulk d + 1
  | .slice elems spare => uptoBulkAll elems + uptoBulkAll spare + 1
  | .agg parts => uptoBulkAll parts + 1
  | .iface _ d => uptoBulk d + 1
  | .map entries => uptoBulkEntries entries + 1
  | .held _ => 1
def uptoBulkAll {H : Type} : List (DataW H) → Nat
  | [] => 0
  | d :: r => uptoBulk d + uptoBulkAll r
def uptoBulkEntries {H : Type} : List (Lit × DataW H) → Nat
  | [] => 0
  | x :: r => uptoBulkEntry x + uptoBulkEntries r
def uptoBulkEntry {H : Type} : Lit × DataW H → Nat
  | (.string bytes, d) => bytes.length + uptoBulk d + 1
  | (_, d) => uptoBulk d + 1
 end
def uptoSmall : (H : Type) → List (DataW H) → Bool := fun _ ds => decide (uptoBulkAll ds ≤ 1048576)
def OpenSpec.upto (s : _root_.Go.ChangeSpec) : _root_.Go.OpenSpec := { _root_.Go.OpenSpec.ofChange s with cond := some uptoSmall }

/-- 'wharfingerlaw05.CredsIns', WHERE WHAT IT READS IS OF BULK AT MOST 1048576: true; the input reads as it did. -/
def credsInsUptoRow : OpenClaim := { program := "ytmanblfmdpdfoaa", sum := "a82feaff68bcdcddface80d4c3cf7a861ac6b611365ad3e018faab2b9824c1a0", func := "wharfinger/wharfingerlaw05.CredsIns", spec := "credsIns", apart := false, narrowed := true }
def CredsInsUptoSaid : Prop := credsInsUptoRow.holds Try.pinned (OpenSpec.upto credsInsSpec)

/-- 'wharfingerlaw05.CredsBack', WHERE WHAT IT READS IS OF BULK AT MOST 1048576: true; the input reads as it did. -/
def credsBackUptoRow : OpenClaim := { program := "ytmanblfmdpdfoaa", sum := "a82feaff68bcdcddface80d4c3cf7a861ac6b611365ad3e018faab2b9824c1a0", func := "wharfinger/wharfingerlaw05.CredsBack", spec := "credsBack", unfollowed := true, recurses := true, apart := false, narrowed := true }
def CredsBackUptoSaid : Prop := credsBackUptoRow.holds Try.pinned (OpenSpec.upto credsBackSpec)

/-- 'wharfingerlaw05.CredsAgain', WHERE WHAT IT READS IS OF BULK AT MOST 1048576: true; the input reads as it did. -/
def credsAgainUptoRow : OpenClaim := { program := "ytmanblfmdpdfoaa", sum := "a82feaff68bcdcddface80d4c3cf7a861ac6b611365ad3e018faab2b9824c1a0", func := "wharfinger/wharfingerlaw05.CredsAgain", spec := "credsAgain", unfollowed := true, recurses := true, apart := false, narrowed := true }
def CredsAgainUptoSaid : Prop := credsAgainUptoRow.holds Try.pinned (OpenSpec.upto credsAgainSpec)

/-- 'wharfingerlaw05.CredsParts', WHERE WHAT IT READS IS OF BULK AT MOST 1048576: true; the input reads as it did. -/
def credsPartsUptoRow : OpenClaim := { program := "ytmanblfmdpdfoaa", sum := "a82feaff68bcdcddface80d4c3cf7a861ac6b611365ad3e018faab2b9824c1a0", func := "wharfinger/wharfingerlaw05.CredsParts", spec := "credsParts", unfollowed := true, recurses := true, apart := false, narrowed := true }
def CredsPartsUptoSaid : Prop := credsPartsUptoRow.holds Try.pinned (OpenSpec.upto credsPartsSpec)

end Rows
end Go.Proofs.Ytmanblfmdpdfoaa
