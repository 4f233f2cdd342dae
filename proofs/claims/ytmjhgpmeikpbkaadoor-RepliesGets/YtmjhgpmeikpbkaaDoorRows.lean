/-
  NARROWER THAN 'FOR EVERY INPUT', by the rows' own cells (each row's printed sentence says how): RepliesPuts: laid · RepliesGets: laid · RepliesBack: laid · RepliesAgain: laid · RepliesRows: laid · RepliesOdd: laid.
  DERIVED. THE GIVEN ROWS OF THIS SEAT. 6 by the template 'for every input the law returns true; each argument reads behind the call as it read before'; 0 by the template 'total and deterministic' (their statements: YtmjhgpmeikpbkaaDoorTotals.lean).
  GIVEN WITH THE SEED: the statements are not yours to turn. If you find one false, say at which input.
  Laid BY PROGRAM, IN A SANDBOX (cutbox-rows.mjs): the forced cells as the released guide's own fill.sh prints them over the translation 8e0c40c7b9b6de90… (all of the seat's roots in one cut). By AI agents, Wed Nov 11 2026. No macro, syntax, notation, axiom, sorry.
-/
import Derived.Test.YtmjhgpmeikpbkaaDoorChecked
import GoSem.Claim
import GoSem.ClaimJoined
import GoSem.ClaimMapViews
import Derived.JoinedTies
import Derived.KernelRfl
namespace Go.Proofs.YtmjhgpmeikpbkaaDoor
/- THE CELL 'sum', in the pinned program and in every row, IS THE sha256 OF THE DUMP (.gsa) THAT YtmjhgpmeikpbkaaDoorProg.lean LOADS. Nothing in Lean hashes anything: it is a label: what it is worth is what the hold of that sum in a sandbox is worth. -/
noncomputable def Tryd.pinned : Pinned := { name := "ytmjhgpmeikpbkaadoor", sum := "8e0c40c7b9b6de90eef445051d3aeb6719ad1586c32c3f229ae0448cb0000c04", checked := Tryd.checked }
namespace Rows
def none {H : Type} : Left H := { results := [], args := [] }

/- WHAT THE LISTED PACKAGE-LEVEL VARIABLES READ AS WHEN THE CALL BEGINS. Each datum BY PROGRAM (the guide's laid-datum.mjs) off the statement by which the dump's own 'gosem.cut.vars' lays the variable. In a bare row this is a premise. The card (YtmjhgpmeikpbkaaDoorCards.lean) ties it to the program's text. -/
def laid_math_bits_deBruijn32tab {H : Type} : DataW H := .agg [.lit (.int .u8 0), .lit (.int .u8 1), .lit (.int .u8 28), .lit (.int .u8 2), .lit (.int .u8 29), .lit (.int .u8 14), .lit (.int .u8 24), .lit (.int .u8 3), .lit (.int .u8 30), .lit (.int .u8 22), .lit (.int .u8 20), .lit (.int .u8 15), .lit (.int .u8 25), .lit (.int .u8 17), .lit (.int .u8 4), .lit (.int .u8 8), .lit (.int .u8 31), .lit (.int .u8 27), .lit (.int .u8 13), .lit (.int .u8 23), .lit (.int .u8 21), .lit (.int .u8 19), .lit (.int .u8 16), .lit (.int .u8 7), .lit (.int .u8 26), .lit (.int .u8 12), .lit (.int .u8 18), .lit (.int .u8 6), .lit (.int .u8 11), .lit (.int .u8 5), .lit (.int .u8 10), .lit (.int .u8 9)]
def laid_math_bits_deBruijn64tab {H : Type} : DataW H := .agg [.lit (.int .u8 0), .lit (.int .u8 1), .lit (.int .u8 56), .lit (.int .u8 2), .lit (.int .u8 57), .lit (.int .u8 49), .lit (.int .u8 28), .lit (.int .u8 3), .lit (.int .u8 61), .lit (.int .u8 58), .lit (.int .u8 42), .lit (.int .u8 50), .lit (.int .u8 38), .lit (.int .u8 29), .lit (.int .u8 17), .lit (.int .u8 4), .lit (.int .u8 62), .lit (.int .u8 47), .lit (.int .u8 59), .lit (.int .u8 36), .lit (.int .u8 45), .lit (.int .u8 43), .lit (.int .u8 51), .lit (.int .u8 22), .lit (.int .u8 53), .lit (.int .u8 39), .lit (.int .u8 33), .lit (.int .u8 30), .lit (.int .u8 24), .lit (.int .u8 18), .lit (.int .u8 12), .lit (.int .u8 5), .lit (.int .u8 63), .lit (.int .u8 55), .lit (.int .u8 48), .lit (.int .u8 27), .lit (.int .u8 60), .lit (.int .u8 41), .lit (.int .u8 37), .lit (.int .u8 16), .lit (.int .u8 46), .lit (.int .u8 35), .lit (.int .u8 44), .lit (.int .u8 21), .lit (.int .u8 52), .lit (.int .u8 32), .lit (.int .u8 23), .lit (.int .u8 11), .lit (.int .u8 54), .lit (.int .u8 26), .lit (.int .u8 40), .lit (.int .u8 15), .lit (.int .u8 34), .lit (.int .u8 20), .lit (.int .u8 31), .lit (.int .u8 10), .lit (.int .u8 25), .lit (.int .u8 14), .lit (.int .u8 19), .lit (.int .u8 9), .lit (.int .u8 13), .lit (.int .u8 8), .lit (.int .u8 7), .lit (.int .u8 6)]
def laid_internal_strconv_uint64pow10 {H : Type} : DataW H := .agg [.lit (.int .u64 1), .lit (.int .u64 10), .lit (.int .u64 100), .lit (.int .u64 1000), .lit (.int .u64 10000), .lit (.int .u64 100000), .lit (.int .u64 1000000), .lit (.int .u64 10000000), .lit (.int .u64 100000000), .lit (.int .u64 1000000000), .lit (.int .u64 10000000000), .lit (.int .u64 100000000000), .lit (.int .u64 1000000000000), .lit (.int .u64 10000000000000), .lit (.int .u64 100000000000000), .lit (.int .u64 1000000000000000), .lit (.int .u64 10000000000000000), .lit (.int .u64 100000000000000000), .lit (.int .u64 1000000000000000000), .lit (.int .u64 10000000000000000000)]
def laid_wharfinger_replies_anyNumber {H : Type} : DataW H := .agg [.lit (.int .u32 0), .lit (.int .u32 4294967295)]

/-- 'wharfingerlaw07.RepliesPuts': WHATEVER THE INPUT: true; the input reads as it did. -/
def repliesPutsSpec : ChangeSpec := { name := "repliesPuts", fn := fun _ => fun
  | [d] => { results := [.lit (.bool true)], args := [d] }
  | _ => none }
def repliesPutsRow : OpenClaim := { program := "ytmjhgpmeikpbkaadoor", sum := "8e0c40c7b9b6de90eef445051d3aeb6719ad1586c32c3f229ae0448cb0000c04", func := "wharfinger/wharfingerlaw07.RepliesPuts", spec := "repliesPuts", unfollowed := true, recurses := true, named := ["wharfinger/replies.anyNumber", "internal/strconv.uint64pow10", "math/bits.deBruijn32tab", "math/bits.deBruijn64tab"], apart := false, laid := [("math/bits.deBruijn32tab", laid_math_bits_deBruijn32tab), ("math/bits.deBruijn64tab", laid_math_bits_deBruijn64tab), ("internal/strconv.uint64pow10", laid_internal_strconv_uint64pow10), ("wharfinger/replies.anyNumber", laid_wharfinger_replies_anyNumber)] }
def RepliesPutsSaid : Prop := repliesPutsRow.holds Tryd.pinned (OpenSpec.ofChange repliesPutsSpec)

/-- ITS FALSE NEIGHBOUR: 'it returns false'. Refute it at one input. -/
def repliesPutsWrong : ChangeSpec := { name := "repliesPuts", fn := fun _ => fun
  | [d] => { results := [.lit (.bool false)], args := [d] }
  | _ => none }
def RepliesPutsWrongFalsely : Prop := repliesPutsRow.holds Tryd.pinned (OpenSpec.ofChange repliesPutsWrong)

/-- 'wharfingerlaw07.RepliesGets': WHATEVER THE INPUT: true; the input reads as it did. -/
def repliesGetsSpec : ChangeSpec := { name := "repliesGets", fn := fun _ => fun
  | [d] => { results := [.lit (.bool true)], args := [d] }
  | _ => none }
def repliesGetsRow : OpenClaim := { program := "ytmjhgpmeikpbkaadoor", sum := "8e0c40c7b9b6de90eef445051d3aeb6719ad1586c32c3f229ae0448cb0000c04", func := "wharfinger/wharfingerlaw07.RepliesGets", spec := "repliesGets", named := ["wharfinger/replies.anyNumber", "internal/strconv.uint64pow10", "math/bits.deBruijn32tab", "math/bits.deBruijn64tab"], apart := false, laid := [("math/bits.deBruijn32tab", laid_math_bits_deBruijn32tab), ("math/bits.deBruijn64tab", laid_math_bits_deBruijn64tab), ("internal/strconv.uint64pow10", laid_internal_strconv_uint64pow10), ("wharfinger/replies.anyNumber", laid_wharfinger_replies_anyNumber)] }
def RepliesGetsSaid : Prop := repliesGetsRow.holds Tryd.pinned (OpenSpec.ofChange repliesGetsSpec)

/-- ITS FALSE NEIGHBOUR: 'it returns false'. Refute it at one input. -/
def repliesGetsWrong : ChangeSpec := { name := "repliesGets", fn := fun _ => fun
  | [d] => { results := [.lit (.bool false)], args := [d] }
  | _ => none }
def RepliesGetsWrongFalsely : Prop := repliesGetsRow.holds Tryd.pinned (OpenSpec.ofChange repliesGetsWrong)

/-- 'wharfingerlaw07.RepliesBack': WHATEVER THE INPUT: true; the input reads as it did. -/
def repliesBackSpec : ChangeSpec := { name := "repliesBack", fn := fun _ => fun
  | [d] => { results := [.lit (.bool true)], args := [d] }
  | _ => none }
def repliesBackRow : OpenClaim := { program := "ytmjhgpmeikpbkaadoor", sum := "8e0c40c7b9b6de90eef445051d3aeb6719ad1586c32c3f229ae0448cb0000c04", func := "wharfinger/wharfingerlaw07.RepliesBack", spec := "repliesBack", unfollowed := true, recurses := true, named := ["wharfinger/replies.anyNumber"], apart := false, laid := [("wharfinger/replies.anyNumber", laid_wharfinger_replies_anyNumber)] }
def RepliesBackSaid : Prop := repliesBackRow.holds Tryd.pinned (OpenSpec.ofChange repliesBackSpec)

/-- ITS FALSE NEIGHBOUR: 'it returns false'. Refute it at one input. -/
def repliesBackWrong : ChangeSpec := { name := "repliesBack", fn := fun _ => fun
  | [d] => { results := [.lit (.bool false)], args := [d] }
  | _ => none }
def RepliesBackWrongFalsely : Prop := repliesBackRow.holds Tryd.pinned (OpenSpec.ofChange repliesBackWrong)

/-- 'wharfingerlaw07.RepliesAgain': WHATEVER THE INPUT: true; the input reads as it did. -/
def repliesAgainSpec : ChangeSpec := { name := "repliesAgain", fn := fun _ => fun
  | [d] => { results := [.lit (.bool true)], args := [d] }
  | _ => none }
def repliesAgainRow : OpenClaim := { program := "ytmjhgpmeikpbkaadoor", sum := "8e0c40c7b9b6de90eef445051d3aeb6719ad1586c32c3f229ae0448cb0000c04", func := "wharfinger/wharfingerlaw07.RepliesAgain", spec := "repliesAgain", unfollowed := true, recurses := true, named := ["wharfinger/replies.anyNumber"], apart := false, laid := [("wharfinger/replies.anyNumber", laid_wharfinger_replies_anyNumber)] }
def RepliesAgainSaid : Prop := repliesAgainRow.holds Tryd.pinned (OpenSpec.ofChange repliesAgainSpec)

/-- ITS FALSE NEIGHBOUR: 'it returns false'. Refute it at one input. -/
def repliesAgainWrong : ChangeSpec := { name := "repliesAgain", fn := fun _ => fun
  | [d] => { results := [.lit (.bool false)], args := [d] }
  | _ => none }
def RepliesAgainWrongFalsely : Prop := repliesAgainRow.holds Tryd.pinned (OpenSpec.ofChange repliesAgainWrong)

/-- 'wharfingerlaw07.RepliesRows': WHATEVER THE INPUT: true; the input reads as it did. -/
def repliesRowsSpec : ChangeSpec := { name := "repliesRows", fn := fun _ => fun
  | [d1, d2, d3] => { results := [.lit (.bool true)], args := [d1, d2, d3] }
  | _ => none }
def repliesRowsRow : OpenClaim := { program := "ytmjhgpmeikpbkaadoor", sum := "8e0c40c7b9b6de90eef445051d3aeb6719ad1586c32c3f229ae0448cb0000c04", func := "wharfinger/wharfingerlaw07.RepliesRows", spec := "repliesRows", unfollowed := true, recurses := true, named := ["wharfinger/replies.anyNumber"], apart := false, laid := [("wharfinger/replies.anyNumber", laid_wharfinger_replies_anyNumber)] }
def RepliesRowsSaid : Prop := repliesRowsRow.holds Tryd.pinned (OpenSpec.ofChange repliesRowsSpec)

/-- ITS FALSE NEIGHBOUR: 'it returns false'. Refute it at one input. -/
def repliesRowsWrong : ChangeSpec := { name := "repliesRows", fn := fun _ => fun
  | [d1, d2, d3] => { results := [.lit (.bool false)], args := [d1, d2, d3] }
  | _ => none }
def RepliesRowsWrongFalsely : Prop := repliesRowsRow.holds Tryd.pinned (OpenSpec.ofChange repliesRowsWrong)

/-- 'wharfingerlaw07.RepliesOdd': WHATEVER THE INPUT: true; the input reads as it did. -/
def repliesOddSpec : ChangeSpec := { name := "repliesOdd", fn := fun _ => fun
  | [d] => { results := [.lit (.bool true)], args := [d] }
  | _ => none }
def repliesOddRow : OpenClaim := { program := "ytmjhgpmeikpbkaadoor", sum := "8e0c40c7b9b6de90eef445051d3aeb6719ad1586c32c3f229ae0448cb0000c04", func := "wharfinger/wharfingerlaw07.RepliesOdd", spec := "repliesOdd", unfollowed := true, recurses := true, named := ["wharfinger/replies.anyNumber"], apart := false, laid := [("wharfinger/replies.anyNumber", laid_wharfinger_replies_anyNumber)] }
def RepliesOddSaid : Prop := repliesOddRow.holds Tryd.pinned (OpenSpec.ofChange repliesOddSpec)

/-- ITS FALSE NEIGHBOUR: 'it returns false'. Refute it at one input. -/
def repliesOddWrong : ChangeSpec := { name := "repliesOdd", fn := fun _ => fun
  | [d] => { results := [.lit (.bool false)], args := [d] }
  | _ => none }
def RepliesOddWrongFalsely : Prop := repliesOddRow.holds Tryd.pinned (OpenSpec.ofChange repliesOddWrong)

/- THE SECOND FORM. 'bulk': how many values and letters a reading holds, each counted each time it is reached (what is shared counts as often as it is met; a slice's spare places count too). A statement '..UptoSaid' is the law's where the arguments, and the package variables that the reading takes, are together of bulk at most 1048576: NARROWER than '..Said'. Prove '..Said' where nothing that the law and all that it calls make is longer than what came in: it says more and counts as full. Else prove '..UptoSaid'. A law counts once. -/
mutual
def uptoBulk {H : Type} : DataW H → Nat
  | .lit (.string bytes) => bytes.length + 1
  | .lit _ => 1
  | .nil => 1
  | .ptr d => uptoBulk d + 1
  | .slice elems spare => uptoBulkAll elems + uptoBulkAll spare + 1
  | .agg parts => uptoBulkAll parts + 1
  | .iface _ d => uptoBulk d + 1
  | .map entries => uptoBulkEntries entries + 1
  | .held _ => 1
def uptoBulkAll {H : Type} : List (DataW H) → Nat
  | [] => 0
  | d :: r => uptoBulk d + uptoBulkAll r
def uptoBulkEntries {H : Type} : List (Lit × DataW H) → Nat
  | [] => 0
  | x :: r => uptoBulkEntry x + uptoBulkEntries r
def uptoBulkEntry {H : Type} : Lit × DataW H → Nat
  | (.string bytes, d) => bytes.length + uptoBulk d + 1
  | (_, d) => uptoBulk d + 1
 end
def uptoSmall : (H : Type) → List (DataW H) → Bool := fun _ ds => decide (uptoBulkAll ds ≤ 1048576)
def OpenSpec.upto (s : _root_.Go.ChangeSpec) : _root_.Go.OpenSpec := { _root_.Go.OpenSpec.ofChange s with cond := some uptoSmall }

/-- 'wharfingerlaw07.RepliesPuts', WHERE WHAT IT READS IS OF BULK AT MOST 1048576: true; the input reads as it did. -/
def repliesPutsUptoRow : OpenClaim := { program := "ytmjhgpmeikpbkaadoor", sum := "8e0c40c7b9b6de90eef445051d3aeb6719ad1586c32c3f229ae0448cb0000c04", func := "wharfinger/wharfingerlaw07.RepliesPuts", spec := "repliesPuts", unfollowed := true, recurses := true, named := ["wharfinger/replies.anyNumber", "internal/strconv.uint64pow10", "math/bits.deBruijn32tab", "math/bits.deBruijn64tab"], apart := false, laid := [("math/bits.deBruijn32tab", laid_math_bits_deBruijn32tab), ("math/bits.deBruijn64tab", laid_math_bits_deBruijn64tab), ("internal/strconv.uint64pow10", laid_internal_strconv_uint64pow10), ("wharfinger/replies.anyNumber", laid_wharfinger_replies_anyNumber)], narrowed := true }
def RepliesPutsUptoSaid : Prop := repliesPutsUptoRow.holds Tryd.pinned (OpenSpec.upto repliesPutsSpec)

/-- 'wharfingerlaw07.RepliesGets', WHERE WHAT IT READS IS OF BULK AT MOST 1048576: true; the input reads as it did. -/
def repliesGetsUptoRow : OpenClaim := { program := "ytmjhgpmeikpbkaadoor", sum := "8e0c40c7b9b6de90eef445051d3aeb6719ad1586c32c3f229ae0448cb0000c04", func := "wharfinger/wharfingerlaw07.RepliesGets", spec := "repliesGets", named := ["wharfinger/replies.anyNumber", "internal/strconv.uint64pow10", "math/bits.deBruijn32tab", "math/bits.deBruijn64tab"], apart := false, laid := [("math/bits.deBruijn32tab", laid_math_bits_deBruijn32tab), ("math/bits.deBruijn64tab", laid_math_bits_deBruijn64tab), ("internal/strconv.uint64pow10", laid_internal_strconv_uint64pow10), ("wharfinger/replies.anyNumber", laid_wharfinger_replies_anyNumber)], narrowed := true }
def RepliesGetsUptoSaid : Prop := repliesGetsUptoRow.holds Tryd.pinned (OpenSpec.upto repliesGetsSpec)

/-- 'wharfingerlaw07.RepliesBack', WHERE WHAT IT READS IS OF BULK AT MOST 1048576: true; the input reads as it did. -/
def repliesBackUptoRow : OpenClaim := { program := "ytmjhgpmeikpbkaadoor", sum := "8e0c40c7b9b6de90eef445051d3aeb6719ad1586c32c3f229ae0448cb0000c04", func := "wharfinger/wharfingerlaw07.RepliesBack", spec := "repliesBack", unfollowed := true, recurses := true, named := ["wharfinger/replies.anyNumber"], apart := false, laid := [("wharfinger/replies.anyNumber", laid_wharfinger_replies_anyNumber)], narrowed := true }
def RepliesBackUptoSaid : Prop := repliesBackUptoRow.holds Tryd.pinned (OpenSpec.upto repliesBackSpec)

/-- 'wharfingerlaw07.RepliesAgain', WHERE WHAT IT READS IS OF BULK AT MOST 1048576: true; the input reads as it did. -/
def repliesAgainUptoRow : OpenClaim := { program := "ytmjhgpmeikpbkaadoor", sum := "8e0c40c7b9b6de90eef445051d3aeb6719ad1586c32c3f229ae0448cb0000c04", func := "wharfinger/wharfingerlaw07.RepliesAgain", spec := "repliesAgain", unfollowed := true, recurses := true, named := ["wharfinger/replies.anyNumber"], apart := false, laid := [("wharfinger/replies.anyNumber", laid_wharfinger_replies_anyNumber)], narrowed := true }
def RepliesAgainUptoSaid : Prop := repliesAgainUptoRow.holds Tryd.pinned (OpenSpec.upto repliesAgainSpec)

/-- 'wharfingerlaw07.RepliesRows', WHERE WHAT IT READS IS OF BULK AT MOST 1048576: true; the input reads as it did. -/
def repliesRowsUptoRow : OpenClaim := { program := "ytmjhgpmeikpbkaadoor", sum := "8e0c40c7b9b6de90eef445051d3aeb6719ad1586c32c3f229ae0448cb0000c04", func := "wharfinger/wharfingerlaw07.RepliesRows", spec := "repliesRows", unfollowed := true, recurses := true, named := ["wharfinger/replies.anyNumber"], apart := false, laid := [("wharfinger/replies.anyNumber", laid_wharfinger_replies_anyNumber)], narrowed := true }
def RepliesRowsUptoSaid : Prop := repliesRowsUptoRow.holds Tryd.pinned (OpenSpec.upto repliesRowsSpec)

/-- 'wharfingerlaw07.RepliesOdd', WHERE WHAT IT READS IS OF BULK AT MOST 1048576: true; the input reads as it did. -/
def repliesOddUptoRow : OpenClaim := { program := "ytmjhgpmeikpbkaadoor", sum := "8e0c40c7b9b6de90eef445051d3aeb6719ad1586c32c3f229ae0448cb0000c04", func := "wharfinger/wharfingerlaw07.RepliesOdd", spec := "repliesOdd", unfollowed := true, recurses := true, named := ["wharfinger/replies.anyNumber"], apart := false, laid := [("wharfinger/replies.anyNumber", laid_wharfinger_replies_anyNumber)], narrowed := true }
def RepliesOddUptoSaid : Prop := repliesOddUptoRow.holds Tryd.pinned (OpenSpec.upto repliesOddSpec)

end Rows
end Go.Proofs.YtmjhgpmeikpbkaaDoor
