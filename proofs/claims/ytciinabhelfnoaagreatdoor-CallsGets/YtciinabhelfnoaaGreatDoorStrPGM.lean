/- 'Get' of a text: what the program answers (StrPut has 'Put'); nothing that was there turns. -/
import Derived.Test.YtciinabhelfnoaaGreatDoorTextsPiecesM
import Derived.Test.YtciinabhelfnoaaGreatDoorGetOpqM
namespace Go.Proofs.YtciinabhelfnoaaGreatDoor
set_option linter.unusedVariables false
open Go.RowKit

/-- What is owned, as a text. -/
theorem own_text {w : World} {base n : Nat} {v : Value} {zs : List Int} (h : w.ownsRow base 5 1 v n (zs.map (Value.int .u8))) (hz : zs.length = n) :
    (convert 22 9 v).run Tryz.prog w = .ok (.string (strOfNums zs)) w := by
  by_cases h0 : 0 < n
  · obtain ⟨g, c, rfl, _, _, _⟩ := own_shape h h0
    exact conv_text (seg_own h hz) hz
  · obtain rfl : n = 0 := by omega
    obtain rfl : zs = [] := List.length_eq_zero_iff.1 hz
    rcases h.2 with ⟨rfl, _⟩ | ⟨g, cap, _, rfl, _⟩
    · exact conv_text (.inl rfl) rfl
    · exact conv_text (.inl rfl) rfl

set_option maxRecDepth 100000 in
set_option maxHeartbeats 400000 in
theorem strget_any (a : Option Addr) (len cap : Nat) (most : Int) (zs : List Int) (w : World) (hlc : len ≤ cap) (hm : cap ≤ 9223372036854775807) (hz : zs.length = len) (hb : Byt zs) (hs : Seg w a zs) (hn : -9223372036854775808 ≤ most) (hn2 : most ≤ 9223372036854775807) :
    Calls Tryz.prog 92 #[.slice a len cap, .int .i64 most] w fun e w' => e = .returned (.tuple #[.string (strOfNums (opZ zs most)), .int .i64 (opL zs most : Nat), .int .i64 (opE zs most)]) ∧ Below w.heap.size w w' := by
  go_enter Tryz.func92, Tryz.ntmps92
  go_wp2_with fail
  refine (getopq_any a len cap most zs w hlc hm hz hb hs hn hn2).mono ?_
  rintro e w1 ⟨v, rfl, hown, hB⟩
  have ht := own_text hown rfl
  go_wp2
  go_ret3
  exact ⟨rfl, hB⟩
end Go.Proofs.YtciinabhelfnoaaGreatDoor
