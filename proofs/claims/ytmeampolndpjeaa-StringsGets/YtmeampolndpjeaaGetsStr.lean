/- The walk of 'StringsGets': true for any bytes and any bound; nothing that was there turns. -/
import Derived.Test.YtmeampolndpjeaaBeyond
import Derived.Test.YtmeampolndpjeaaLeft
import Derived.Test.YtmeampolndpjeaaStrPG
import Derived.Test.YtmeampolndpjeaaRefGetOpq
import Derived.WalkSmall
namespace Go.Proofs.Ytmeampolndpjeaa
set_option linter.unusedVariables false
open Go.RowKit

set_option maxRecDepth 100000 in
set_option maxHeartbeats 400000 in
theorem refstrget_any (a : Option Addr) (len cap : Nat) (most : Int) (zs : List Int) (w : World) (hlc : len ≤ cap) (hm : cap ≤ 9223372036854775807) (hl : len ≤ 1048576) (hz : zs.length = len) (hb : Byt zs) (hs : Seg w a zs) (hn : -9223372036854775808 ≤ most) (hn2 : most ≤ 9223372036854775807) :
    Calls Try.prog 11 #[.slice a len cap, .int .i64 most] w fun e w' => e = .returned (.tuple #[.string (strOfNums (opZ zs most)), .int .i64 (opL zs most : Nat), .int .i64 (opE zs most)]) ∧ Below w.heap.size w w' := by
  go_enter Try.func11, Try.ntmps11
  go_wp2_with fail
  refine (refgetopq_any a len cap most zs w hlc hm hl hz hb hs hn hn2).mono ?_
  rintro e w1 ⟨v, rfl, hown, hB⟩
  have ht := own_text hown rfl
  go_wp2
  go_ret3
  exact ⟨rfl, hB⟩

set_option maxRecDepth 100000 in
set_option maxHeartbeats 1000000 in
theorem gets_walk (a : Option Addr) (len cap : Nat) (most : Int) (zs : List Int) (w : World) (hlc : len ≤ cap) (hm : cap ≤ 9223372036854775807) (hz : zs.length = len) (hb : Byt zs) (hs : Seg w a zs) (hn : -9223372036854775808 ≤ most) (hn2 : most ≤ 9223372036854775807) :
    Calls Try.prog 3 #[.slice a len cap, .int .i64 most] w fun e w' => e = .returned (.bool true) ∧ Below w.heap.size w w' := by
  by_cases hl : 1048576 < len
  · go_enter Try.func3, Try.ntmps3
    go_wp2_with (go_at_call 8; refine (beyond_yes (len : Int) _ _ (by omega) (by omega) (by simp)).mono ?_; rintro e w' ⟨rfl, rfl⟩)
    go_ret
    exact ⟨rfl, (Below.refl _ _).alloc (Nat.le_refl _) _⟩
  · go_enter Try.func3, Try.ntmps3
    go_wp2_with (go_at_call 8; refine (beyond_no (len : Int) _ _ (by omega) (by omega) (by simp)).mono ?_; rintro e w' ⟨rfl, rfl⟩)
    have hb1 : Below w.heap.size w (w.alloc (.cells #[.int .i64 (len : Int)] 3)) := (Below.refl _ _).alloc (Nat.le_refl _) _
    generalize w.alloc (.cells #[.int .i64 (len : Int)] 3) = w1 at hb1 ⊢
    have hs1 := hs.below hb1
    refine (twin a len cap zs _ (by omega) hz hs1).mono ?_
    rintro e w2 ⟨g, rfl, hb2, hg, ht⟩
    have hs2 := hs1.below hb2
    have hB2 : Below w.heap.size w w2 := hb1.trans (hb2.mono hb1.size)
    clear hb1 hb2 hs1 hs hg
    go_wp2_with fail
    refine (strget_any _ len (len + 1) most zs w2 (by omega) (by omega) hz hb ht.seg hn hn2).mono ?_
    rintro e w3 ⟨rfl, hb3⟩
    have hB3 := hB2.trans (hb3.mono hB2.size)
    have hs3 := hs2.below hb3
    have ht3 := ht.below hb3
    clear hb3 hB2 hs2 ht
    go_wp2_with fail
    refine (refstrget_any a len cap most zs w3 hlc hm (by omega) hz hb hs3 hn hn2).mono ?_
    rintro e w4 ⟨rfl, hb4⟩
    have hB4 := hB3.trans (hb4.mono hB3.size)
    have hs4 := hs3.below hb4
    have ht4 := ht3.below hb4
    clear hb4 hB3 hs3 ht3
    generalize strOfNums (opZ zs most) = t at *
    generalize opE zs most = e0 at *
    generalize opL zs most = l0 at *
    have q1 : (e0 == e0) = true := by simp
    have q2 : ((l0 : Int) == (l0 : Int)) = true := by simp
    have q3 : (t.toList == t.toList) = true := by simp
    go_wp2_with fail
    refine (left g len a cap zs _ (by omega) hz hs4 ht4).mono ?_
    rintro e w' ⟨rfl, n, rfl⟩
    go_wp2
    go_ret
    exact ⟨rfl, below_drewN hB4 n⟩
end Go.Proofs.Ytmeampolndpjeaa
