/- The walk of 'WordsYes': true for any bytes; nothing that was there turns. -/
import Derived.Test.YtkknlfmkhckgcaaBeyond
import Derived.Test.YtkknlfmkhckgcaaYes
import Derived.Test.YtkknlfmkhckgcaaRefYes
import Derived.Test.YtkknlfmkhckgcaaRef
import Derived.Test.YtkknlfmkhckgcaaTwin
import Derived.Test.YtkknlfmkhckgcaaLeft
import Derived.WalkSmall
namespace Go.Proofs.Ytkknlfmkhckgcaa
set_option linter.unusedVariables false
open Go.RowKit

set_option maxHeartbeats 800000 in
theorem yes_walk (a : Option Addr) (len cap : Nat) (zs : List Int) (w : World) (hlc : len ≤ cap) (hm : cap ≤ 9223372036854775807) (hz : zs.length = len) (hb : Byt zs) (hs : Seg w a zs) :
    Calls Try.prog 5 #[.slice a len cap] w fun e w' => e = .returned (.bool true) ∧ Below w.heap.size w w' := by
  by_cases hl : 1048576 < len
  · go_enter Try.func5, Try.ntmps5
    go_wp2_with (go_at_call 8; refine (beyond_yes (len : Int) _ _ (by omega) (by omega) (by simp)).mono ?_; rintro e w' ⟨rfl, rfl⟩)
    go_ret
    exact ⟨rfl, (Below.refl _ _).alloc (Nat.le_refl _) _⟩
  · have q1 : (getY zs == getY zs) = true := by simp
    have q2 : (getG zs == getG zs) = true := by simp
    go_enter Try.func5, Try.ntmps5
    go_wp2_with (go_at_call 8; refine (beyond_no (len : Int) _ _ (by omega) (by omega) (by simp)).mono ?_; rintro e w' ⟨rfl, rfl⟩)
    have hb1 : Below w.heap.size w (w.alloc (.cells #[.int .i64 (len : Int)] 3)) := (Below.refl _ _).alloc (Nat.le_refl _) _
    generalize w.alloc (.cells #[.int .i64 (len : Int)] 3) = w1 at hb1 ⊢
    have hs1 := hs.below hb1
    refine (twin a len cap zs _ (by omega) hz hs1).mono ?_
    rintro e w2 ⟨g, rfl, hb2, hg, ht⟩
    have hs2 := hs1.below hb2
    have hbb : Below w.heap.size w w2 := hb1.trans (hb2.mono hb1.size)
    clear hb1 hb2 hs1 hs hg
    have hst := ht.seg
    go_wp2_with (first
      | (go_at_call 15; refine (getyes_any _ len (len + 1) zs _ (by omega) (by omega) hz hb hst).mono ?_; rintro e w' ⟨rfl, rfl⟩)
      | (go_at_call 16; refine (refgetyes_any _ len cap zs _ (by omega) (by omega) hz hb hs2).mono ?_; rintro e w' ⟨rfl, rfl⟩)
      | (go_at_call 12; refine (left g len _ cap zs _ (by omega) hz hs2 ht).mono ?_; rintro e w' ⟨rfl, n, rfl⟩))
    go_ret
    exact ⟨rfl, below_drewN hbb n⟩
end Go.Proofs.Ytkknlfmkhckgcaa
