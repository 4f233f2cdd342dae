/- 'noughts' of the program: whether all of these bytes are 0; nothing turns. -/
import Derived.Test.YtcpciodcecpibabRows
import Derived.Test.YtcpciodcecpibabBase
import Derived.Test.YtcpciodcecpibabPieces
import Derived.Test.YtcpciodcecpibabNoughtDef
import Derived.Outline
import Derived.WalkMore
import Derived.ScopeJumps
namespace Go.Proofs.Ytcpciodcecpibab
set_option linter.unusedVariables false
open Go.RowKit

/-- What stands in the slots at the label. -/
def NoughtAt (w : World) (b off len cap : Nat) (zs : List Int) (a' : Act) (w' : World) : Prop :=
  w' = w ∧ ∃ (k : Nat) (u4 u5 u6 u7 u8 u9 u10 u11 u12 u13 u14 : Value), a' = { tmps := #[.slice (some ⟨b, off, none⟩) len cap, undef, .bool false, .int .i64 k, u4, u5, u6, u7, u8, u9, u10, u11, u12, u13, u14], defers := [] } ∧ allNought (zs.take k) = true ∧ k ≤ len

def noughtLeft (len : Nat) (a' : Act) (_ : World) : Nat := len - (intOf (a'.tmps.getD 3 undef)).toNat

set_option maxHeartbeats 400000 in
theorem noughts_any (a : Option Addr) (len cap : Nat) (zs : List Int) (w : World) (hlc : len ≤ cap) (hm : cap ≤ 9223372036854775807) (hz : zs.length = len) (hb : Byt zs) (hs : Seg w a zs) :
    Calls Try.prog 23 #[.slice a len cap] w fun e w' => e = .returned (.bool (allNought zs)) ∧ w' = w := by
  by_cases h0 : len = 0
  · subst h0
    obtain rfl : zs = [] := List.length_eq_zero_iff.1 hz
    go_enter Try.func23, Try.ntmps23
    go_wp2
    go_step3
    go_wp2
    go_step3
    go_wp2
    try rw [Exit.noGoto_ret]
    go_ret
    exact ⟨rfl, rfl⟩
  · rcases hs with rfl | ⟨b, off, rfl, hc⟩
    · simp at hz; omega
    · go_enter Try.func23, Try.ntmps23
      go_wp2
      refine wp_scope_jumps 0 (NoughtAt w b off len cap zs) (noughtLeft len) rfl ?_ ?_
      · have hcx : w.cell? ⟨b, off, none⟩ = _ := hc 0 (by omega)
        have hn0 : allNought (zs.take 0) = true := rfl
        have hst := nought_step zs 0 hn0 (by omega)
        have hsp := nought_stop zs 0 (by omega)
        have hg : ((0 : Int) == (len : Int)) = false := by simp; omega
        generalize zs[0]?.getD 0 = x at hcx hst hsp
        clear hc
        by_cases hx : x = 0
        · subst hx
          replace hst := hst rfl
          go_wp2
          go_step3
          go_wp2
          go_step3
          exact ⟨rfl, rfl, 1, _, _, _, _, _, _, _, _, _, _, _, rfl, hst, by omega⟩
        · have hxx : (x != 0) = true := by simp [hx]
          go_wp2
          go_step3
          go_wp2
          rw [jump_ret]
          go_ret
          rw [hsp hx]
          exact ⟨rfl, rfl⟩
      · rintro a' w' ⟨rfl, k, u4, u5, u6, u7, u8, u9, u10, u11, u12, u13, u14, rfl, hall, hk⟩
        by_cases hlt : k < len
        · have hcx := hc k (by omega)
          have hst := nought_step zs k hall (by omega)
          have hsp := nought_stop zs k (by omega)
          have hg : ((k : Int) == (len : Int)) = false := by simp; omega
          generalize zs[k]?.getD 0 = x at hcx hst hsp
          clear hc
          by_cases hx : x = 0
          · subst hx
            replace hst := hst rfl
            go_wp2
            go_step3
            exact ⟨rfl, ⟨rfl, k + 1, _, _, _, _, _, _, _, _, _, _, _, by go_num, hst, by omega⟩, by simp [intOf, noughtLeft]; omega⟩
          · have hxx : (x != 0) = true := by simp [hx]
            go_wp2
            rw [jump_ret]
            go_ret
            rw [hsp hx]
            exact ⟨rfl, rfl⟩
        · obtain rfl : k = len := by omega
          have hg : ((k : Int) == (k : Int)) = true := by simp
          go_wp2
          rw [jump_ret]
          go_ret
          rw [List.take_of_length_le (by omega)] at hall
          rw [hall]
          exact ⟨rfl, rfl⟩
end Go.Proofs.Ytcpciodcecpibab
