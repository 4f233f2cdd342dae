/- 'Pad' of the program: how many bytes more than so many the next multiple of four is; 0 below 0; nothing turns. -/
import Derived.Test.YtciinabhelfnoaaGreatDoorRows
import Derived.Test.YtciinabhelfnoaaGreatDoorBase
import Derived.Outline
import Derived.Test.YtciinabhelfnoaaGreatDoorTextsPiecesM
import Derived.Test.YtciinabhelfnoaaGreatDoorNumBytesM
import Derived.WalkMore
import Derived.ScopeJumps
namespace Go.Proofs.YtciinabhelfnoaaGreatDoor
set_option linter.unusedVariables false
open Go.RowKit

/-- How many more than n the next multiple of four is. -/
def padN (n : Nat) : Nat := (4 - n % 4) % 4

theorem padN_lt (n : Nat) : padN n < 4 := by unfold padN; omega
theorem padN_four (n : Nat) : (n + padN n) % 4 = 0 := by unfold padN; omega

set_option maxRecDepth 100000 in
set_option maxHeartbeats 400000 in
theorem pad_nat (n : Nat) (w : World) (hn : n ≤ 9223372036854775807) :
    Calls Tryz.prog 88 #[.int .i64 (n : Int)] w fun e w' => e = .returned (.int .i64 (padN n : Nat)) ∧ w' = w := by
  go_enter Tryz.func88, Tryz.ntmps88
  go_wp2
  go_ret
  refine ⟨?_, rfl⟩
  show Ending.returned (.int .i64 ((4 - (n : Int) % 4) % 4)) = _
  rw [show (4 - (n : Int) % 4) % 4 = ((padN n : Nat) : Int) from by unfold padN; omega]

set_option maxRecDepth 100000 in
set_option maxHeartbeats 400000 in
theorem pad_neg (n : Int) (w : World) (hn : n < 0) (hm : -9223372036854775808 ≤ n) :
    Calls Tryz.prog 88 #[.int .i64 n] w fun e w' => e = .returned (.int .i64 0) ∧ w' = w := by
  go_enter Tryz.func88, Tryz.ntmps88
  go_wp2
  go_ret
  exact ⟨rfl, rfl⟩
end Go.Proofs.YtciinabhelfnoaaGreatDoor

/- Whether all of some bytes are 0: plain mathematics. -/
namespace Go.Proofs.YtciinabhelfnoaaGreatDoor
set_option linter.unusedVariables false

/-- All of them are 0. -/
def allNought (zs : List Int) : Bool := zs.all fun z => z == 0

theorem nought_step (zs : List Int) (k : Nat) (h : allNought (zs.take k) = true) (hk : k < zs.length) (hx : zs[k]?.getD 0 = 0) : allNought (zs.take (k + 1)) = true := by
  unfold allNought at *
  rw [List.take_succ_eq_append_getElem hk, List.all_append, h]
  rw [List.getElem?_eq_getElem hk, Option.getD_some] at hx
  simp [hx]

theorem nought_stop (zs : List Int) (k : Nat) (hk : k < zs.length) (hx : zs[k]?.getD 0 ≠ 0) : allNought zs = false := by
  unfold allNought
  rw [List.getElem?_eq_getElem hk, Option.getD_some] at hx
  rw [List.all_eq_false]
  exact ⟨zs[k], List.getElem_mem hk, by simpa using hx⟩
end Go.Proofs.YtciinabhelfnoaaGreatDoor

/- So many bytes with their padding: plain mathematics. -/
namespace Go.Proofs.YtciinabhelfnoaaGreatDoor
set_option linter.unusedVariables false
open Go.RowKit

/-- Which error: so many bytes with their padding, of these. -/
def fixE (zs : List Int) (n : Nat) : Int := if zs.length < n + padN n then 4 else if allNought ((zs.drop n).take (padN n)) then 0 else 5

theorem allNought_nil : allNought [] = true := rfl

/-- What 'taken' hands on. -/
def tookV (a : Option Addr) (zs : List Int) (n : Nat) : Value := if fixE zs n = 0 then .slice a n n else .slice none 0 0

theorem fixE_form {zs : List Int} {n : Nat} (h : n + padN n ≤ zs.length) : fixE zs n = if allNought ((zs.drop n).take (padN n)) then 0 else 5 := by
  unfold fixE
  rw [if_neg (by omega)]
end Go.Proofs.YtciinabhelfnoaaGreatDoor

/- What is got of so many bytes: the error, the bytes, how many they are (the mathematics; no function is named). -/
namespace Go.Proofs.YtciinabhelfnoaaGreatDoor
set_option linter.unusedVariables false
open Go.RowKit

/-- The error, the bytes, how many they are with the padding: so many of these bytes, as they stand ahead. -/
def cutZ (zs : List Int) (n : Nat) : List Int := if fixE zs n = 0 then zs.take n else []
def cutL (zs : List Int) (n : Nat) : Nat := if fixE zs n = 0 then n + padN n else 0

/-- The same, of any number. -/
def fxE (zs : List Int) (n : Int) : Int := if n < 0 ∨ 65536 < n then 1 else fixE zs n.toNat
def fxZ (zs : List Int) (n : Int) : List Int := if n < 0 ∨ 65536 < n then [] else cutZ zs n.toNat
def fxL (zs : List Int) (n : Int) : Nat := if n < 0 ∨ 65536 < n then 0 else cutL zs n.toNat

theorem fixE_len {zs : List Int} {n : Nat} (h : fixE zs n = 0) : n + padN n ≤ zs.length := by
  unfold fixE at h
  split at h
  · cases h
  · omega



theorem fixE_cases (zs : List Int) (n : Nat) : fixE zs n = 0 ∨ fixE zs n = 4 ∨ fixE zs n = 5 := by
  unfold fixE
  split
  · exact .inr (.inl rfl)
  · split
    · exact .inl rfl
    · exact .inr (.inr rfl)
end Go.Proofs.YtciinabhelfnoaaGreatDoor

/- Bytes with their length: plain mathematics. -/
namespace Go.Proofs.YtciinabhelfnoaaGreatDoor
set_option linter.unusedVariables false
open Go.RowKit

/-- The number ahead. -/
def toldN (zs : List Int) : Nat := (be (zs.take 4)).toNat

/-- The error, the bytes, how many they are with number and padding. -/
def opE (zs : List Int) (most : Int) : Int := if zs.length < 4 then 4 else if most < (toldN zs : Int) then 3 else fixE (zs.drop 4) (toldN zs)
def opZ (zs : List Int) (most : Int) : List Int := if opE zs most = 0 then (zs.drop 4).take (toldN zs) else []
def opL (zs : List Int) (most : Int) : Nat := if opE zs most = 0 then 4 + toldN zs + padN (toldN zs) else 0

theorem told_be {zs : List Int} (hb : Byt zs) (h : ¬ zs.length < 4) : getN zs = (toldN zs : Int) ∧ getE zs = 0 ∧ toldN zs ≤ 4294967295 := by
  have h1 := be_bound zs hb 4 (by omega)
  unfold getN getE toldN
  rw [if_neg h, if_neg h]
  generalize be (zs.take 4) = x at *
  refine ⟨by omega, rfl, by omega⟩

theorem Byt.nil : Byt [] := fun i => by simp
end Go.Proofs.YtciinabhelfnoaaGreatDoor

/- 'noughts' of the program: whether all of these bytes are 0; nothing turns. -/
namespace Go.Proofs.YtciinabhelfnoaaGreatDoor
set_option linter.unusedVariables false
open Go.RowKit

/-- What stands in the slots at the label. -/
def NoughtAt (w : World) (b off len cap : Nat) (zs : List Int) (a' : Act) (w' : World) : Prop :=
  w' = w ∧ ∃ (k : Nat) (u4 u5 u6 u7 u8 u9 u10 u11 u12 u13 u14 : Value), a' = { tmps := #[.slice (some ⟨b, off, none⟩) len cap, undef, .bool false, .int .i64 k, u4, u5, u6, u7, u8, u9, u10, u11, u12, u13, u14], defers := [] } ∧ allNought (zs.take k) = true ∧ k ≤ len

def noughtLeft (len : Nat) (a' : Act) (_ : World) : Nat := len - (intOf (a'.tmps.getD 3 undef)).toNat

set_option maxHeartbeats 400000 in
theorem noughts_any (a : Option Addr) (len cap : Nat) (zs : List Int) (w : World) (hlc : len ≤ cap) (hm : cap ≤ 9223372036854775807) (hz : zs.length = len) (hb : Byt zs) (hs : Seg w a zs) :
    Calls Tryz.prog 95 #[.slice a len cap] w fun e w' => e = .returned (.bool (allNought zs)) ∧ w' = w := by
  by_cases h0 : len = 0
  · subst h0
    obtain rfl : zs = [] := List.length_eq_zero_iff.1 hz
    go_enter Tryz.func95, Tryz.ntmps95
    go_wp2
    go_step3
    go_wp2
    go_step3
    go_wp2
    try rw [Exit.noGoto_ret]
    go_ret
    exact ⟨rfl, rfl⟩
  · rcases hs with rfl | ⟨b, off, rfl, hc⟩
    · simp at hz; omega
    · go_enter Tryz.func95, Tryz.ntmps95
      go_wp2
      refine wp_scope_jumps 0 (NoughtAt w b off len cap zs) (noughtLeft len) rfl ?_ ?_
      · have hcx : w.cell? ⟨b, off, none⟩ = _ := hc 0 (by omega)
        have hn0 : allNought (zs.take 0) = true := rfl
        have hst := nought_step zs 0 hn0 (by omega)
        have hsp := nought_stop zs 0 (by omega)
        have hg : ((0 : Int) == (len : Int)) = false := by simp; omega
        generalize zs[0]?.getD 0 = x at hcx hst hsp
        clear hc
        by_cases hx : x = 0
        · subst hx
          replace hst := hst rfl
          go_wp2
          go_step3
          go_wp2
          go_step3
          exact ⟨rfl, rfl, 1, _, _, _, _, _, _, _, _, _, _, _, rfl, hst, by omega⟩
        · have hxx : (x != 0) = true := by simp [hx]
          go_wp2
          go_step3
          go_wp2
          rw [jump_ret]
          go_ret
          rw [hsp hx]
          exact ⟨rfl, rfl⟩
      · rintro a' w' ⟨rfl, k, u4, u5, u6, u7, u8, u9, u10, u11, u12, u13, u14, rfl, hall, hk⟩
        by_cases hlt : k < len
        · have hcx := hc k (by omega)
          have hst := nought_step zs k hall (by omega)
          have hsp := nought_stop zs k (by omega)
          have hg : ((k : Int) == (len : Int)) = false := by simp; omega
          generalize zs[k]?.getD 0 = x at hcx hst hsp
          clear hc
          by_cases hx : x = 0
          · subst hx
            replace hst := hst rfl
            go_wp2
            go_step3
            exact ⟨rfl, ⟨rfl, k + 1, _, _, _, _, _, _, _, _, _, _, _, by go_num, hst, by omega⟩, by simp [intOf, noughtLeft]; omega⟩
          · have hxx : (x != 0) = true := by simp [hx]
            go_wp2
            rw [jump_ret]
            go_ret
            rw [hsp hx]
            exact ⟨rfl, rfl⟩
        · obtain rfl : k = len := by omega
          have hg : ((k : Int) == (k : Int)) = true := by simp
          go_wp2
          rw [jump_ret]
          go_ret
          rw [List.take_of_length_le (by omega)] at hall
          rw [hall]
          exact ⟨rfl, rfl⟩
end Go.Proofs.YtciinabhelfnoaaGreatDoor
