/- 'GetFixed' of the program: so many bytes that the bytes begin with, in memory of their own, or the error; nothing that was there turns. -/
import Derived.Test.YtcpciodcecpibabCutMath
import Derived.Test.YtcpciodcecpibabTaken
import Derived.Test.YtcpciodcecpibabClone
namespace Go.Proofs.Ytcpciodcecpibab
set_option linter.unusedVariables false
open Go.RowKit

set_option maxRecDepth 100000 in
set_option maxHeartbeats 400000 in
theorem getfixed_nat (a : Option Addr) (len cap n : Nat) (zs : List Int) (w : World) (hlc : len ≤ cap) (hm : cap ≤ 9223372036854775807) (hz : zs.length = len) (hb : Byt zs) (hs : Seg w a zs) (hnil : a = none → len = 0 ∧ cap = 0) (hn : n ≤ 65536) :
    Calls Try.prog 14 #[.slice a len cap, .int .i64 (n : Int)] w fun e w' => ∃ v, e = .returned (.tuple #[v, .int .i64 (cutL zs n : Nat), .int .i64 (fixE zs n)]) ∧
      w'.ownsRow w.heap.size 5 1 v (cutZ zs n).length ((cutZ zs n).map (Value.int .u8)) ∧ Below w.heap.size w w' := by
  have hp := padN_lt n
  by_cases h0 : fixE zs n = 0
  · have hfl := fixE_len h0
    have eL : cutL zs n = n + padN n := by rw [cutL, if_pos h0]
    have eZ : cutZ zs n = zs.take n := by rw [cutZ, if_pos h0]
    have ht := taken_any a len cap n zs w hlc hm hz hb hs hnil (by omega)
    rw [tookV, if_pos h0, h0] at ht
    have hzl : (zs.take n).length = n := by rw [List.length_take]; omega
    rw [eL, eZ, h0, hzl]
    clear eL eZ h0
    go_enter Try.func14, Try.ntmps14
    go_wp2_with (first
      | (go_at_call 19; refine ht.mono ?_; rintro e w' ⟨rfl, hw'⟩; subst w'))
    refine (clone_any a n n (zs.take n) w (by omega) (by omega) hzl (hs.take n) (fun h => by have := hnil h; omega)).mono ?_
    rintro e w1 ⟨v, rfl, hown, hB⟩
    go_wp2_with (go_at_call 18; refine (pad_nat n _ (by omega)).mono ?_; rintro e w' ⟨rfl, hw'⟩; subst w')
    go_ret3
    exact ⟨v, by go_num, hown, hB⟩
  · have eL : cutL zs n = 0 := by rw [cutL, if_neg h0]
    have eZ : cutZ zs n = [] := by rw [cutZ, if_neg h0]
    have ht := taken_any a len cap n zs w hlc hm hz hb hs hnil (by omega)
    rw [tookV, if_neg h0] at ht
    rw [eL, eZ]
    clear eL eZ
    generalize fixE zs n = x at *
    have hx : (x != 0) = true := by simp [h0]
    go_enter Try.func14, Try.ntmps14
    go_wp2_with (first
      | (go_at_call 19; refine ht.mono ?_; rintro e w' ⟨rfl, hw'⟩; subst w'))
    go_ret3
    exact ⟨_, rfl, own_empty _ _ _, Below.refl _ _⟩

set_option maxRecDepth 100000 in
set_option maxHeartbeats 400000 in
theorem getfixed_any (a : Option Addr) (len cap : Nat) (n : Int) (zs : List Int) (w : World) (hlc : len ≤ cap) (hm : cap ≤ 9223372036854775807) (hz : zs.length = len) (hb : Byt zs) (hs : Seg w a zs) (hnil : a = none → len = 0 ∧ cap = 0) (hn : -9223372036854775808 ≤ n) (hn2 : n ≤ 9223372036854775807) :
    Calls Try.prog 14 #[.slice a len cap, .int .i64 n] w fun e w' => ∃ v, e = .returned (.tuple #[v, .int .i64 (fxL zs n : Nat), .int .i64 (fxE zs n)]) ∧
      w'.ownsRow w.heap.size 5 1 v (fxZ zs n).length ((fxZ zs n).map (Value.int .u8)) ∧ Below w.heap.size w w' := by
  by_cases h : n < 0 ∨ 65536 < n
  · rw [fxL, fxE, fxZ, if_pos h, if_pos h, if_pos h]
    rcases h with h | h
    · go_enter Try.func14, Try.ntmps14
      go_wp2
      go_ret3
      exact ⟨_, rfl, own_empty _ _ _, Below.refl _ _⟩
    · have h2 : ¬ n < 0 := by omega
      go_enter Try.func14, Try.ntmps14
      go_wp2
      go_ret3
      exact ⟨_, rfl, own_empty _ _ _, Below.refl _ _⟩
  · rw [fxL, fxE, fxZ, if_neg h, if_neg h, if_neg h]
    have e : n = (n.toNat : Int) := by omega
    have hk := getfixed_nat a len cap n.toNat zs w hlc hm hz hb hs hnil (by omega)
    rw [← e] at hk
    exact hk
end Go.Proofs.Ytcpciodcecpibab
