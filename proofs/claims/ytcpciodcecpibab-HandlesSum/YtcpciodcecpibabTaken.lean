/- 'taken' of the program: a piece of the bytes themselves, or ErrShort, or ErrForm; nothing turns. -/
import Derived.Test.YtcpciodcecpibabPieces
import Derived.Test.YtcpciodcecpibabPad
import Derived.Test.YtcpciodcecpibabNoughts
import Derived.Test.YtcpciodcecpibabFixDef
namespace Go.Proofs.Ytcpciodcecpibab
set_option linter.unusedVariables false
open Go.RowKit

set_option maxRecDepth 100000 in
set_option maxHeartbeats 400000 in
theorem taken_short (a : Option Addr) (len cap n : Nat) (w : World) (hlc : len ≤ cap) (hm : cap ≤ 9223372036854775807) (hn : n ≤ 9223372036854775807) (hs : len < n + padN n) :
    Calls Try.prog 19 #[.slice a len cap, .int .i64 (n : Int)] w fun e w' => e = .returned (.tuple #[.slice none 0 0, .int .i64 4]) ∧ w' = w := by
  by_cases h1 : len < n
  · go_enter Try.func19, Try.ntmps19
    go_wp2
    go_ret2
    exact ⟨rfl, rfl⟩
  · go_enter Try.func19, Try.ntmps19
    have hp := padN_lt n
    go_wp2_with (go_at_call 18; refine (pad_nat n _ hn).mono ?_; rintro e w' ⟨rfl, rfl⟩)
    go_ret2
    exact ⟨rfl, rfl⟩

set_option maxRecDepth 100000 in
set_option maxHeartbeats 400000 in
theorem taken_some (b off len cap n : Nat) (zs : List Int) (w : World) (hlc : len ≤ cap) (hm : cap ≤ 9223372036854775807) (hz : zs.length = len) (hb : Byt zs) (hs : Seg w (some ⟨b, off, none⟩) zs) (hn : n + padN n ≤ len) :
    Calls Try.prog 19 #[.slice (some ⟨b, off, none⟩) len cap, .int .i64 (n : Int)] w fun e w' => e = .returned (.tuple #[tookV (some ⟨b, off, none⟩) zs n, .int .i64 (fixE zs n)]) ∧ w' = w := by
  have hp := padN_lt n
  have HF : Hid (fixE zs n = if allNought ((zs.drop n).take (padN n)) then 0 else 5) := fixE_form (by omega)
  by_cases hcn : cap = n
  · have hp0 : padN n = 0 := by omega
    subst hcn
    obtain rfl : len = cap := by omega
    have hg := pad_nat len w hm
    rw [hp0] at hg
    go_enter Try.func19, Try.ntmps19
    go_wp2_with (go_at_call 18; refine hg.mono ?_; rintro e w' ⟨rfl, rfl⟩)
    refine (noughts_any _ 0 0 [] _ (by omega) (by omega) rfl (fun i => by simp) (.inl rfl)).mono ?_
    rintro e w' ⟨rfl, rfl⟩
    rw [allNought_nil]
    go_wp2
    go_ret2
    have e0 : fixE zs len = 0 := by rw [HF.out, hp0, List.take_zero, allNought_nil]; rfl
    refine ⟨?_, rfl⟩
    rw [tookV, if_pos e0, e0]
    rfl
  · have hln : ((zs.drop n).take (padN n)).length = padN n := by rw [List.length_take, List.length_drop]; omega
    cases hA : allNought ((zs.drop n).take (padN n)) with
    | true =>
      go_enter Try.func19, Try.ntmps19
      go_wp2_with (first
        | (go_at_call 18; refine (pad_nat n _ (by omega)).mono ?_; rintro e w' ⟨rfl, rfl⟩)
        | (go_at_call 23; refine (noughts_any _ (padN n) (cap - n) ((zs.drop n).take (padN n)) _ (by omega) (by omega) hln ((hb.drop n).take _) ((hs.drop n).take _)).mono ?_; rintro e w' ⟨rfl, rfl⟩; rw [hA]))
      go_ret2
      have e0 : fixE zs n = 0 := by rw [HF.out, hA]; rfl
      refine ⟨?_, rfl⟩
      rw [tookV, if_pos e0, e0]
      rfl
    | false =>
      go_enter Try.func19, Try.ntmps19
      go_wp2_with (first
        | (go_at_call 18; refine (pad_nat n _ (by omega)).mono ?_; rintro e w' ⟨rfl, rfl⟩)
        | (go_at_call 23; refine (noughts_any _ (padN n) (cap - n) ((zs.drop n).take (padN n)) _ (by omega) (by omega) hln ((hb.drop n).take _) ((hs.drop n).take _)).mono ?_; rintro e w' ⟨rfl, rfl⟩; rw [hA]))
      go_ret2
      have e5 : fixE zs n = 5 := by rw [HF.out, hA]; rfl
      refine ⟨?_, rfl⟩
      rw [tookV, e5, if_neg (by decide)]
      rfl

set_option maxRecDepth 100000 in
set_option maxHeartbeats 400000 in
theorem taken_nil (w : World) :
    Calls Try.prog 19 #[.slice none 0 0, .int .i64 0] w fun e w' => e = .returned (.tuple #[.slice none 0 0, .int .i64 0]) ∧ w' = w := by
  go_enter Try.func19, Try.ntmps19
  go_wp2_with (first
      | (go_at_call 18; refine (pad_nat 0 _ (by omega)).mono ?_; rintro e w' ⟨rfl, rfl⟩; rw [show padN 0 = 0 from rfl])
      | (go_at_call 23; refine (noughts_any _ 0 0 [] _ (by omega) (by omega) rfl (fun i => by simp) (.inl rfl)).mono ?_; rintro e w' ⟨rfl, rfl⟩; rw [allNought_nil]))
  go_ret2
  exact ⟨rfl, rfl⟩

set_option maxRecDepth 100000 in
set_option maxHeartbeats 400000 in
theorem taken_zero (ad : Addr) (len cap : Nat) (w : World) (hlc : len ≤ cap) (hm : cap ≤ 9223372036854775807) :
    Calls Try.prog 19 #[.slice (some ad) len cap, .int .i64 0] w fun e w' => e = .returned (.tuple #[.slice (some ad) 0 0, .int .i64 0]) ∧ w' = w := by
  go_enter Try.func19, Try.ntmps19
  go_wp2_with (first
      | (go_at_call 18; refine (pad_nat 0 _ (by omega)).mono ?_; rintro e w' ⟨rfl, rfl⟩; rw [show padN 0 = 0 from rfl])
      | (go_at_call 23; go_loud (refine (noughts_any _ 0 _ [] _ (by omega) (by omega) rfl (fun i => by simp) (.inl rfl)).mono ?_; rintro e w' ⟨rfl, rfl⟩; rw [allNought_nil])))
  go_ret2
  exact ⟨rfl, rfl⟩

/-- 'taken', at any bytes and any number. -/
theorem taken_any (a : Option Addr) (len cap n : Nat) (zs : List Int) (w : World) (hlc : len ≤ cap) (hm : cap ≤ 9223372036854775807) (hz : zs.length = len) (hb : Byt zs) (hs : Seg w a zs) (hnil : a = none → len = 0 ∧ cap = 0) (hn : n ≤ 9223372036854775807) :
    Calls Try.prog 19 #[.slice a len cap, .int .i64 (n : Int)] w fun e w' => e = .returned (.tuple #[tookV a zs n, .int .i64 (fixE zs n)]) ∧ w' = w := by
  by_cases h1 : len < n + padN n
  · have e4 : fixE zs n = 4 := by unfold fixE; rw [if_pos (by omega)]
    rw [tookV, e4, if_neg (by decide)]
    exact taken_short a len cap n w hlc hm hn h1
  · by_cases h0 : n = 0
    · subst h0
      have e0 : fixE zs 0 = 0 := by rw [fixE_form (by omega), show padN 0 = 0 from rfl, List.take_zero, allNought_nil]; rfl
      rw [tookV, e0, if_pos rfl]
      cases a with
      | none =>
        obtain ⟨rfl, rfl⟩ := hnil rfl
        exact taken_nil w
      | some ad => exact taken_zero ad len cap w hlc hm
    · rcases hs with rfl | ⟨b, off, rfl, hc⟩
      · simp at hz; omega
      · exact taken_some b off len cap n zs w hlc hm hz hb (.inr ⟨b, off, rfl, hc⟩) (by omega)
end Go.Proofs.Ytcpciodcecpibab
