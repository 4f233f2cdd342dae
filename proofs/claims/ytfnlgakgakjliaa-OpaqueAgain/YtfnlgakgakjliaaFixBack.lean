/- The walk of 'OpaqueFixedBack': true for any bytes, any bytes behind them, any cut; nothing that was there turns. -/
import Derived.Test.YtfnlgakgakjliaaBackOpq
namespace Go.Proofs.Ytfnlgakgakjliaa
set_option linter.unusedVariables false
open Go.RowKit

theorem cell_lone (w : World) (t : TypeId) (x : Nat) : ∀ i, (h : i < [x].length) → (w.alloc (.cells #[.int .i64 (x : Int)] t)).cell? ⟨w.heap.size, i, none⟩ = some (.int .i64 ([x][i] : Nat)) := by
  intro i hi
  match i, hi with
  | 0, _ => simp

theorem fx_nat (zs : List Int) (n : Nat) (h : n ≤ 65536) : fxE zs n = fixE zs n ∧ fxZ zs n = cutZ zs n ∧ fxL zs n = cutL zs n := by
  have h1 : ¬ ((n : Int) < 0 ∨ 65536 < (n : Int)) := by omega
  unfold fxE fxZ fxL
  rw [if_neg h1, if_neg h1, if_neg h1, Int.toNat_natCast]
  exact ⟨rfl, rfl, rfl⟩

theorem fx_put (zs ms : List Int) (h : zs.length ≤ 65536) : fxE (padded zs ++ ms) zs.length = 0 ∧ fxZ (padded zs ++ ms) zs.length = zs ∧ fxL (padded zs ++ ms) zs.length = zs.length + padN zs.length := by
  obtain ⟨h1, h2, h3⟩ := fx_nat (padded zs ++ ms) zs.length h
  obtain ⟨g1, g2⟩ := fix_put zs ms
  rw [h1, h2, h3]
  exact ⟨g1, g2, by rw [cutL, if_pos g1]⟩

theorem fx_short (zs : List Int) (k : Nat) (h : zs.length ≤ 65536) (hk : k < (padded zs).length) : fxE ((padded zs).take k) zs.length = 4 := by
  rw [(fx_nat _ _ h).1]
  exact fix_short zs k hk

set_option maxRecDepth 100000 in
set_option maxHeartbeats 1000000 in
theorem fixback_off (a : Option Addr) (len cap : Nat) (a1 : Option Addr) (len1 cap1 : Nat) (cut : Int) (w : World)
    (hlc : len ≤ cap) (hm : cap ≤ 140737488351232) (hlc1 : len1 ≤ cap1) (hm1 : cap1 ≤ 140737488351232) (h : len = 0 ∨ 65536 < len ∨ 1048576 < len1) :
    Calls Try.prog 4 #[.slice a len cap, .slice a1 len1 cap1, .int .u16 cut] w fun e w' => e = .returned (.bool true) ∧ Below w.heap.size w w' := by
  by_cases h0 : len = 0
  · subst h0
    go_enter Try.func4, Try.ntmps4
    go_wp2_with fail
    refine (alive_any w).mono ?_
    rintro e w1 ⟨rfl, hB1⟩
    go_wp2_with fail
    refine (alive_any _).mono ?_
    rintro e w3 ⟨rfl, hB3⟩
    go_wp2
    go_ret
    exact ⟨rfl, hB1.trans (hB3.mono hB1.size)⟩
  · have hq : ((len : Int) == 0) = false := by simp; omega
    by_cases h2 : 65536 < len
    · go_enter Try.func4, Try.ntmps4
      go_wp2_with fail
      refine (alive_any w).mono ?_
      rintro e w1 ⟨rfl, hB1⟩
      go_wp2_with fail
      refine (alive_any _).mono ?_
      rintro e w3 ⟨rfl, hB3⟩
      go_wp2
      go_ret
      exact ⟨rfl, hB1.trans (hB3.mono hB1.size)⟩
    · have hbey : beyond 0 [len1] = true := by simp [beyond]; omega
      go_enter Try.func4, Try.ntmps4
      go_wp2_with fail
      refine (alive_any w).mono ?_
      rintro e w1 ⟨rfl, hB1⟩
      go_wp2_with fail
      refine (beyond_any [len1] _ 1 _ rfl (by omega) (by intro n hn; simp at hn; omega) (cell_lone w1 3 len1)).mono ?_
      rintro e w' ⟨rfl, rfl⟩
      rw [hbey]
      have hB2 := hB1.alloc hB1.size (.cells #[.int .i64 (len1 : Int)] 3)
      generalize w1.alloc (.cells #[.int .i64 (len1 : Int)] 3) = w2 at *
      go_wp2_with fail
      refine (alive_any _).mono ?_
      rintro e w3 ⟨rfl, hB3⟩
      go_wp2
      go_ret
      exact ⟨rfl, hB2.trans (hB3.mono hB2.size)⟩

set_option maxRecDepth 100000 in
set_option maxHeartbeats 1000000 in
theorem fixback_walk (a : Option Addr) (len cap : Nat) (zs : List Int) (a1 : Option Addr) (len1 cap1 : Nat) (ms : List Int) (cut : Int) (w : World) (hc0 : 0 ≤ cut) (hc1 : cut ≤ 65535)
    (hlc : len ≤ cap) (hm : cap ≤ 140737488351232) (hz : zs.length = len) (hb : Byt zs) (hs : Seg w a zs) (hnil : a = none → len = 0 ∧ cap = 0)
    (hlc1 : len1 ≤ cap1) (hm1 : cap1 ≤ 140737488351232) (hz1 : ms.length = len1) (hb1 : Byt ms) (hs1 : Seg w a1 ms) (hnil1 : a1 = none → len1 = 0 ∧ cap1 = 0) :
    Calls Try.prog 4 #[.slice a len cap, .slice a1 len1 cap1, .int .u16 cut] w fun e w' => e = .returned (.bool true) ∧ Below w.heap.size w w' := by
  obtain ⟨i0, hi, hz0, hz1', hz2⟩ := info_parts infoB
  by_cases hoff : len = 0 ∨ 65536 < len ∨ 1048576 < len1
  · exact fixback_off a len cap a1 len1 cap1 cut w hlc hm hlc1 hm1 hoff
  · have hl0 : ((len : Int) == 0) = false := by simp; omega
    have hl : len ≤ 65536 := by omega
    have hl1 : len1 ≤ 1048576 := by omega
    have hlp : 0 < len := by omega
    clear hoff
    have hbey : beyond 0 [len1] = false := by simp [beyond]; omega
    have hp := padN_lt len
    have hp4 := padN_four len
    go_enter Try.func4, Try.ntmps4
    go_wp2_with fail
    refine (alive_any w).mono ?_
    rintro e w1 ⟨rfl, hB1⟩
    go_wp2_with fail
    refine (beyond_any [len1] _ 1 _ rfl (by omega) (by intro n hn; simp at hn; omega) (cell_lone w1 3 len1)).mono ?_
    rintro e w' ⟨rfl, rfl⟩
    rw [hbey]
    have hB2 := hB1.alloc hB1.size (.cells #[.int .i64 (len1 : Int)] 3)
    generalize w1.alloc (.cells #[.int .i64 (len1 : Int)] 3) = w2 at *
    clear hB1 hbey
    go_wp2_with fail
    refine (putfixed_any a len cap zs w2 hlc (by omega) hz (hs.below hB2) hnil).mono ?_
    rintro e w3 ⟨rfl, hown3, hb3⟩
    have hB3 := hB2.trans (hb3.mono hB2.size)
    have he3 : w.heap.size ≤ w2.heap.size := hB2.size
    replace hown3 := own_base hown3 hB2.size
    generalize w2.heap.size = g at *
    have hopl : (padded zs).length = len + padN len := by rw [padded_length, hz]
    have hE1 := fun k => fx_short zs k (by omega)
    have hE3 := fx_put zs ms (by omega)
    rw [hopl] at hE1
    rw [hz] at hE3 hE1
    have hL1 : len ≤ len + padN len := by omega
    have hL2 : len + padN len ≤ len + 3 := by omega
    generalize len + padN len = L at *
    have hq : ((L : Int) % 4 != 0) = false := by simp; omega
    have hsg := seg_own hown3 hopl
    have hbo := byt_padded hb
    clear hb3 hB2 hp
    have hk : ∃ k : Nat, cut % (L : Int) = (k : Int) ∧ k < L := ⟨(cut % (L : Int)).toNat, by have := Int.emod_nonneg cut (show (L : Int) ≠ 0 by omega); omega, by have := Int.emod_lt_of_pos cut (show (0 : Int) < L by omega); have := Int.emod_nonneg cut (show (L : Int) ≠ 0 by omega); omega⟩
    obtain ⟨k, hk, hkL⟩ := hk
    have hq2 : Hid (Byt (padded zs ++ ms)) := hbo.append hb1
    go_wp2_with fail
    refine (getfixed_any _ k L (len : Int) ((padded zs).take k) w3 (by omega) (by omega) (by rw [List.length_take]; omega) (hbo.take k) (hsg.take k) (by simp) (by omega) (by omega)).mono ?_
    rintro e w4 ⟨v4, rfl, _, hb4⟩
    rw [hE1 k hkL]
    have hB4 := hB3.trans (hb4.mono hB3.size)
    replace hown3 := own_below hown3 hb4
    replace hsg := hsg.below hb4
    clear hb4 hB3 hE1 hk
    obtain ⟨hF1, hF2, hF3⟩ := hE3
    have HF2 : Hid (fxZ (padded zs ++ ms) len = zs) := hF2
    have HF1 : Hid (fxE (padded zs ++ ms) len = 0) := hF1
    have HF3 : Hid (fxL (padded zs ++ ms) len = L) := hF3
    clear hF1 hF2 hF3
    have hsm := hs1.below hB4
    cases a1 with
    | none =>
      obtain ⟨rfl, rfl⟩ := hnil1 rfl
      obtain rfl : ms = [] := List.length_eq_zero_iff.1 hz1
      go_wp2_with (at_builtin; refine wpList_append_own_none rfl _ _ 22 rfl w.heap.size 5 i0 1 Try.underlying22 hi _ L _ rfl hown3 rfl ?_)
      rw [List.append_nil] at HF1 HF2 HF3
      refine (getfixed_any _ L L (len : Int) (padded zs) w4 (by omega) (by omega) hopl hbo (seg_own hown3 hopl) (by simp) (by omega) (by omega)).mono ?_
      rintro e w6 ⟨v6, rfl, hown6, hb6⟩
      rw [HF1.out, HF3.out]
      rw [HF2.out, hz] at hown6
      have hB6 := hB4.trans (hb6.mono hB4.size)
      have hsa6 := hs.below hB6
      clear HF1 HF2 HF3 hown3 hsm hs1 hs hB4
      obtain ⟨a6, c6, rfl, hs6, _⟩ := own_val hown6 hz
      go_wp2_with fail
      refine (same_true _ _ len c6 cap zs w6 (by omega) hz hs6 hsa6).mono ?_
      rintro e w' ⟨rfl, n7, rfl⟩
      have hB8 := below_drewN hB6 n7
      go_wp2
      go_ret
      exact ⟨by simp, hB8⟩
    | some ad =>
      go_wp2_with (at_builtin; refine wpList_append_own _ rfl _ _ 22 rfl w.heap.size 5 i0 (.int .u8 0) 1 1 Try.underlying22 hi hz0 hz1' hz2 rfl (by decide) (.slice (some ⟨g, 0, none⟩) L L) L _ rfl hown3 ad len1 cap1 (ms.map (Value.int .u8)) rfl (by simp [hz1]) (seg_news hsm) (news_one ms) (by unfold maxLen; omega) (by omega) hB4.size ?_; intro v' w6 hown6 hgrow6 _)
      obtain ⟨g6, c6, rfl, hc6, hd6, he6⟩ := own_shape hown6 (by omega)
      rw [← List.map_append] at hown6
      have hl6 : (padded zs ++ ms).length = L + len1 := by rw [List.length_append, hopl, hz1]
      have hB6 : Below w.heap.size w w6 := hB4.grown hgrow6 hB4.size (fun k e => by cases e; exact he3)
      refine (getfixed_any _ (L + len1) c6 (len : Int) (padded zs ++ ms) w6 hc6 hd6 hl6 hq2.out (seg_own hown6 hl6) (by simp) (by omega) (by omega)).mono ?_
      rintro e w7 ⟨v7, rfl, hown7, hb7⟩
      rw [HF1.out, HF3.out]
      rw [HF2.out, hz] at hown7
      have hB7 := hB6.trans (hb7.mono hB6.size)
      have hsa7 := hs.below hB7
      clear HF1 HF2 HF3 hown3 hsm hs1 hs hB4 hgrow6 hown6
      obtain ⟨a7, c7, rfl, hs7, _⟩ := own_val hown7 hz
      go_wp2_with fail
      refine (same_true _ _ len c7 cap zs w7 (by omega) hz hs7 hsa7).mono ?_
      rintro e w' ⟨rfl, n7, rfl⟩
      have hB8 := below_drewN hB7 n7
      go_wp2
      go_ret
      exact ⟨by simp, hB8⟩
end Go.Proofs.Ytfnlgakgakjliaa
