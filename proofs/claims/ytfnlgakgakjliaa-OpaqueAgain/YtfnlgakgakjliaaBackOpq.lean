/- The walk of 'OpaqueBack': true for any bytes, any bytes behind them, any cut; nothing that was there turns. -/
import Derived.Test.YtfnlgakgakjliaaBeyonds
import Derived.Test.YtfnlgakgakjliaaAliveOpq
import Derived.Test.YtfnlgakgakjliaaOpqMath
import Derived.Test.YtfnlgakgakjliaaSame
namespace Go.Proofs.Ytfnlgakgakjliaa
set_option linter.unusedVariables false
open Go.RowKit

/-- What is owned is a slice of so many, and its bytes lie there. -/
theorem own_val {w : World} {base e n : Nat} {v : Value} {zs : List Int} (h : w.ownsRow base e 1 v n (zs.map (Value.int .u8))) (hz : zs.length = n) : ∃ a c, v = .slice a n c ∧ Seg w a zs ∧ n ≤ c ∧ c ≤ 9223372036854775807 ∧ (a = none → n = 0 ∧ c = 0) := by
  rcases h.2 with ⟨rfl, h0⟩ | ⟨g, cap, cur, rfl, hg, hh, h1, h2, r⟩
  · subst h0
    exact ⟨none, 0, rfl, .inl (List.length_eq_zero_iff.1 hz), by omega, by omega, fun _ => ⟨rfl, rfl⟩⟩
  · exact ⟨_, cap, rfl, seg_own h hz, h1, by unfold maxLen at h2; omega, by simp⟩

theorem cell_pair (w : World) (t : TypeId) (x y : Nat) : ∀ i, (h : i < [x, y].length) → (w.alloc (.cells #[.int .i64 (x : Int), .int .i64 (y : Int)] t)).cell? ⟨w.heap.size, i, none⟩ = some (.int .i64 ([x, y][i] : Nat)) := by
  intro i hi
  match i, hi with
  | 0, _ => simp
  | 1, _ => simp

set_option maxRecDepth 100000 in
set_option maxHeartbeats 1000000 in
theorem back_walk (a : Option Addr) (len cap : Nat) (zs : List Int) (a1 : Option Addr) (len1 cap1 : Nat) (ms : List Int) (cut : Int) (w : World) (hc0 : 0 ≤ cut) (hc1 : cut ≤ 65535)
    (hlc : len ≤ cap) (hm : cap ≤ 140737488351232) (hz : zs.length = len) (hb : Byt zs) (hs : Seg w a zs) (hnil : a = none → len = 0 ∧ cap = 0)
    (hlc1 : len1 ≤ cap1) (hm1 : cap1 ≤ 140737488351232) (hz1 : ms.length = len1) (hb1 : Byt ms) (hs1 : Seg w a1 ms) (hnil1 : a1 = none → len1 = 0 ∧ cap1 = 0) :
    Calls Try.prog 3 #[.slice a len cap, .slice a1 len1 cap1, .int .u16 cut] w fun e w' => e = .returned (.bool true) ∧ Below w.heap.size w w' := by
  obtain ⟨i0, hi, hz0, hz1', hz2⟩ := info_parts infoB
  cases hbey : beyond 0 [len, len1] with
  | true =>
    go_enter Try.func3, Try.ntmps3
    go_wp2_with fail
    refine (alive_any w).mono ?_
    rintro e w1 ⟨rfl, hB1⟩
    go_wp2_with fail
    refine (beyond_any [len, len1] _ 2 _ rfl (by omega) (by intro n hn; simp at hn; omega) (cell_pair w1 3 len len1)).mono ?_
    rintro e w' ⟨rfl, rfl⟩
    rw [hbey]
    have hB2 := hB1.alloc hB1.size (.cells #[.int .i64 (len : Int), .int .i64 (len1 : Int)] 3)
    generalize w1.alloc (.cells #[.int .i64 (len : Int), .int .i64 (len1 : Int)] 3) = w2 at *
    go_wp2_with fail
    refine (alive_any _).mono ?_
    rintro e w3 ⟨rfl, hB3⟩
    go_wp2
    go_ret
    exact ⟨rfl, hB2.trans (hB3.mono hB2.size)⟩
  | false =>
    have hl := beyond_le hbey (n := len) (by simp)
    have hl1 := beyond_le hbey (n := len1) (by simp)
    have hp := padN_lt len
    have hp4 := padN_four len
    go_enter Try.func3, Try.ntmps3
    go_wp2_with fail
    refine (alive_any w).mono ?_
    rintro e w1 ⟨rfl, hB1⟩
    go_wp2_with fail
    refine (beyond_any [len, len1] _ 2 _ rfl (by omega) (by intro n hn; simp at hn; omega) (cell_pair w1 3 len len1)).mono ?_
    rintro e w' ⟨rfl, rfl⟩
    rw [hbey]
    have hB2 := hB1.alloc hB1.size (.cells #[.int .i64 (len : Int), .int .i64 (len1 : Int)] 3)
    generalize w1.alloc (.cells #[.int .i64 (len : Int), .int .i64 (len1 : Int)] 3) = w2 at *
    clear hB1 hbey
    go_wp2_with fail
    refine (putopq_any a len cap zs w2 hlc (by omega) hz (hs.below hB2) hnil).mono ?_
    rintro e w3 ⟨v, rfl, hown3, hb3⟩
    have hB3 := hB2.trans (hb3.mono hB2.size)
    replace hown3 := own_base hown3 hB2.size
    obtain ⟨g, c, rfl, hc3, hd3, he3⟩ := own_shape hown3 (by omega)
    have hopl : (opBytes zs).length = 4 + (len + padN len) := by rw [opBytes_length, hz]
    have hE1 := fun k => op_short zs k (by omega)
    have hE2 := op_limit zs (by omega) ((len : Int) - 1) (by omega)
    have hE3 := op_put zs ms (by omega)
    rw [hopl] at hE1
    rw [hz] at hE3 hE1
    have hL4 : (4 + (len + padN len)) % 4 = 0 := by omega
    have hL1 : len + 4 ≤ 4 + (len + padN len) := by omega
    have hL2 : 4 + (len + padN len) ≤ len + 7 := by omega
    generalize 4 + (len + padN len) = L at *
    have hq : ((L : Int) % 4 != 0) = false := by simp; omega
    have hsg := seg_own hown3 hopl
    have hbo := byt_op hb
    clear hb3 hB2 hp hp4
    have hk : ∃ k : Nat, cut % (L : Int) = (k : Int) ∧ k < L := ⟨(cut % (L : Int)).toNat, by have := Int.emod_nonneg cut (show (L : Int) ≠ 0 by omega); omega, by have := Int.emod_lt_of_pos cut (show (0 : Int) < L by omega); have := Int.emod_nonneg cut (show (L : Int) ≠ 0 by omega); omega⟩
    obtain ⟨k, hk, hkL⟩ := hk
    have hq2 : Hid (Byt (opBytes zs ++ ms)) := hbo.append hb1
    go_wp2_with fail
    refine (getopq_any _ k c (len : Int) ((opBytes zs).take k) w3 (by omega) hd3 (by rw [List.length_take]; omega) (hbo.take k) (hsg.take k) (by omega) (by omega)).mono ?_
    rintro e w4 ⟨v4, rfl, _, hb4⟩
    rw [hE1 k hkL]
    have hB4 := hB3.trans (hb4.mono hB3.size)
    replace hown3 := own_below hown3 hb4
    replace hsg := hsg.below hb4
    clear hb4 hB3 hE1 hk
    go_wp2_with fail
    refine (getopq_any _ L c ((len : Int) - 1) (opBytes zs) w4 hc3 hd3 hopl hbo hsg (by omega) (by omega)).mono ?_
    rintro e w5 ⟨v5, rfl, _, hb5⟩
    rw [hE2]
    have hB5 := hB4.trans (hb5.mono hB4.size)
    replace hown3 := own_below hown3 hb5
    clear hb5 hB4 hE2 hsg
    obtain ⟨hF1, hF2, hF3⟩ := hE3
    have HF2 : Hid (opZ (opBytes zs ++ ms) len = zs) := hF2
    have HF1 : Hid (opE (opBytes zs ++ ms) len = 0) := hF1
    have HF3 : Hid (opL (opBytes zs ++ ms) len = L) := hF3
    clear hF1 hF2 hF3
    have hsa := hs.below hB5
    have hsm := hs1.below hB5
    cases a1 with
    | none =>
      obtain ⟨rfl, rfl⟩ := hnil1 rfl
      obtain rfl : ms = [] := List.length_eq_zero_iff.1 hz1
      go_wp2_with (at_builtin; refine wpList_append_own_none rfl _ _ 22 rfl w.heap.size 5 i0 1 Try.underlying22 hi _ L _ rfl hown3 rfl ?_)
      rw [List.append_nil] at HF1 HF2 HF3
      refine (getopq_any _ L c (len : Int) (opBytes zs) w5 hc3 hd3 hopl hbo (seg_own hown3 hopl) (by omega) (by omega)).mono ?_
      rintro e w6 ⟨v6, rfl, hown6, hb6⟩
      rw [HF1.out, HF3.out]
      rw [HF2.out, hz] at hown6
      have hB6 := hB5.trans (hb6.mono hB5.size)
      have hsa6 := hsa.below hb6
      clear HF1 HF2 HF3 hown3 hsa hsm hs1 hs hB5
      obtain ⟨a6, c6, rfl, hs6, _⟩ := own_val hown6 hz
      go_wp2_with fail
      refine (same_true _ _ len c6 cap zs w6 (by omega) hz hs6 hsa6).mono ?_
      rintro e w' ⟨rfl, n7, rfl⟩
      have hB8 := below_drewN hB6 n7
      go_wp2
      go_ret
      exact ⟨by simp, hB8⟩
    | some ad =>
      go_wp2_with (at_builtin; refine wpList_append_own _ rfl _ _ 22 rfl w.heap.size 5 i0 (.int .u8 0) 1 1 Try.underlying22 hi hz0 hz1' hz2 rfl (by decide) (.slice (some ⟨g, 0, none⟩) L c) L _ rfl hown3 ad len1 cap1 (ms.map (Value.int .u8)) rfl (by simp [hz1]) (seg_news hsm) (news_one ms) (by unfold maxLen; omega) (by omega) hB5.size ?_; intro v' w6 hown6 hgrow6 _)
      obtain ⟨g6, c6, rfl, hc6, hd6, he6⟩ := own_shape hown6 (by omega)
      rw [← List.map_append] at hown6
      have hl6 : (opBytes zs ++ ms).length = L + len1 := by rw [List.length_append, hopl, hz1]
      have hB6 : Below w.heap.size w w6 := hB5.grown hgrow6 hB5.size (fun k e => by cases e; exact he3)
      refine (getopq_any _ (L + len1) c6 (len : Int) (opBytes zs ++ ms) w6 hc6 hd6 hl6 hq2.out (seg_own hown6 hl6) (by omega) (by omega)).mono ?_
      rintro e w7 ⟨v7, rfl, hown7, hb7⟩
      rw [HF1.out, HF3.out]
      rw [HF2.out, hz] at hown7
      have hB7 := hB6.trans (hb7.mono hB6.size)
      have hsa7 := hs.below hB7
      clear HF1 HF2 HF3 hown3 hsa hsm hs1 hs hB5 hgrow6 hown6
      obtain ⟨a7, c7, rfl, hs7, _⟩ := own_val hown7 hz
      go_wp2_with fail
      refine (same_true _ _ len c7 cap zs w7 (by omega) hz hs7 hsa7).mono ?_
      rintro e w' ⟨rfl, n7, rfl⟩
      have hB8 := below_drewN hB7 n7
      go_wp2
      go_ret
      exact ⟨by simp, hB8⟩
end Go.Proofs.Ytfnlgakgakjliaa
