/- The walk of 'StringsBack': true for any text, any bytes behind it; nothing that was there turns. -/
import Derived.Test.YtmeampolndpjeaaBeyonds
import Derived.Test.YtmeampolndpjeaaAliveStr
import Derived.Test.YtmeampolndpjeaaOpqMath
import Derived.Test.YtmeampolndpjeaaSame
import Derived.WalkSmall
namespace Go.Proofs.Ytmeampolndpjeaa
set_option linter.unusedVariables false
open Go.RowKit

set_option maxRecDepth 100000 in
set_option maxHeartbeats 1000000 in
theorem back_walk (s : ByteArray) (a1 : Option Addr) (len1 cap1 : Nat) (ms : List Int) (w : World) (hm : s.size ≤ 140737488351232)
    (hlc1 : len1 ≤ cap1) (hm1 : cap1 ≤ 140737488351232) (hz1 : ms.length = len1) (hb1 : Byt ms) (hs1 : Seg w a1 ms) (hnil1 : a1 = none → len1 = 0 ∧ cap1 = 0) :
    Calls Try.prog 4 #[.string s, .slice a1 len1 cap1] w fun e w' => e = .returned (.bool true) ∧ Below w.heap.size w w' := by
  obtain ⟨i0, hi, hz0, hz1', hz2⟩ := info_parts infoB
  cases hbey : beyond 0 [s.size, len1] with
  | true =>
    go_enter Try.func4, Try.ntmps4
    go_wp2_with fail
    refine (alive_any w).mono ?_
    rintro e w1 ⟨rfl, hB1⟩
    go_wp2_with fail
    refine (beyond_any [s.size, len1] _ 2 _ rfl (by omega) (by intro n hn; simp at hn; omega) (cell_pair w1 3 s.size len1)).mono ?_
    rintro e w' ⟨rfl, rfl⟩
    rw [hbey]
    have hB2 := hB1.alloc hB1.size (.cells #[.int .i64 (s.size : Int), .int .i64 (len1 : Int)] 3)
    generalize w1.alloc (.cells #[.int .i64 (s.size : Int), .int .i64 (len1 : Int)] 3) = w2 at *
    go_wp2_with fail
    refine (alive_any _).mono ?_
    rintro e w3 ⟨rfl, hB3⟩
    go_wp2
    go_ret
    exact ⟨rfl, hB2.trans (hB3.mono hB2.size)⟩
  | false =>
    have hl := beyond_le hbey (n := s.size) (by simp)
    have hl1 := beyond_le hbey (n := len1) (by simp)
    go_enter Try.func4, Try.ntmps4
    go_wp2_with fail
    refine (alive_any w).mono ?_
    rintro e w1 ⟨rfl, hB1⟩
    go_wp2_with fail
    refine (beyond_any [s.size, len1] _ 2 _ rfl (by omega) (by intro n hn; simp at hn; omega) (cell_pair w1 3 s.size len1)).mono ?_
    rintro e w' ⟨rfl, rfl⟩
    rw [hbey]
    have hB2 := hB1.alloc hB1.size (.cells #[.int .i64 (s.size : Int), .int .i64 (len1 : Int)] 3)
    generalize w1.alloc (.cells #[.int .i64 (s.size : Int), .int .i64 (len1 : Int)] 3) = w2 at *
    clear hB1 hbey
    go_wp2_with fail
    refine (strput_any s w2 (by omega)).mono ?_
    rintro e w3 ⟨v, rfl, hown3, hb3⟩
    have hB3 := hB2.trans (hb3.mono hB2.size)
    replace hown3 := own_base hown3 hB2.size
    obtain ⟨g, c, rfl, hc3, hd3, he3⟩ := own_shape hown3 (by omega)
    have hzl := tz_len s
    have hpl := padN_lt s.size
    have hopl : (opBytes (tz s)).length = 4 + (s.size + padN s.size) := by rw [opBytes_length, hzl]
    have hE3 := op_put (tz s) ms (by omega)
    rw [hzl] at hE3
    have hL1 : 0 < 4 + (s.size + padN s.size) := by omega
    have hL2 : 4 + (s.size + padN s.size) ≤ s.size + 7 := by omega
    obtain ⟨c4, hc41, hc42, hcv⟩ := conv_bytes w3 s (by omega)
    have hbc := conv_below w3 s
    have hsc := conv_seg w3 s
    have hput := putopq_any (some ⟨w3.heap.size, 0, none⟩) s.size c4 (tz s) (Lib.bytesWorld w3 5 s) hc41 (by omega) hzl hsc (by simp)
    generalize 4 + (s.size + padN s.size) = L at *
    generalize Lib.bytesWorld w3 5 s = w4 at *
    have hB4 := hB3.trans (hbc.mono hB3.size)
    replace hown3 := own_below hown3 hbc
    have hbo := byt_op (tz_byt s)
    have hq2 : Hid (Byt (opBytes (tz s) ++ ms)) := hbo.append hb1
    clear hb3 hB2 hbc hsc hpl
    go_wp2_with fail
    refine hput.mono ?_
    rintro e w5 ⟨v5, rfl, hown5, hb5⟩
    have hB5 := hB4.trans (hb5.mono hB4.size)
    replace hown3 := own_below hown3 hb5
    obtain ⟨g5, c5, rfl, hc5, hd5, he5⟩ := own_shape hown5 hL1
    have hsg := seg_own hown3 hopl
    have hsg5 := seg_own hown5 hopl
    clear hown5 hb5 hB4 hcv hB3
    go_wp2_with fail
    refine (same_true _ _ L c c5 (opBytes (tz s)) w5 (by omega) hopl hsg hsg5).mono ?_
    rintro e w' ⟨rfl, n6, rfl⟩
    have hB6 := below_drewN hB5 n6
    replace hown3 := own_below hown3 (below_drewN (Below.refl _ _) n6)
    generalize w5.drewN n6 = w6 at *
    clear hsg hsg5 hB5
    obtain ⟨hF1, hF2, hF3⟩ := hE3
    have HF2 : Hid (strOfNums (opZ (opBytes (tz s) ++ ms) s.size) = s) := by show _ = _; rw [hF2, str_tz]
    have HF1 : Hid (opE (opBytes (tz s) ++ ms) s.size = 0) := hF1
    have HF3 : Hid (opL (opBytes (tz s) ++ ms) s.size = L) := hF3
    clear hF1 hF2 hF3
    have hsm := hs1.below hB6
    cases a1 with
    | none =>
      obtain ⟨rfl, rfl⟩ := hnil1 rfl
      obtain rfl : ms = [] := List.length_eq_zero_iff.1 hz1
      go_wp2_with (at_builtin; refine wpList_append_own_none rfl _ _ 22 rfl w.heap.size 5 i0 1 Try.underlying22 hi _ L _ rfl hown3 rfl ?_)
      rw [List.append_nil] at HF1 HF2 HF3
      refine (strget_any _ L c (s.size : Int) (opBytes (tz s)) w6 hc3 hd3 hopl hbo (seg_own hown3 hopl) (by omega) (by omega)).mono ?_
      rintro e w7 ⟨rfl, hb7⟩
      rw [HF1.out, HF3.out, HF2.out]
      have hB7 := hB6.trans (hb7.mono hB6.size)
      clear HF1 HF2 HF3 hown3 hsm hs1 hB6
      go_wp2
      go_ret
      exact ⟨by simp, hB7⟩
    | some ad =>
      go_wp2_with (at_builtin; refine wpList_append_own _ rfl _ _ 22 rfl w.heap.size 5 i0 (.int .u8 0) 1 1 Try.underlying22 hi hz0 hz1' hz2 rfl (by decide) (.slice (some ⟨g, 0, none⟩) L c) L _ rfl hown3 ad len1 cap1 (ms.map (Value.int .u8)) rfl (by simp [hz1]) (seg_news hsm) (news_one ms) (by unfold maxLen; omega) (by omega) hB6.size ?_; intro v' w7 hown7 hgrow7 _)
      obtain ⟨g7, c7, rfl, hc7, hd7, he7⟩ := own_shape hown7 (by omega)
      rw [← List.map_append] at hown7
      have hl7 : (opBytes (tz s) ++ ms).length = L + len1 := by rw [List.length_append, hopl, hz1]
      have hB7 : Below w.heap.size w w7 := hB6.grown hgrow7 hB6.size (fun k e => by cases e; exact he3)
      refine (strget_any _ (L + len1) c7 (s.size : Int) (opBytes (tz s) ++ ms) w7 hc7 hd7 hl7 hq2.out (seg_own hown7 hl7) (by omega) (by omega)).mono ?_
      rintro e w8 ⟨rfl, hb8⟩
      rw [HF1.out, HF3.out, HF2.out]
      have hB8 := hB7.trans (hb8.mono hB7.size)
      clear HF1 HF2 HF3 hown3 hsm hs1 hB6 hgrow7 hown7 hB7
      go_wp2
      go_ret
      exact ⟨by simp, hB8⟩
end Go.Proofs.Ytmeampolndpjeaa
