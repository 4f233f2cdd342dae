/- The document's 'Put' of one who calls; nothing that was there turns. -/
import Derived.Test.YtciinabhelfnoaaDoorPxKitAppendEachM
import Derived.Test.YtciinabhelfnoaaDoorCredPutM
import Derived.Test.YtciinabhelfnoaaDoorRefPutFxRefStrPutM
import Derived.WalkSmall
namespace Go.Proofs.YtciinabhelfnoaaDoor
set_option linter.unusedVariables false
open Go.RowKit

theorem refPut_own (n : Int) (h0 : 0 ≤ n) (h1 : n ≤ 4294967295) (w : World) :
    Calls Tryd.prog 19 #[.int .u32 n] w fun e W' => e = .returned (.slice (some ⟨w.heap.size, 0, none⟩) 4 4) ∧ W'.ownsRow w.heap.size 5 1 (.slice (some ⟨w.heap.size, 0, none⟩) 4 4) 4 ((bytesOf n 4).map (Value.int .u8)) ∧ Below w.heap.size w W' := by
  refine (refPut_any n h0 h1 w).mono ?_
  rintro e W' ⟨rfl, rfl⟩
  exact ⟨rfl, full_own (by show (w.heap.push _)[w.heap.size]? = _; simp) (Nat.le_refl _) (by simp [bytesOf_length]) (by unfold maxLen; omega), (Below.refl _ _).alloc (Nat.le_refl _) _⟩

set_option maxRecDepth 100000 in
set_option maxHeartbeats 2000000 in
theorem refcput_no (stamp : Int) (m : ByteArray) (u g : Int) (a : Option Addr) (len cap : Nat) (w : World) (hmm : m.size ≤ 9223372036854775807) (hl : len ≤ 9223372036854775807) (hno : 255 < m.size ∨ 16 < len) :
    Calls Tryd.prog 18 #[.int .u32 stamp, .string m, .agg #[.int .u32 u, .int .u32 g, .slice a len cap]] w fun e w' => e = .returned (.tuple #[.slice none 0 0, .int .i64 1]) ∧ Below w.heap.size w w' := by
  have hB : Below w.heap.size w (w.alloc (.cells #[.int .u32 u, .int .u32 g, .slice a len cap] 25)) := (Below.refl _ _).alloc (Nat.le_refl _) _
  by_cases h1 : 255 < m.size
  · go_enter Tryd.func18, Tryd.ntmps18
    go_wp2
    go_ret2
    exact ⟨rfl, hB⟩
  · have h2 : 16 < len := by omega
    go_enter Tryd.func18, Tryd.ntmps18
    go_wp2
    go_ret2
    exact ⟨rfl, hB⟩

set_option maxRecDepth 100000 in
set_option maxHeartbeats 2000000 in
theorem refcput_yes (stamp : Int) (m : ByteArray) (u g : Int) (a : Option Addr) (len cap : Nat) (gs : List Int) (w : World) (hm : m.size ≤ 255) (hl : len ≤ 16) (hst : 0 ≤ stamp ∧ stamp ≤ 4294967295) (hu : 0 ≤ u ∧ u ≤ 4294967295) (hg : 0 ≤ g ∧ g ≤ 4294967295) (hz : gs.length = len) (hgs : U32s gs) (hs : Seg4 w a gs) :
    Calls Tryd.prog 18 #[.int .u32 stamp, .string m, .agg #[.int .u32 u, .int .u32 g, .slice a len cap]] w fun e w' => ∃ v, e = .returned (.tuple #[v, .int .i64 0]) ∧ w'.ownsRow w.heap.size 5 1 v (credB stamp (tz m) u g gs).length ((credB stamp (tz m) u g gs).map (Value.int .u8)) ∧ Below w.heap.size w w' := by
  obtain ⟨i0, hi, hz0, hz1', hz2⟩ := info_parts infoB
  have hpad := padN_lt m.size
  have H6 : Hid (credB stamp (tz m) u g gs = bytesOf stamp 4 ++ opBytes (tz m) ++ bytesOf u 4 ++ bytesOf g 4 ++ bytesOf (len : Int) 4 ++ numsB gs) := by rw [← hz]; exact credB_six _ _ _ _ _
  have hB0 : Below w.heap.size w (w.alloc (.cells #[.int .u32 u, .int .u32 g, .slice a len cap] 25)) := (Below.refl _ _).alloc (Nat.le_refl _) _
  have hd0 := heap_alloc_new w (.cells #[.int .u32 u, .int .u32 g, .slice a len cap] 25)
  have hsg0 := hs.below hB0
  generalize credB stamp (tz m) u g gs = B at *
  obtain ⟨c0, c1, c2, _, _, _⟩ := cred_at hd0
  go_enter Tryd.func18, Tryd.ntmps18
  go_wp2_with fail
  generalize w.alloc (.cells #[.int .u32 u, .int .u32 g, .slice a len cap] 25) = w0 at *
  have hopl : (opBytes (tz m)).length = 4 + (m.size + padN m.size) := by rw [opBytes_length, tz_len]
  have hwr : (len : Int) % 4294967296 = len := by omega
  refine (refPut_own stamp hst.1 hst.2 w0).mono ?_
  rintro e w4 ⟨rfl, ho4, hb4⟩
  have P4 : Px w0 (.slice (some ⟨w0.heap.size, 0, none⟩) 4 4) (bytesOf stamp 4) w4 := ⟨hb4, by rw [bytesOf_length]; exact ho4⟩
  clear ho4 hb4
  have hl4 : (bytesOf stamp 4).length ≤ 4 := by rw [bytesOf_length]; omega
  generalize bytesOf stamp 4 = x4 at P4 hl4 H6
  generalize (Value.slice (some ⟨w0.heap.size, 0, none⟩) 4 4) = v4 at *
  go_wp2_with fail
  refine (refstrput_any m w4 (by omega)).mono ?_
  rintro e y4 ⟨q4, rfl, hoq, hq4⟩
  obtain ⟨gq, cq, rfl, _, _, _⟩ := own_shape hoq (by omega)
  have ns4 := seg_own hoq hopl
  have Q4 := P4.next hq4
  clear P4 hq4 hoq
  go_wp2_with (at_builtin; refine wpList_append_own _ rfl _ _ 26 rfl w0.heap.size 5 i0 (.int .u8 0) 1 1 Tryd.underlying26 hi hz0 hz1' hz2 rfl (by decide) v4 x4.length _ rfl Q4.own ⟨gq, 0, none⟩ (4 + (m.size + padN m.size)) cq ((opBytes (tz m)).map (Value.int .u8)) rfl (by simp [hopl]) (seg_news ns4) (news_one _) (by unfold maxLen; omega) (by omega) Q4.below.size ?_; intro v5 w5 ho5 hg5 _; have P5 := Q4.app ho5 hopl hg5; obtain ⟨d0, d1, d2⟩ := low_cells P5.below hd0)
  clear ho5 hg5 Q4 d0 d1 d2 ns4
  have hl5 : (x4 ++ opBytes (tz m)).length ≤ 280 := by rw [List.length_append, hopl]; omega
  generalize x4 ++ opBytes (tz m) = x5 at P5 hl5 H6
  refine (refPut_own u hu.1 hu.2 w5).mono ?_
  rintro e y5 ⟨rfl, hoq, hq5⟩
  have ns5 := seg_own hoq (bytesOf_length _ 4)
  have Q5 := P5.next hq5
  clear P5 hq5 hoq
  go_wp2_with (at_builtin; refine wpList_append_own _ rfl _ _ 26 rfl w0.heap.size 5 i0 (.int .u8 0) 1 1 Tryd.underlying26 hi hz0 hz1' hz2 rfl (by decide) v5 x5.length _ rfl Q5.own ⟨w5.heap.size, 0, none⟩ 4 4 ((bytesOf u 4).map (Value.int .u8)) rfl (by simp [bytesOf_length]) (seg_news ns5) (news_one _) (by unfold maxLen; omega) (by omega) Q5.below.size ?_; intro v6 w6 ho6 hg6 _; have P6 := Q5.app ho6 (bytesOf_length _ 4) hg6; obtain ⟨d0, d1, d2⟩ := low_cells P6.below hd0)
  clear ho6 hg6 Q5 d0 d1 d2 ns5
  have hl6 : (x5 ++ bytesOf u 4).length ≤ 284 := by rw [List.length_append, bytesOf_length]; omega
  generalize x5 ++ bytesOf u 4 = x6 at P6 hl6 H6
  refine (refPut_own g hg.1 hg.2 w6).mono ?_
  rintro e y6 ⟨rfl, hoq, hq6⟩
  have ns6 := seg_own hoq (bytesOf_length _ 4)
  have Q6 := P6.next hq6
  clear P6 hq6 hoq
  go_wp2_with (at_builtin; refine wpList_append_own _ rfl _ _ 26 rfl w0.heap.size 5 i0 (.int .u8 0) 1 1 Tryd.underlying26 hi hz0 hz1' hz2 rfl (by decide) v6 x6.length _ rfl Q6.own ⟨w6.heap.size, 0, none⟩ 4 4 ((bytesOf g 4).map (Value.int .u8)) rfl (by simp [bytesOf_length]) (seg_news ns6) (news_one _) (by unfold maxLen; omega) (by omega) Q6.below.size ?_; intro v7 w7 ho7 hg7 _; have P7 := Q6.app ho7 (bytesOf_length _ 4) hg7; obtain ⟨d0, d1, d2⟩ := low_cells P7.below hd0)
  clear ho7 hg7 Q6 d0 d1 d2 ns6
  have hl7 : (x6 ++ bytesOf g 4).length ≤ 288 := by rw [List.length_append, bytesOf_length]; omega
  generalize x6 ++ bytesOf g 4 = x7 at P7 hl7 H6
  refine (refPut_own (len : Int) (by omega) (by omega) w7).mono ?_
  rintro e y7 ⟨rfl, hoq, hq7⟩
  have ns7 := seg_own hoq (bytesOf_length _ 4)
  have Q7 := P7.next hq7
  clear P7 hq7 hoq
  go_wp2_with (at_builtin; refine wpList_append_own _ rfl _ _ 26 rfl w0.heap.size 5 i0 (.int .u8 0) 1 1 Tryd.underlying26 hi hz0 hz1' hz2 rfl (by decide) v7 x7.length _ rfl Q7.own ⟨w7.heap.size, 0, none⟩ 4 4 ((bytesOf (len : Int) 4).map (Value.int .u8)) rfl (by simp [bytesOf_length]) (seg_news ns7) (news_one _) (by unfold maxLen; omega) (by omega) Q7.below.size ?_; intro v8 w8 ho8 hg8 _; have P8 := Q7.app ho8 (bytesOf_length _ 4) hg8; obtain ⟨d0, d1, d2⟩ := low_cells P8.below hd0)
  clear ho8 hg8 Q7 d0 d1 d2 ns7
  have hl8 : (x7 ++ bytesOf (len : Int) 4).length ≤ 292 := by rw [List.length_append, bytesOf_length]; omega
  generalize x7 ++ bytesOf (len : Int) 4 = x8 at P8 hl8 H6
  go_loopw [8, 9] (fun vx i wr => ∃ k : Nat, k ≤ len ∧ i = .int .i64 k ∧ Px w0 vx (x8 ++ numsB (gs.take k)) wr) (fun _ i _ => len - (intOf i).toNat)
  case atStart => exact ⟨0, by omega, rfl, by simpa [numsB] using P8⟩
  case round =>
    obtain ⟨k, hk, rfl, P⟩ := hrel
    clear P8
    obtain ⟨c0, c1, c2⟩ := low_cells P.below hd0
    by_cases hlt : k < len
    · rcases hsg0.below P.below with h | ⟨b, off, rfl, hc⟩
      · rw [h] at hz; simp at hz; omega
      · have hcx := hc k (by omega)
        have hux := hgs k
        obtain ⟨x, hx⟩ : ∃ x, gs[k]?.getD 0 = x := ⟨_, rfl⟩
        have HT : Hid (numsB (gs.take (k + 1)) = numsB (gs.take k) ++ bytesOf x 4) := numsB_take (by omega) hx
        rw [hx] at hcx hux
        clear hx hc
        have hki : (k : Int) < (len : Int) := by omega
        have hlk : (x8 ++ numsB (gs.take k)).length ≤ 400 := by rw [List.length_append, numsB_len, List.length_take]; omega
        have HT2 : Hid (x8 ++ numsB (gs.take (k + 1)) = (x8 ++ numsB (gs.take k)) ++ bytesOf x 4) := by show _ = _; rw [HT.out, List.append_assoc]
        clear HT
        generalize x8 ++ numsB (gs.take k) = X at P hlk HT2
        go_wp2_with fail
        refine (refPut_own x hux.1 hux.2 wr).mono ?_
        rintro e yk ⟨rfl, hoq, hq⟩
        have ns := seg_own hoq (bytesOf_length _ 4)
        have Q := P.next hq
        clear P hq hoq c0 c1 c2 hcx
        go_wp2_with (at_builtin; refine wpList_append_own _ rfl _ _ 26 rfl w0.heap.size 5 i0 (.int .u8 0) 1 1 Tryd.underlying26 hi hz0 hz1' hz2 rfl (by decide) _ X.length _ rfl Q.own ⟨wr.heap.size, 0, none⟩ 4 4 ((bytesOf x 4).map (Value.int .u8)) rfl (by simp [bytesOf_length]) (seg_news ns) (news_one _) (by unfold maxLen; omega) (by omega) Q.below.size ?_; intro v9 w9 ho9 hg9 _)
        have P9 := Q.app ho9 (bytesOf_length _ 4) hg9
        rw [← HT2.out] at P9
        clear ho9 hg9 Q ns
        go_roundw
        case rel => exact ⟨k + 1, by omega, by go_num, P9⟩
        case measure => simp [intOf]; omega
    · obtain rfl : k = len := by omega
      rw [List.take_of_length_le (by omega), ← H6.out] at P
      go_wp2
      go_ret2
      exact ⟨_, rfl, own_base P.own hB0.size, hB0.trans (P.below.mono hB0.size)⟩
end Go.Proofs.YtciinabhelfnoaaDoor
