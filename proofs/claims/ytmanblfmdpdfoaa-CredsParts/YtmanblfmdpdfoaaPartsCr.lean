/- The walk of 'CredsParts': true for any stamp, any machine, anybody; nothing that was there turns. -/
import Derived.Test.YtmanblfmdpdfoaaBackCr
namespace Go.Proofs.Ytmanblfmdpdfoaa
set_option linter.unusedVariables false
open Go.RowKit

theorem low_cells {w3 W : World} {H : Nat} {x y z : Value} {t : TypeId} (h : Below w3.heap.size w3 W) (hc : w3.heap[H]? = some (.cells #[x, y, z] t)) : W.cell? ⟨H, 0, none⟩ = some x ∧ W.cell? ⟨H, 1, none⟩ = some y ∧ W.cell? ⟨H, 2, none⟩ = some z :=
  have := cred_at ((h.block _ (Array.getElem?_eq_some_iff.1 hc).1).trans hc)
  ⟨this.1, this.2.1, this.2.2.1⟩

/-- Bytes of its own since w3, and w3 as it was. -/
structure Px (w3 : World) (vx : Value) (xs : List Int) (W : World) : Prop where
  below : Below w3.heap.size w3 W
  own : W.ownsRow w3.heap.size 5 1 vx xs.length (xs.map (Value.int .u8))
theorem Px.next {w3 : World} {vx : Value} {xs : List Int} {W W' : World} (h : Px w3 vx xs W) (hb : Below W.heap.size W W') : Px w3 vx xs W' := ⟨h.below.trans (hb.mono h.below.size), own_below h.own hb⟩
theorem Px.app {w3 : World} {vx v' : Value} {xs ys : List Int} {W W' : World} {n : Nat} (h : Px w3 vx xs W) (ho : W'.ownsRow w3.heap.size 5 1 v' (xs.length + n) (xs.map (Value.int .u8) ++ ys.map (Value.int .u8))) (hn : ys.length = n) (hg : W.grownBy W' vx.ownBlock) : Px w3 v' (xs ++ ys) W' :=
  ⟨h.below.grown hg h.below.size (fun k e => own_low h.own e), by rw [List.length_append, hn, List.map_append]; exact ho⟩

theorem credB_six (s : Int) (m : List Int) (u g : Int) (gs : List Int) : credB s m u g gs = bytesOf s 4 ++ opBytes m ++ bytesOf u 4 ++ bytesOf g 4 ++ bytesOf (gs.length : Int) 4 ++ numsB gs := by
  rw [credB, numsB_one, numsB_three]
  simp only [List.append_assoc]

set_option maxRecDepth 100000 in
set_option maxHeartbeats 2000000 in
theorem cparts_walk (stamp : Int) (m : ByteArray) (u g : Int) (a : Option Addr) (len cap : Nat) (gs : List Int) (w : World) (hst : 0 ≤ stamp ∧ stamp ≤ 4294967295) (hm : m.size ≤ 140737488351232) (hu : 0 ≤ u ∧ u ≤ 4294967295) (hg : 0 ≤ g ∧ g ≤ 4294967295) (hlc : len ≤ cap) (hcm : cap ≤ 140737488351232)
    (hz : gs.length = len) (hgs : U32s gs) (hs : Seg4 w a gs) :
    Calls Try.prog 6 #[.int .u32 stamp, .string m, .agg #[.int .u32 u, .int .u32 g, .slice a len cap]] w fun e w' => e = .returned (.bool true) ∧ Below w.heap.size w w' := by
  obtain ⟨i0, hi, hz0, hz1', hz2⟩ := info_parts infoB
  have X0 := Bx.start w u g (.slice a len cap)
  cases hbey : beyond 0 [m.size, len] with
  | true =>
    go_enter Try.func6, Try.ntmps6
    go_wp2_with fail
    generalize w.alloc (.cells #[.int .u32 u, .int .u32 g, .slice a len cap] 25) = w0 at *
    refine (alive_any w0).mono ?_
    rintro e w1 ⟨rfl, hb1⟩
    have X1 := X0.next hb1
    clear X0 hb1
    obtain ⟨_, _, c2, _, _, _⟩ := cred_at X1.cred
    go_wp2_with fail
    refine (beyond_any [m.size, len] _ 2 _ rfl (by omega) (by intro n hn; simp at hn; omega) (cell_pair w1 3 m.size len)).mono ?_
    rintro e w' ⟨rfl, rfl⟩
    rw [hbey]
    have X2 := X1.alloc (.cells #[.int .i64 (m.size : Int), .int .i64 (len : Int)] 3)
    generalize w1.alloc (.cells #[.int .i64 (m.size : Int), .int .i64 (len : Int)] 3) = w2 at *
    clear X1 c2
    go_wp2_with fail
    refine (alive_any _).mono ?_
    rintro e w3 ⟨rfl, hb3⟩
    have X3 := X2.next hb3
    go_wp2
    go_ret
    exact ⟨rfl, X3.below⟩
  | false =>
    have hl1 := beyond_le hbey (n := m.size) (by simp)
    have hl2 := beyond_le hbey (n := len) (by simp)
    go_enter Try.func6, Try.ntmps6
    go_wp2_with fail
    generalize w.alloc (.cells #[.int .u32 u, .int .u32 g, .slice a len cap] 25) = w0 at *
    refine (alive_any w0).mono ?_
    rintro e w1 ⟨rfl, hb1⟩
    have X1 := X0.next hb1
    clear X0 hb1
    obtain ⟨_, _, c2, _, _, _⟩ := cred_at X1.cred
    go_wp2_with fail
    refine (beyond_any [m.size, len] _ 2 _ rfl (by omega) (by intro n hn; simp at hn; omega) (cell_pair w1 3 m.size len)).mono ?_
    rintro e w' ⟨rfl, rfl⟩
    rw [hbey]
    have X2 := X1.alloc (.cells #[.int .i64 (m.size : Int), .int .i64 (len : Int)] 3)
    generalize w1.alloc (.cells #[.int .i64 (m.size : Int), .int .i64 (len : Int)] 3) = w2 at *
    clear X1 c2 hbey
    obtain ⟨c0, c1, c2, _, _, _⟩ := cred_at X2.cred
    go_wp2_with fail
    by_cases hno : 255 < m.size ∨ 16 < len
    · refine (cput_no stamp m u g a len cap w2 (by omega) (by omega) hno).mono ?_
      rintro e w3 ⟨rfl, hb3⟩
      have X3 := X2.next hb3
      go_wp2
      go_ret
      exact ⟨rfl, X3.below⟩
    · refine (cput_yes stamp m u g a len cap gs w2 (by omega) (by omega) hst hu hg hz hgs (hs.below X2.below)).mono ?_
      rintro e w3 ⟨v3, rfl, ho3, hb3⟩
      have X3 := X2.next hb3
      have hlen := credB_length stamp (tz m) u g gs
      rw [tz_len, hz] at hlen
      have hpad := padN_lt m.size
      obtain ⟨a3, k3, rfl, hs3, _, _, _⟩ := own_val ho3 rfl
      have H6 : Hid (credB stamp (tz m) u g gs = bytesOf stamp 4 ++ opBytes (tz m) ++ bytesOf u 4 ++ bytesOf g 4 ++ bytesOf (len : Int) 4 ++ numsB gs) := by rw [← hz]; exact credB_six _ _ _ _ _
      generalize credB stamp (tz m) u g gs = B at *
      replace hlen : B.length ≤ 1000 := by omega
      have hsg3 := hs.below X3.below
      clear ho3 hb3 X2 c0 c1 c2
      have hopl : (opBytes (tz m)).length = 4 + (m.size + padN m.size) := by rw [opBytes_length, tz_len]
      have hwr : (len : Int) % 4294967296 = len := by omega
      go_wp2_with fail
      refine (Put_any stamp hst.1 hst.2 w3).mono ?_
      rintro e w4 ⟨rfl, ho4, hb4⟩
      have P4 : Px w3 (.slice (some ⟨w3.heap.size, 0, none⟩) 4 4) (bytesOf stamp 4) w4 := ⟨hb4, by rw [bytesOf_length]; exact ho4⟩
      clear ho4 hb4
      have hl4 : (bytesOf stamp 4).length ≤ 4 := by rw [bytesOf_length]; omega
      generalize bytesOf stamp 4 = x4 at P4 hl4 H6
      generalize (Value.slice (some ⟨w3.heap.size, 0, none⟩) 4 4) = v4 at *
      go_wp2_with fail
      refine (strput_any m w4 (by omega)).mono ?_
      rintro e y4 ⟨q4, rfl, hoq, hq4⟩
      obtain ⟨gq, cq, rfl, _, _, _⟩ := own_shape hoq (by omega)
      have ns4 := seg_own hoq hopl
      have Q4 := P4.next hq4
      clear P4 hq4 hoq
      go_wp2_with (at_builtin; refine wpList_append_own _ rfl _ _ 32 rfl w3.heap.size 5 i0 (.int .u8 0) 1 1 Try.underlying32 hi hz0 hz1' hz2 rfl (by decide) v4 x4.length _ rfl Q4.own ⟨gq, 0, none⟩ (4 + (m.size + padN m.size)) cq ((opBytes (tz m)).map (Value.int .u8)) rfl (by simp [hopl]) (seg_news ns4) (news_one _) (by unfold maxLen; omega) (by omega) Q4.below.size ?_; intro v5 w5 ho5 hg5 _; have P5 := Q4.app ho5 hopl hg5; obtain ⟨d0, d1, d2⟩ := low_cells P5.below X3.cred)
      clear ho5 hg5 Q4 d0 d1 d2 ns4
      have hl5 : (x4 ++ opBytes (tz m)).length ≤ 280 := by rw [List.length_append, hopl]; omega
      generalize x4 ++ opBytes (tz m) = x5 at P5 hl5 H6
      refine (Put_any u hu.1 hu.2 w5).mono ?_
      rintro e y5 ⟨rfl, hoq, hq5⟩
      have ns5 := seg_own hoq (bytesOf_length _ 4)
      have Q5 := P5.next hq5
      clear P5 hq5 hoq
      go_wp2_with (at_builtin; refine wpList_append_own _ rfl _ _ 32 rfl w3.heap.size 5 i0 (.int .u8 0) 1 1 Try.underlying32 hi hz0 hz1' hz2 rfl (by decide) v5 x5.length _ rfl Q5.own ⟨w5.heap.size, 0, none⟩ 4 4 ((bytesOf u 4).map (Value.int .u8)) rfl (by simp [bytesOf_length]) (seg_news ns5) (news_one _) (by unfold maxLen; omega) (by omega) Q5.below.size ?_; intro v6 w6 ho6 hg6 _; have P6 := Q5.app ho6 (bytesOf_length _ 4) hg6; obtain ⟨d0, d1, d2⟩ := low_cells P6.below X3.cred)
      clear ho6 hg6 Q5 d0 d1 d2 ns5
      have hl6 : (x5 ++ bytesOf u 4).length ≤ 284 := by rw [List.length_append, bytesOf_length]; omega
      generalize x5 ++ bytesOf u 4 = x6 at P6 hl6 H6
      refine (Put_any g hg.1 hg.2 w6).mono ?_
      rintro e y6 ⟨rfl, hoq, hq6⟩
      have ns6 := seg_own hoq (bytesOf_length _ 4)
      have Q6 := P6.next hq6
      clear P6 hq6 hoq
      go_wp2_with (at_builtin; refine wpList_append_own _ rfl _ _ 32 rfl w3.heap.size 5 i0 (.int .u8 0) 1 1 Try.underlying32 hi hz0 hz1' hz2 rfl (by decide) v6 x6.length _ rfl Q6.own ⟨w6.heap.size, 0, none⟩ 4 4 ((bytesOf g 4).map (Value.int .u8)) rfl (by simp [bytesOf_length]) (seg_news ns6) (news_one _) (by unfold maxLen; omega) (by omega) Q6.below.size ?_; intro v7 w7 ho7 hg7 _; have P7 := Q6.app ho7 (bytesOf_length _ 4) hg7; obtain ⟨d0, d1, d2⟩ := low_cells P7.below X3.cred)
      clear ho7 hg7 Q6 d0 d1 d2 ns6
      have hl7 : (x6 ++ bytesOf g 4).length ≤ 288 := by rw [List.length_append, bytesOf_length]; omega
      generalize x6 ++ bytesOf g 4 = x7 at P7 hl7 H6
      refine (Put_any (len : Int) (by omega) (by omega) w7).mono ?_
      rintro e y7 ⟨rfl, hoq, hq7⟩
      have ns7 := seg_own hoq (bytesOf_length _ 4)
      have Q7 := P7.next hq7
      clear P7 hq7 hoq
      go_wp2_with (at_builtin; refine wpList_append_own _ rfl _ _ 32 rfl w3.heap.size 5 i0 (.int .u8 0) 1 1 Try.underlying32 hi hz0 hz1' hz2 rfl (by decide) v7 x7.length _ rfl Q7.own ⟨w7.heap.size, 0, none⟩ 4 4 ((bytesOf (len : Int) 4).map (Value.int .u8)) rfl (by simp [bytesOf_length]) (seg_news ns7) (news_one _) (by unfold maxLen; omega) (by omega) Q7.below.size ?_; intro v8 w8 ho8 hg8 _; have P8 := Q7.app ho8 (bytesOf_length _ 4) hg8; obtain ⟨d0, d1, d2⟩ := low_cells P8.below X3.cred)
      clear ho8 hg8 Q7 d0 d1 d2 ns7
      have hl8 : (x7 ++ bytesOf (len : Int) 4).length ≤ 292 := by rw [List.length_append, bytesOf_length]; omega
      generalize x7 ++ bytesOf (len : Int) 4 = x8 at P8 hl8 H6
      go_loopw [9, 10] (fun vx i wr => ∃ k : Nat, k ≤ len ∧ i = .int .i64 k ∧ Px w3 vx (x8 ++ numsB (gs.take k)) wr) (fun _ i _ => len - (intOf i).toNat)
      case atStart => exact ⟨0, by omega, rfl, by simpa [numsB] using P8⟩
      case round =>
        obtain ⟨k, hk, rfl, P⟩ := hrel
        clear P8
        obtain ⟨c0, c1, c2⟩ := low_cells P.below X3.cred
        by_cases hlt : k < len
        · rcases hsg3.below P.below with h | ⟨b, off, rfl, hc⟩
          · rw [h] at hz; simp at hz; omega
          · have hcx := hc k (by omega)
            have hux := hgs k
            obtain ⟨x, hx⟩ : ∃ x, gs[k]?.getD 0 = x := ⟨_, rfl⟩
            have HT : Hid (numsB (gs.take (k + 1)) = numsB (gs.take k) ++ bytesOf x 4) := numsB_take (by omega) hx
            rw [hx] at hcx hux
            clear hx hc
            have hki : (k : Int) < (len : Int) := by omega
            have hlk : (x8 ++ numsB (gs.take k)).length ≤ 400 := by rw [List.length_append, numsB_len, List.length_take]; omega
            have HT2 : Hid (x8 ++ numsB (gs.take (k + 1)) = (x8 ++ numsB (gs.take k)) ++ bytesOf x 4) := by show _ = _; rw [HT.out, List.append_assoc]
            clear HT
            generalize x8 ++ numsB (gs.take k) = X at P hlk HT2
            go_wp2_with fail
            refine (Put_any x hux.1 hux.2 wr).mono ?_
            rintro e yk ⟨rfl, hoq, hq⟩
            have ns := seg_own hoq (bytesOf_length _ 4)
            have Q := P.next hq
            clear P hq hoq c0 c1 c2 hcx
            go_wp2_with (at_builtin; refine wpList_append_own _ rfl _ _ 32 rfl w3.heap.size 5 i0 (.int .u8 0) 1 1 Try.underlying32 hi hz0 hz1' hz2 rfl (by decide) _ X.length _ rfl Q.own ⟨wr.heap.size, 0, none⟩ 4 4 ((bytesOf x 4).map (Value.int .u8)) rfl (by simp [bytesOf_length]) (seg_news ns) (news_one _) (by unfold maxLen; omega) (by omega) Q.below.size ?_; intro v9 w9 ho9 hg9 _)
            have P9 := Q.app ho9 (bytesOf_length _ 4) hg9
            rw [← HT2.out] at P9
            clear ho9 hg9 Q ns
            go_roundw
            case rel => exact ⟨k + 1, by omega, by go_num, P9⟩
            case measure => simp [intOf]; omega
        · obtain rfl : k = len := by omega
          rw [List.take_of_length_le (by omega), ← H6.out] at P
          obtain ⟨ax, kx, hvx, hsx, _, _, _⟩ := own_val P.own rfl
          subst hvx
          have hs3' := hs3.below P.below
          have hfin := X3.below.trans (P.below.mono X3.below.size)
          go_wp2_with fail
          refine (same_true a3 ax B.length k3 kx B wr (by omega) rfl hs3' hsx).mono ?_
          rintro e w' ⟨rfl, nn, rfl⟩
          have hfin2 := below_drewN hfin nn
          go_wp2
          go_ret
          exact ⟨rfl, hfin2⟩
end Go.Proofs.Ytmanblfmdpdfoaa
