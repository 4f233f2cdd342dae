/- The walk of 'MarksBack': true for any message, any size, any bytes behind it, any cut; nothing that was there turns. -/
import Derived.Test.YtmjjoiljdcjhdaaAliveMk
import Derived.Test.YtmjjoiljdcjhdaaBeyonds
import Derived.Test.YtmjjoiljdcjhdaaSame
import Derived.Laws.AppendOwnNone
import Derived.WalkSmall
namespace Go.Proofs.Ytmjjoiljdcjhdaa
set_option linter.unusedVariables false
open Go.RowKit

set_option maxRecDepth 100000 in
set_option maxHeartbeats 2000000 in
theorem mback_off (a : Option Addr) (len cap : Nat) (x0 x1 : Int) (a1 : Option Addr) (len1 cap1 : Nat) (w : World) (hlc : len ≤ cap) (hm : cap ≤ 140737488351232) (hlc1 : len1 ≤ cap1) (hm1 : cap1 ≤ 140737488351232) (h : 65536 < len ∨ beyond 0 [len1] = true) :
    Calls Try.prog 3 #[.slice a len cap, .agg #[.int .u16 x0, .int .u16 x1], .slice a1 len1 cap1] w fun e w' => e = .returned (.bool true) ∧ Below w.heap.size w w' := by
  have hB0 : Below w.heap.size w (w.alloc (.cells #[.int .u16 x0, .int .u16 x1] 24)) := (Below.refl _ _).alloc (Nat.le_refl _) _
  by_cases h0 : 65536 < len
  · go_enter Try.func3, Try.ntmps3
    go_wp2_with fail
    refine (alive_any _).mono ?_
    rintro e w1 ⟨rfl, hb1⟩
    have hB1 := hB0.trans (hb1.mono hB0.size)
    clear hb1
    go_wp2_with fail
    refine (alive_any _).mono ?_
    rintro e w2 ⟨rfl, hB2⟩
    go_wp2
    go_ret
    exact ⟨rfl, hB1.trans (hB2.mono hB1.size)⟩
  · have hbey : beyond 0 [len1] = true := h.resolve_left h0
    clear h
    go_enter Try.func3, Try.ntmps3
    go_wp2_with fail
    refine (alive_any _).mono ?_
    rintro e w1 ⟨rfl, hb1⟩
    have hB1 := hB0.trans (hb1.mono hB0.size)
    clear hb1
    go_wp2_with fail
    refine (beyond_any [len1] _ 1 _ rfl (by omega) (by intro n hn; simp at hn; omega) (cell_lone w1 3 len1)).mono ?_
    rintro e w' ⟨rfl, rfl⟩
    rw [hbey]
    have hB2 := hB1.alloc hB1.size (.cells #[.int .i64 (len1 : Int)] 3)
    generalize w1.alloc (.cells #[.int .i64 (len1 : Int)] 3) = w2 at *
    go_wp2_with fail
    refine (alive_any _).mono ?_
    rintro e w3 ⟨rfl, hB3⟩
    go_wp2
    go_ret
    exact ⟨rfl, hB2.trans (hB3.mono hB2.size)⟩

set_option maxRecDepth 100000 in
set_option maxHeartbeats 4000000 in
theorem mback_some (a : Option Addr) (len cap : Nat) (zs : List Int) (x0 x1 : Int) (ad1 : Addr) (len1 cap1 : Nat) (ms : List Int) (w : World) (h00 : 0 ≤ x0) (h01 : x0 ≤ 65535) (h10 : 0 ≤ x1) (h11 : x1 ≤ 65535)
    (hl : len ≤ 65536) (hlc : len ≤ cap) (hm : cap ≤ 140737488351232) (hz : zs.length = len) (hb : Byt zs) (hs : Seg w a zs) (hnil : a = none → len = 0 ∧ cap = 0)
    (hbey : beyond 0 [len1] = false) (hlc1 : len1 ≤ cap1) (hm1 : cap1 ≤ 140737488351232) (hz1 : ms.length = len1) (hb1 : Byt ms) (hs1 : Seg w (some ad1) ms) :
    Calls Try.prog 3 #[.slice a len cap, .agg #[.int .u16 x0, .int .u16 x1], .slice (some ad1) len1 cap1] w fun e w' => e = .returned (.bool true) ∧ Below w.heap.size w w' := by
  obtain ⟨i0, hi, hz0, hz1', hz2⟩ := info_parts infoB
  have hl1 := beyond_le hbey (n := len1) (by simp)
  have hB0 : Below w.heap.size w (w.alloc (.cells #[.int .u16 x0, .int .u16 x1] 24)) := (Below.refl _ _).alloc (Nat.le_refl _) _
  have hX : (w.alloc (.cells #[.int .u16 x0, .int .u16 x1] 24)).heap[w.heap.size]? = some (.cells #[.int .u16 x0, .int .u16 x1] 24) := World.alloc_heap_new _ _
  have hXs : (w.alloc (.cells #[.int .u16 x0, .int .u16 x1] 24)).heap.size = w.heap.size + 1 := by simp
  obtain ⟨k0, rfl⟩ := Int.eq_ofNat_of_zero_le h00
  go_enter Try.func3, Try.ntmps3
  go_wp2_with fail
  generalize w.alloc (.cells #[.int .u16 (k0 : Int), .int .u16 x1] 24) = wx at *
  refine (alive_any _).mono ?_
  rintro e w1 ⟨rfl, hq1⟩
  go_wp2_with fail
  refine (beyond_any [len1] _ 1 _ rfl (by omega) (by intro n hn; simp at hn; omega) (cell_lone w1 3 len1)).mono ?_
  rintro e w' ⟨rfl, rfl⟩
  rw [hbey]
  have hq2 : Below wx.heap.size wx (w1.alloc (.cells #[.int .i64 (len1 : Int)] 3)) := hq1.alloc hq1.size _
  generalize w1.alloc (.cells #[.int .i64 (len1 : Int)] 3) = w2 at *
  clear hq1 hbey
  have hX2 : w2.heap[w.heap.size]? = some (.cells #[.int .u16 (k0 : Int), .int .u16 x1] 24) := (hq2.block _ (by omega)).trans hX
  have c20 : w2.cell? ⟨w.heap.size, 0, none⟩ = some (.int .u16 (k0 : Int)) := by simp [World.cell?, hX2]
  have hsz := cut_any a len cap ((k0 + 1 : Nat) : Int) zs w2 hlc (by omega) hz ((hs.below hB0).below hq2) hnil (by omega) (by omega)
  have hce : cutE ((k0 + 1 : Nat) : Int) len = 0 := by
    unfold cutE
    rw [if_neg (by omega), if_neg (by omega)]
  rw [cutZs, hz, hce, if_pos rfl, Int.toNat_natCast] at hsz
  have hk1 : ((k0 + 1 : Nat) : Int) = (k0 : Int) + 1 := by omega
  rw [hk1] at hsz
  clear hce hX2
  go_wp2_with fail
  refine hsz.mono ?_
  rintro e w3 ⟨v3, rfl, hown3, hb3⟩
  have hq3 := hq2.trans (hb3.mono hq2.size)
  clear hsz hb3 c20
  have hpp := mput_any a len cap zs w3 hlc (by omega) hz ((hs.below hB0).below hq3) hnil
  rw [putZs, if_pos (by omega), putE, if_neg (by omega)] at hpp
  have hcl := cut_length (k0 + 1) zs (by omega)
  have hfl := frag_length true zs
  rw [hz] at hcl hfl
  have hmc := mg_cut 65536 (k0 + 1) zs ms (by omega) (by omega) (by omega)
  have hmf := mg_frag 65536 zs ms (by omega) (by omega)
  have hms := fun k (hk : k < (cutB (k0 + 1) zs).length) => mg_short 65536 (cutB (k0 + 1) zs) k (by have := mg_cut 65536 (k0 + 1) zs [] (by omega) (by omega) (by omega); rw [List.append_nil] at this; rw [this]) (by have := mg_cut 65536 (k0 + 1) zs [] (by omega) (by omega) (by omega); rw [List.append_nil] at this; rw [this]; exact hk)
  have hbc := byt_cut hb (k0 + 1) (by omega)
  have hbf := byt_frag hb true
  rw [hz] at hmf
  have HC : Hid (mg 65536 (cutB (k0 + 1) zs ++ ms) = (0, zs, (cutB (k0 + 1) zs).length)) := hmc
  have HF : Hid (mg 65536 (frag true zs ++ ms) = (0, zs, 4 + len)) := hmf
  have HS : Hid (∀ k, k < (cutB (k0 + 1) zs).length → (mg 65536 ((cutB (k0 + 1) zs).take k)).1 = 4) := hms
  clear hmc hmf hms
  generalize cutB (k0 + 1) zs = bs at *
  generalize frag true zs = fs at *
  obtain ⟨L, hL⟩ : ∃ L, bs.length = L := ⟨_, rfl⟩
  rw [hL] at hown3 hcl HC HS
  rw [hfl] at hpp
  obtain ⟨g3, c3, rfl, hc3, hd3, he3⟩ := own_shape hown3 (by omega)
  have hbL : Hid (bs.length = L) := hL
  have hfL : Hid (fs.length = 4 + len) := hfl
  clear hL hfl
  have hlt3 : g3 < w3.heap.size := (hown3.lt g3 rfl).2
  go_wp2_with fail
  refine hpp.mono ?_
  rintro e w4 ⟨v4, rfl, hown4, hb4⟩
  replace hown3 := own_below hown3 hb4
  have hq4 := hq3.trans (hb4.mono hq3.size)
  have hs34 := hb4.size
  obtain ⟨g4, c4, rfl, hc4, hd4, he4⟩ := own_shape hown4 (by omega)
  have hlt4 : g4 < w4.heap.size := (hown4.lt g4 rfl).2
  clear hpp hb4
  have hX4 : w4.heap[w.heap.size]? = some (.cells #[.int .u16 (k0 : Int), .int .u16 x1] 24) := (hq4.block _ (by omega)).trans hX
  have c41 : w4.cell? ⟨w.heap.size, 1, none⟩ = some (.int .u16 x1) := by simp [World.cell?, hX4]
  clear hX4
  have hk : ∃ k : Nat, x1 % (L : Int) = (k : Int) ∧ k < L := ⟨(x1 % (L : Int)).toNat, by have := Int.emod_nonneg x1 (show (L : Int) ≠ 0 by omega); omega, by have := Int.emod_lt_of_pos x1 (show (0 : Int) < L by omega); have := Int.emod_nonneg x1 (show (L : Int) ≠ 0 by omega); omega⟩
  obtain ⟨k, hk, hkL⟩ := hk
  have hsg3 := seg_own hown3 hbL.out
  have hg5 := mget_any (some ⟨g3, 0, none⟩) k c3 (bs.take k) w4 (by omega) hd3 (by rw [List.length_take, hbL.out]; omega) (hbc.take k) (hsg3.take k) (by simp)
  unfold mgPost at hg5
  rw [HS.out k hkL] at hg5
  have q1 : ¬ (L : Int) < 4 + (len : Int) := by omega
  have q2 : ((4 + len : Nat) : Int) = 4 + (len : Int) := by omega
  have q3 : ((4 + (len : Int)) != (4 + (len : Int))) = false := by simp
  have q4 : ¬ (L : Int) = 0 := by omega
  have q5 : (0 : Int) < (L : Int) := by omega
  go_wp2_with fail
  refine hg5.mono ?_
  rintro e w5 ⟨v5, rfl, _, hb5⟩
  clear hg5
  have hq5 := hq4.trans (hb5.mono hq4.size)
  have hs45 := hb5.size
  replace hown3 := own_below hown3 hb5
  replace hown4 := own_below hown4 hb5
  clear hb5 hsg3 c41 hk hkL HS
  have hs2 := hq2.size
  go_wp2_with (at_builtin; refine wpList_append_own _ rfl _ _ 22 rfl w2.heap.size 5 i0 (.int .u8 0) 1 1 Try.underlying22 hi hz0 hz1' hz2 rfl (by decide) (.slice (some ⟨g3, 0, none⟩) L c3) L _ rfl hown3 ad1 len1 cap1 (ms.map (Value.int .u8)) rfl (by simp [hz1]) (seg_news ((hs1.below hB0).below hq5)) (news_one ms) (by unfold maxLen; omega) (by omega) (by omega) ?_; intro v6 w6 hown6 hgrow6 _)
  obtain ⟨g6, c6, rfl, hc6, hd6, he6⟩ := own_shape hown6 (by omega)
  rw [← List.map_append] at hown6
  have hl6 : (bs ++ ms).length = L + len1 := by rw [List.length_append, hbL.out, hz1]
  obtain ⟨N6, hN6⟩ : ∃ N6, L + len1 = N6 := ⟨_, rfl⟩
  rw [hN6] at hown6 hl6 hc6 ⊢
  have hq6 : Below wx.heap.size wx w6 := hq5.grown hgrow6 hq5.size (fun k e => by have := own_low hown3 e; omega)
  replace hown4 : w6.ownsRow w3.heap.size 5 1 (.slice (some ⟨g4, 0, none⟩) (4 + len) c4) (4 + len) (fs.map (Value.int .u8)) := hown4.kept hgrow6 (.inr (by simp [Value.ownBlock]; omega))
  have hs56 := hgrow6.size
  clear hgrow6 hown3 hq5
  have hg7 := mget_any (some ⟨g6, 0, none⟩) N6 c6 (bs ++ ms) w6 hc6 hd6 hl6 (hbc.append hb1) (seg_own hown6 hl6) (by simp)
  unfold mgPost at hg7
  rw [HC.out] at hg7
  dsimp only at hg7
  refine hg7.mono ?_
  rintro e w7 ⟨v7, rfl, hown7, hb7⟩
  clear hg7 hown6
  have hq7 := hq6.trans (hb7.mono hq6.size)
  replace hown4 := own_below hown4 hb7
  have hs67 := hb7.size
  rw [hz] at hown7
  obtain ⟨a7, c7, rfl, _⟩ := own_val hown7 hz
  clear hb7 HC
  go_wp2_with (at_builtin; refine wpList_append_own _ rfl _ _ 22 rfl w3.heap.size 5 i0 (.int .u8 0) 1 1 Try.underlying22 hi hz0 hz1' hz2 rfl (by decide) (.slice (some ⟨g4, 0, none⟩) (4 + len) c4) (4 + len) _ rfl hown4 ad1 len1 cap1 (ms.map (Value.int .u8)) rfl (by simp [hz1]) (seg_news ((hs1.below hB0).below hq7)) (news_one ms) (by unfold maxLen; omega) (by omega) (by omega) ?_; intro v8 w8 hown8 hgrow8 _)
  obtain ⟨g8, c8, rfl, hc8, hd8, he8⟩ := own_shape hown8 (by omega)
  rw [← List.map_append] at hown8
  have hl8 : (fs ++ ms).length = 4 + len + len1 := by rw [List.length_append, hfL.out, hz1]
  obtain ⟨N8, hN8⟩ : ∃ N8, 4 + len + len1 = N8 := ⟨_, rfl⟩
  rw [hN8] at hown8 hl8 hc8 ⊢
  have hs23 := hq3.size
  have hq8 : Below wx.heap.size wx w8 := hq7.grown hgrow8 hq7.size (fun k e => by have := own_low hown4 e; omega)
  have hrr : ∀ r, (Value.slice (some ⟨g4, 0, none⟩) (4 + len) c4).ownBlock = some r → r < w6.heap.size := by
    intro r e
    have h : g4 = r := by simpa [Value.ownBlock] using e
    omega
  replace hown7 : w8.ownsRow w6.heap.size 5 1 (.slice a7 len c7) len (zs.map (Value.int .u8)) := row_kept hown7 hgrow8 (fun r e => .inl (hrr r e))
  clear hgrow8 hown4 hq7
  have hg9 := mget_any (some ⟨g8, 0, none⟩) N8 c8 (fs ++ ms) w8 hc8 hd8 hl8 (hbf.append hb1) (seg_own hown8 hl8) (by simp)
  unfold mgPost at hg9
  rw [HF.out] at hg9
  dsimp only at hg9
  refine hg9.mono ?_
  rintro e w9 ⟨v9, rfl, hown9, hb9⟩
  clear hg9 hown8 HF
  have hq9 := hq8.trans (hb9.mono hq8.size)
  rw [hz] at hown9
  replace hown7 := own_below hown7 hb9
  obtain ⟨a7', c7', hv7, hs7, _⟩ := own_val hown7 hz
  cases hv7
  obtain ⟨a9, c9, rfl, hs9, _⟩ := own_val hown9 hz
  have hsm := (hs.below hB0).below hq9
  have hB9 := hB0.trans (hq9.mono hB0.size)
  clear hown7 hown9 hq9 hb9 hs hs1
  have q6 : ((L : Int) == (L : Int)) = true := by simp
  have q7 : ((4 + (len : Int)) == (4 + (len : Int))) = true := by simp
  go_wp2_with fail
  refine (same_true _ _ len c7 cap zs w9 (by omega) hz hs7 hsm).mono ?_
  rintro e w' ⟨rfl, n7, rfl⟩
  have hB10 := below_drewN hB9 n7
  have hs9' := hs9.below (below_drewN (Below.refl _ _) n7)
  have hsm' := hsm.below (below_drewN (Below.refl _ _) n7)
  generalize w9.drewN n7 = w10 at *
  clear hs9 hsm hB9 hs7
  go_wp2_with fail
  refine (same_true _ _ len c9 cap zs w10 (by omega) hz hs9' hsm').mono ?_
  rintro e w' ⟨rfl, n8, rfl⟩
  have hB11 := below_drewN hB10 n8
  go_wp2
  go_ret
  exact ⟨rfl, hB11⟩

set_option maxRecDepth 100000 in
set_option maxHeartbeats 4000000 in
theorem mback_none (a : Option Addr) (len cap : Nat) (zs : List Int) (x0 x1 : Int) (w : World) (h00 : 0 ≤ x0) (h01 : x0 ≤ 65535) (h10 : 0 ≤ x1) (h11 : x1 ≤ 65535)
    (hl : len ≤ 65536) (hlc : len ≤ cap) (hm : cap ≤ 140737488351232) (hz : zs.length = len) (hb : Byt zs) (hs : Seg w a zs) (hnil : a = none → len = 0 ∧ cap = 0)
    (hbey : beyond 0 [0] = false) :
    Calls Try.prog 3 #[.slice a len cap, .agg #[.int .u16 x0, .int .u16 x1], .slice none 0 0] w fun e w' => e = .returned (.bool true) ∧ Below w.heap.size w w' := by
  obtain ⟨i0, hi, hz0, hz1', hz2⟩ := info_parts infoB
  have hB0 : Below w.heap.size w (w.alloc (.cells #[.int .u16 x0, .int .u16 x1] 24)) := (Below.refl _ _).alloc (Nat.le_refl _) _
  have hX : (w.alloc (.cells #[.int .u16 x0, .int .u16 x1] 24)).heap[w.heap.size]? = some (.cells #[.int .u16 x0, .int .u16 x1] 24) := World.alloc_heap_new _ _
  have hXs : (w.alloc (.cells #[.int .u16 x0, .int .u16 x1] 24)).heap.size = w.heap.size + 1 := by simp
  obtain ⟨k0, rfl⟩ := Int.eq_ofNat_of_zero_le h00
  go_enter Try.func3, Try.ntmps3
  go_wp2_with fail
  generalize w.alloc (.cells #[.int .u16 (k0 : Int), .int .u16 x1] 24) = wx at *
  refine (alive_any _).mono ?_
  rintro e w1 ⟨rfl, hq1⟩
  go_wp2_with fail
  refine (beyond_any [0] _ 1 _ rfl (by omega) (by intro n hn; simp at hn; omega) (cell_lone w1 3 0)).mono ?_
  rintro e w' ⟨rfl, rfl⟩
  rw [hbey]
  have hq2 : Below wx.heap.size wx (w1.alloc (.cells #[.int .i64 (0 : Int)] 3)) := hq1.alloc hq1.size _
  generalize w1.alloc (.cells #[.int .i64 (0 : Int)] 3) = w2 at *
  clear hq1 hbey
  have hX2 : w2.heap[w.heap.size]? = some (.cells #[.int .u16 (k0 : Int), .int .u16 x1] 24) := (hq2.block _ (by omega)).trans hX
  have c20 : w2.cell? ⟨w.heap.size, 0, none⟩ = some (.int .u16 (k0 : Int)) := by simp [World.cell?, hX2]
  have hsz := cut_any a len cap ((k0 + 1 : Nat) : Int) zs w2 hlc (by omega) hz ((hs.below hB0).below hq2) hnil (by omega) (by omega)
  have hce : cutE ((k0 + 1 : Nat) : Int) len = 0 := by
    unfold cutE
    rw [if_neg (by omega), if_neg (by omega)]
  rw [cutZs, hz, hce, if_pos rfl, Int.toNat_natCast] at hsz
  have hk1 : ((k0 + 1 : Nat) : Int) = (k0 : Int) + 1 := by omega
  rw [hk1] at hsz
  clear hce hX2
  go_wp2_with fail
  refine hsz.mono ?_
  rintro e w3 ⟨v3, rfl, hown3, hb3⟩
  have hq3 := hq2.trans (hb3.mono hq2.size)
  clear hsz hb3 c20
  have hpp := mput_any a len cap zs w3 hlc (by omega) hz ((hs.below hB0).below hq3) hnil
  rw [putZs, if_pos (by omega), putE, if_neg (by omega)] at hpp
  have hcl := cut_length (k0 + 1) zs (by omega)
  have hfl := frag_length true zs
  rw [hz] at hcl hfl
  have hmc := mg_cut 65536 (k0 + 1) zs [] (by omega) (by omega) (by omega)
  have hmf := mg_frag 65536 zs [] (by omega) (by omega)
  have hms := fun k (hk : k < (cutB (k0 + 1) zs).length) => mg_short 65536 (cutB (k0 + 1) zs) k (by have := mg_cut 65536 (k0 + 1) zs [] (by omega) (by omega) (by omega); rw [List.append_nil] at this; rw [this]) (by have := mg_cut 65536 (k0 + 1) zs [] (by omega) (by omega) (by omega); rw [List.append_nil] at this; rw [this]; exact hk)
  have hbc := byt_cut hb (k0 + 1) (by omega)
  have hbf := byt_frag hb true
  rw [hz] at hmf
  have HC : Hid (mg 65536 (cutB (k0 + 1) zs ++ []) = (0, zs, (cutB (k0 + 1) zs).length)) := hmc
  have HF : Hid (mg 65536 (frag true zs ++ []) = (0, zs, 4 + len)) := hmf
  have HS : Hid (∀ k, k < (cutB (k0 + 1) zs).length → (mg 65536 ((cutB (k0 + 1) zs).take k)).1 = 4) := hms
  clear hmc hmf hms
  generalize cutB (k0 + 1) zs = bs at *
  generalize frag true zs = fs at *
  obtain ⟨L, hL⟩ : ∃ L, bs.length = L := ⟨_, rfl⟩
  rw [hL] at hown3 hcl HC HS
  rw [hfl] at hpp
  obtain ⟨g3, c3, rfl, hc3, hd3, he3⟩ := own_shape hown3 (by omega)
  have hbL : Hid (bs.length = L) := hL
  have hfL : Hid (fs.length = 4 + len) := hfl
  clear hL hfl
  have hlt3 : g3 < w3.heap.size := (hown3.lt g3 rfl).2
  go_wp2_with fail
  refine hpp.mono ?_
  rintro e w4 ⟨v4, rfl, hown4, hb4⟩
  replace hown3 := own_below hown3 hb4
  have hq4 := hq3.trans (hb4.mono hq3.size)
  have hs34 := hb4.size
  obtain ⟨g4, c4, rfl, hc4, hd4, he4⟩ := own_shape hown4 (by omega)
  have hlt4 : g4 < w4.heap.size := (hown4.lt g4 rfl).2
  clear hpp hb4
  have hX4 : w4.heap[w.heap.size]? = some (.cells #[.int .u16 (k0 : Int), .int .u16 x1] 24) := (hq4.block _ (by omega)).trans hX
  have c41 : w4.cell? ⟨w.heap.size, 1, none⟩ = some (.int .u16 x1) := by simp [World.cell?, hX4]
  clear hX4
  have hk : ∃ k : Nat, x1 % (L : Int) = (k : Int) ∧ k < L := ⟨(x1 % (L : Int)).toNat, by have := Int.emod_nonneg x1 (show (L : Int) ≠ 0 by omega); omega, by have := Int.emod_lt_of_pos x1 (show (0 : Int) < L by omega); have := Int.emod_nonneg x1 (show (L : Int) ≠ 0 by omega); omega⟩
  obtain ⟨k, hk, hkL⟩ := hk
  have hsg3 := seg_own hown3 hbL.out
  have hg5 := mget_any (some ⟨g3, 0, none⟩) k c3 (bs.take k) w4 (by omega) hd3 (by rw [List.length_take, hbL.out]; omega) (hbc.take k) (hsg3.take k) (by simp)
  unfold mgPost at hg5
  rw [HS.out k hkL] at hg5
  have q1 : ¬ (L : Int) < 4 + (len : Int) := by omega
  have q2 : ((4 + len : Nat) : Int) = 4 + (len : Int) := by omega
  have q3 : ((4 + (len : Int)) != (4 + (len : Int))) = false := by simp
  have q4 : ¬ (L : Int) = 0 := by omega
  have q5 : (0 : Int) < (L : Int) := by omega
  go_wp2_with fail
  refine hg5.mono ?_
  rintro e w5 ⟨v5, rfl, _, hb5⟩
  clear hg5
  have hq5 := hq4.trans (hb5.mono hq4.size)
  have hs45 := hb5.size
  replace hown3 := own_below hown3 hb5
  replace hown4 := own_below hown4 hb5
  clear hb5 hsg3 c41 hk hkL HS
  have hs2 := hq2.size
  go_wp2_with (at_builtin; refine wpList_append_own_none rfl _ _ 22 rfl w2.heap.size 5 i0 1 Try.underlying22 hi (.slice (some ⟨g3, 0, none⟩) L c3) L _ rfl hown3 rfl ?_)
  have hl6 : (bs ++ []).length = L := by rw [List.append_nil, hbL.out]
  have hown6 : w5.ownsRow w2.heap.size 5 1 (.slice (some ⟨g3, 0, none⟩) L c3) L ((bs ++ []).map (Value.int .u8)) := by rw [List.append_nil]; exact hown3
  have hq6 := hq5
  have hg7 := mget_any (some ⟨g3, 0, none⟩) L c3 (bs ++ []) w5 hc3 hd3 hl6 (hbc.append (fun i => by simp)) (seg_own hown6 hl6) (by simp)
  unfold mgPost at hg7
  rw [HC.out] at hg7
  dsimp only at hg7
  refine hg7.mono ?_
  rintro e w7 ⟨v7, rfl, hown7, hb7⟩
  clear hg7 hown6
  have hq7 := hq6.trans (hb7.mono hq6.size)
  replace hown4 := own_below hown4 hb7
  have hs67 := hb7.size
  rw [hz] at hown7
  obtain ⟨a7, c7, rfl, _⟩ := own_val hown7 hz
  clear hb7 HC
  go_wp2_with (at_builtin; refine wpList_append_own_none rfl _ _ 22 rfl w3.heap.size 5 i0 1 Try.underlying22 hi (.slice (some ⟨g4, 0, none⟩) (4 + len) c4) (4 + len) _ rfl hown4 rfl ?_)
  have hl8 : (fs ++ []).length = 4 + len := by rw [List.append_nil, hfL.out]
  have hown8 : w7.ownsRow w3.heap.size 5 1 (.slice (some ⟨g4, 0, none⟩) (4 + len) c4) (4 + len) ((fs ++ []).map (Value.int .u8)) := by rw [List.append_nil]; exact hown4
  have hq8 := hq7
  have hg9 := mget_any (some ⟨g4, 0, none⟩) (4 + len) c4 (fs ++ []) w7 hc4 hd4 hl8 (hbf.append (fun i => by simp)) (seg_own hown8 hl8) (by simp)
  unfold mgPost at hg9
  rw [HF.out] at hg9
  dsimp only at hg9
  refine hg9.mono ?_
  rintro e w9 ⟨v9, rfl, hown9, hb9⟩
  clear hg9 hown8 HF
  have hq9 := hq8.trans (hb9.mono hq8.size)
  rw [hz] at hown9
  replace hown7 := own_below hown7 hb9
  obtain ⟨a7', c7', hv7, hs7, _⟩ := own_val hown7 hz
  cases hv7
  obtain ⟨a9, c9, rfl, hs9, _⟩ := own_val hown9 hz
  have hsm := (hs.below hB0).below hq9
  have hB9 := hB0.trans (hq9.mono hB0.size)
  clear hown7 hown9 hq9 hb9 hs
  have q6 : ((L : Int) == (L : Int)) = true := by simp
  have q7 : ((4 + (len : Int)) == (4 + (len : Int))) = true := by simp
  go_wp2_with fail
  refine (same_true _ _ len c7 cap zs w9 (by omega) hz hs7 hsm).mono ?_
  rintro e w' ⟨rfl, n7, rfl⟩
  have hB10 := below_drewN hB9 n7
  have hs9' := hs9.below (below_drewN (Below.refl _ _) n7)
  have hsm' := hsm.below (below_drewN (Below.refl _ _) n7)
  generalize w9.drewN n7 = w10 at *
  clear hs9 hsm hB9 hs7
  go_wp2_with fail
  refine (same_true _ _ len c9 cap zs w10 (by omega) hz hs9' hsm').mono ?_
  rintro e w' ⟨rfl, n8, rfl⟩
  have hB11 := below_drewN hB10 n8
  go_wp2
  go_ret
  exact ⟨rfl, hB11⟩

theorem mback_walk (a : Option Addr) (len cap : Nat) (zs : List Int) (x0 x1 : Int) (a1 : Option Addr) (len1 cap1 : Nat) (ms : List Int) (w : World) (h00 : 0 ≤ x0) (h01 : x0 ≤ 65535) (h10 : 0 ≤ x1) (h11 : x1 ≤ 65535)
    (hlc : len ≤ cap) (hm : cap ≤ 140737488351232) (hz : zs.length = len) (hb : Byt zs) (hs : Seg w a zs) (hnil : a = none → len = 0 ∧ cap = 0)
    (hlc1 : len1 ≤ cap1) (hm1 : cap1 ≤ 140737488351232) (hz1 : ms.length = len1) (hb1 : Byt ms) (hs1 : Seg w a1 ms) (hnil1 : a1 = none → len1 = 0 ∧ cap1 = 0) :
    Calls Try.prog 3 #[.slice a len cap, .agg #[.int .u16 x0, .int .u16 x1], .slice a1 len1 cap1] w fun e w' => e = .returned (.bool true) ∧ Below w.heap.size w w' := by
  by_cases h : 65536 < len ∨ beyond 0 [len1] = true
  · exact mback_off a len cap x0 x1 a1 len1 cap1 w hlc hm hlc1 hm1 h
  · have h1 : len ≤ 65536 := by omega
    have h2 : beyond 0 [len1] = false := by
      cases hh : beyond 0 [len1] with
      | false => rfl
      | true => exact absurd (.inr hh) h
    cases a1 with
    | none =>
      obtain ⟨rfl, rfl⟩ := hnil1 rfl
      exact mback_none a len cap zs x0 x1 w h00 h01 h10 h11 h1 hlc hm hz hb hs hnil h2
    | some ad1 => exact mback_some a len cap zs x0 x1 ad1 len1 cap1 ms w h00 h01 h10 h11 h1 hlc hm hz hb hs hnil h2 hlc1 hm1 hz1 hb1 hs1
end Go.Proofs.Ytmjjoiljdcjhdaa
