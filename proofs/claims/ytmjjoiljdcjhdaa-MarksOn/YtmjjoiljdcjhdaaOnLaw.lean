/- The walk of 'MarksOn': true for any two lists of bytes; nothing that was there turns. -/
import Derived.Test.YtmjjoiljdcjhdaaAliveMk
import Derived.Test.YtmjjoiljdcjhdaaMsgLists
import Derived.Laws.AppendOwnNone
namespace Go.Proofs.Ytmjjoiljdcjhdaa
set_option linter.unusedVariables false
open Go.RowKit

set_option maxRecDepth 100000 in
set_option maxHeartbeats 2000000 in
theorem on_off (a : Option Addr) (len cap : Nat) (a1 : Option Addr) (len1 cap1 : Nat) (w : World) (hm : cap ≤ 140737488351232) (hm1 : cap1 ≤ 140737488351232) (hlc : len ≤ cap) (hlc1 : len1 ≤ cap1) (h : 100000 < len ∨ 100000 < len1) :
    Calls Try.prog 5 #[.slice a len cap, .slice a1 len1 cap1] w fun e w' => e = .returned (.bool true) ∧ Below w.heap.size w w' := by
  by_cases h0 : 100000 < len
  · go_enter Try.func5, Try.ntmps5
    go_wp2_with fail
    refine (alive_any w).mono ?_
    rintro e w1 ⟨rfl, hB1⟩
    go_wp2_with fail
    refine (alive_any w1).mono ?_
    rintro e w2 ⟨rfl, hB2⟩
    go_wp2
    go_ret
    exact ⟨rfl, hB1.trans (hB2.mono hB1.size)⟩
  · have h2 : 100000 < len1 := by omega
    go_enter Try.func5, Try.ntmps5
    go_wp2_with fail
    refine (alive_any w).mono ?_
    rintro e w1 ⟨rfl, hB1⟩
    go_wp2_with fail
    refine (alive_any w1).mono ?_
    rintro e w2 ⟨rfl, hB2⟩
    go_wp2
    go_ret
    exact ⟨rfl, hB1.trans (hB2.mono hB1.size)⟩

set_option maxRecDepth 100000 in
set_option maxHeartbeats 2000000 in
theorem on_none_none (a1 : Option Addr) (ad1 : Addr) (len1 cap1 : Nat) (ms : List Int) (w : World) (hl1 : len1 ≤ 100000) (hlc1 : len1 ≤ cap1) (hm1 : cap1 ≤ 140737488351232) (hz1 : ms.length = len1) (hb1 : Byt ms) (hs1 : Seg w none ms) (hnil1 : len1 = 0 ∧ cap1 = 0) :
    Calls Try.prog 5 #[.slice none 0 0, .slice none len1 cap1] w fun e w' => e = .returned (.bool true) ∧ Below w.heap.size w w' := by
  obtain ⟨i0, hi, hz0, hz1', hz2⟩ := info_parts infoB
  go_enter Try.func5, Try.ntmps5
  go_wp2_with fail
  refine (alive_any w).mono ?_
  rintro e w1 ⟨rfl, hB1⟩
  go_wp2_with fail
  refine (all_any none 0 0 [] w1 (by omega) (by omega) (by omega) rfl (fun i => by simp) (.inl rfl) (by simp)).mono ?_
  rintro e w2 ⟨v1, ps1, rfl, he1, hr1, ho1, _, hb2⟩
  have hB2 := hB1.trans (hb2.mono hB1.size)
  obtain ⟨al, cl, rfl⟩ := row_shape hr1
  obtain ⟨hg1, hc1, _⟩ := own_segs hr1 rfl
  have hi1 : ∀ p ∈ ps1, p.In w2 := fun p hp => (ho1 p hp).isIn
  clear hr1 ho1 hb2 hB1
  obtain ⟨rfl, rfl⟩ := hnil1
  obtain rfl : ms = [] := List.length_eq_zero_iff.1 hz1
  go_wp2_with (at_builtin; refine wpList_append_own_none rfl _ _ 22 rfl w2.heap.size 5 i0 1 Try.underlying22 hi (.slice none 0 0) 0 [] rfl (own_empty w2 _ _) rfl ?_)
  obtain ⟨ZZ, hZZ⟩ : ∃ ZZ : List Int, [] = ZZ := ⟨_, rfl⟩
  have hZ : Hid ([] ++ [] = ZZ) := by show _ = _; rw [← hZZ]; try simp
  have hl7 : ZZ.length = 0 := by rw [← hZZ]; simp
  have hbZ : Byt ZZ := by rw [← hZ.out]; exact (show Byt [] from fun i => by simp).append hb1
  have hNN : 0 ≤ 1000000 := by omega
  have hown7 : w2.ownsRow w2.heap.size 5 1 (.slice none 0 0) 0 (ZZ.map (Value.int .u8)) := by rw [← hZZ]; exact (own_empty w2 _ _)
  have hB7 := (Below.refl w2.heap.size w2)
  clear hZZ
  obtain ⟨ax, cx, hv7, hsx, hlx, hmx, hnx⟩ := own_val hown7 hl7
  cases hv7
  clear hown7
  refine (all_any _ _ _ ZZ w2 hNN hlx hmx hl7 hbZ hsx hnx).mono ?_
  rintro e w8 ⟨v2, ps2, rfl, he2, hr2, ho2, _, hB8⟩
  have hB9 := hB2.trans (hB8.mono hB2.size)
  obtain ⟨am, cm, rfl⟩ := row_shape hr2
  obtain ⟨hg2, hc2, _⟩ := own_segs hr2 rfl
  replace hg1 := hg1.below hB8
  replace hi1 : ∀ p ∈ ps1, p.In w8 := fun p hp => (hi1 p hp).below hB8
  obtain ⟨⟨r, hr⟩, hN, hE⟩ := mall_on [] []
  rw [hZ.out] at hr hN hE
  have hNl := (mall_size []).1
  have hp1 : ps1.length ≤ 1000000 := by
    have h1 := congrArg List.length he1
    rw [List.length_map] at h1
    have h2 := mall_size []
    rw [show ([] : List Int).length = 0 from rfl] at h2
    omega
  have hl12 : ps1.length ≤ ps2.length := by
    have h1 := congrArg List.length he1
    have h2 := congrArg List.length he2
    rw [hr, List.length_append] at h2
    simp only [List.length_map] at h1 h2
    omega
  have htk : (ps2.take ps1.length).map Part.zs = ps1.map Part.zs := by
    have h1 := congrArg List.length he1
    rw [List.length_map] at h1
    rw [List.map_take, he2, hr, he1, List.take_left' h1.symm]
  have hsm := samemsg_true am al ps1.length cm cl (ps2.take ps1.length) ps1 w8 (by omega) (by omega) hc1 (by rw [List.length_take]; omega) htk (hg2.take _) hg1 (fun p hp => (ho2 p (List.mem_of_mem_take hp)).isIn) hi1 (fun p hp => parts_small he2 ho2 p (List.mem_of_mem_take hp))
  have hEq : (mall []).2.2 ≠ 0 → ps2.length = ps1.length := by
    intro h
    have h1 := congrArg List.length he1
    have h2 := congrArg List.length he2
    rw [hE h] at h2
    simp only [List.length_map] at h1 h2
    omega
  have hEn : (mall []).2.2 ≠ 0 → (mall ZZ).2.1 = (mall []).2.1 ∧ (mall ZZ).2.2 = (mall []).2.2 := fun h => by rw [hE h]; exact ⟨rfl, rfl⟩
  rw [show ([] : List Int).length = 0 from rfl] at hNl
  clear hE hr htk he1 he2 hr2 ho2 hg2 hg1 hi1 hB8 hB7 hsx hs1
  generalize (mall []).2.1 = N1 at *
  generalize (mall []).2.2 = E1 at *
  generalize (mall ZZ).2.1 = N2 at *
  generalize (mall ZZ).2.2 = E2 at *
  generalize ps1.length = n1 at *
  generalize ps2.length = n2 at *
  have q1 : ¬ (n2 : Int) < (n1 : Int) := by omega
  have q2 : ¬ (N2 : Int) < (N1 : Int) := by omega
  have q3 : ¬ (0 : Int) < (N1 : Int) := by omega
  go_wp2_with fail
  refine hsm.mono ?_
  rintro e w' ⟨rfl, n9, rfl⟩
  have hB10 := below_drewN hB9 n9
  clear hsm hB9
  by_cases h0 : E1 = 0
  · subst h0
    go_wp2
    go_ret
    exact ⟨rfl, hB10⟩
  · obtain ⟨rfl, rfl⟩ := hEn h0
    obtain rfl := hEq h0
    have q4 : (E2 == 0) = false := by simp [h0]
    have q5 : (E2 == E2) = true := by simp
    have q6 : ((N2 : Int) == (N2 : Int)) = true := by simp
    have q7 : ((n2 : Int) == (n2 : Int)) = true := by simp
    go_wp2
    go_ret
    exact ⟨rfl, hB10⟩

set_option maxRecDepth 100000 in
set_option maxHeartbeats 2000000 in
theorem on_none_some (a1 : Option Addr) (ad1 : Addr) (len1 cap1 : Nat) (ms : List Int) (w : World) (hl1 : len1 ≤ 100000) (hlc1 : len1 ≤ cap1) (hm1 : cap1 ≤ 140737488351232) (hz1 : ms.length = len1) (hb1 : Byt ms) (hs1 : Seg w (some ad1) ms) :
    Calls Try.prog 5 #[.slice none 0 0, .slice (some ad1) len1 cap1] w fun e w' => e = .returned (.bool true) ∧ Below w.heap.size w w' := by
  obtain ⟨i0, hi, hz0, hz1', hz2⟩ := info_parts infoB
  go_enter Try.func5, Try.ntmps5
  go_wp2_with fail
  refine (alive_any w).mono ?_
  rintro e w1 ⟨rfl, hB1⟩
  go_wp2_with fail
  refine (all_any none 0 0 [] w1 (by omega) (by omega) (by omega) rfl (fun i => by simp) (.inl rfl) (by simp)).mono ?_
  rintro e w2 ⟨v1, ps1, rfl, he1, hr1, ho1, _, hb2⟩
  have hB2 := hB1.trans (hb2.mono hB1.size)
  obtain ⟨al, cl, rfl⟩ := row_shape hr1
  obtain ⟨hg1, hc1, _⟩ := own_segs hr1 rfl
  have hi1 : ∀ p ∈ ps1, p.In w2 := fun p hp => (ho1 p hp).isIn
  clear hr1 ho1 hb2 hB1
  go_wp2_with (first
    | (at_builtin; refine wpList_append_own_none rfl _ _ 22 rfl w2.heap.size 5 i0 1 Try.underlying22 hi (.slice none 0 0) 0 [] rfl (own_empty w2 _ _) rfl ?_)
    | (at_builtin; refine wpList_append_own _ rfl _ _ 22 rfl w2.heap.size 5 i0 (.int .u8 0) 1 1 Try.underlying22 hi hz0 hz1' hz2 rfl (by decide) (.slice none 0 0) 0 _ rfl (own_empty w2 _ _) ad1 len1 cap1 (ms.map (Value.int .u8)) rfl (by simp [hz1]) (seg_news ((hs1.below hB2).below (Below.refl w2.heap.size w2))) (news_one _) (by unfold maxLen; omega) (by omega) (Below.refl w2.heap.size w2).size ?_; intro v7 w7 hown7 hgrow7 _))
  obtain ⟨ZZ, hZZ⟩ : ∃ ZZ : List Int, ms = ZZ := ⟨_, rfl⟩
  have hZ : Hid ([] ++ ms = ZZ) := by show _ = _; rw [← hZZ]; try simp
  have hl7 : ZZ.length = (0 + len1) := by rw [← hZZ]; simp [hz1]
  have hbZ : Byt ZZ := by rw [← hZ.out]; exact (show Byt [] from fun i => by simp).append hb1
  have hNN : (0 + len1) ≤ 1000000 := by omega
  have hB7 : Below w2.heap.size w2 w7 := (Below.refl w2.heap.size w2).grown hgrow7 (Below.refl w2.heap.size w2).size (fun k e => by cases e)
  replace hown7 : w7.ownsRow w2.heap.size 5 1 v7 (0 + len1) (ZZ.map (Value.int .u8)) := by rw [← hZZ]; exact hown7
  clear hgrow7
  clear hZZ
  obtain ⟨ax, cx, hv7, hsx, hlx, hmx, hnx⟩ := own_val hown7 hl7
  subst hv7
  clear hown7
  refine (all_any _ _ _ ZZ w7 hNN hlx hmx hl7 hbZ hsx hnx).mono ?_
  rintro e w8 ⟨v2, ps2, rfl, he2, hr2, ho2, _, hB8⟩
  have hB9 := hB2.trans ((hB7.trans (hB8.mono hB7.size)).mono hB2.size)
  obtain ⟨am, cm, rfl⟩ := row_shape hr2
  obtain ⟨hg2, hc2, _⟩ := own_segs hr2 rfl
  replace hg1 := (hg1.below hB7).below hB8
  replace hi1 : ∀ p ∈ ps1, p.In w8 := fun p hp => ((hi1 p hp).below hB7).below hB8
  obtain ⟨⟨r, hr⟩, hN, hE⟩ := mall_on [] ms
  rw [hZ.out] at hr hN hE
  have hNl := (mall_size []).1
  have hp1 : ps1.length ≤ 1000000 := by
    have h1 := congrArg List.length he1
    rw [List.length_map] at h1
    have h2 := mall_size []
    rw [show ([] : List Int).length = 0 from rfl] at h2
    omega
  have hl12 : ps1.length ≤ ps2.length := by
    have h1 := congrArg List.length he1
    have h2 := congrArg List.length he2
    rw [hr, List.length_append] at h2
    simp only [List.length_map] at h1 h2
    omega
  have htk : (ps2.take ps1.length).map Part.zs = ps1.map Part.zs := by
    have h1 := congrArg List.length he1
    rw [List.length_map] at h1
    rw [List.map_take, he2, hr, he1, List.take_left' h1.symm]
  have hsm := samemsg_true am al ps1.length cm cl (ps2.take ps1.length) ps1 w8 (by omega) (by omega) hc1 (by rw [List.length_take]; omega) htk (hg2.take _) hg1 (fun p hp => (ho2 p (List.mem_of_mem_take hp)).isIn) hi1 (fun p hp => parts_small he2 ho2 p (List.mem_of_mem_take hp))
  have hEq : (mall []).2.2 ≠ 0 → ps2.length = ps1.length := by
    intro h
    have h1 := congrArg List.length he1
    have h2 := congrArg List.length he2
    rw [hE h] at h2
    simp only [List.length_map] at h1 h2
    omega
  have hEn : (mall []).2.2 ≠ 0 → (mall ZZ).2.1 = (mall []).2.1 ∧ (mall ZZ).2.2 = (mall []).2.2 := fun h => by rw [hE h]; exact ⟨rfl, rfl⟩
  rw [show ([] : List Int).length = 0 from rfl] at hNl
  clear hE hr htk he1 he2 hr2 ho2 hg2 hg1 hi1 hB8 hB7 hsx hs1
  generalize (mall []).2.1 = N1 at *
  generalize (mall []).2.2 = E1 at *
  generalize (mall ZZ).2.1 = N2 at *
  generalize (mall ZZ).2.2 = E2 at *
  generalize ps1.length = n1 at *
  generalize ps2.length = n2 at *
  have q1 : ¬ (n2 : Int) < (n1 : Int) := by omega
  have q2 : ¬ (N2 : Int) < (N1 : Int) := by omega
  have q3 : ¬ (0 : Int) < (N1 : Int) := by omega
  go_wp2_with fail
  refine hsm.mono ?_
  rintro e w' ⟨rfl, n9, rfl⟩
  have hB10 := below_drewN hB9 n9
  clear hsm hB9
  by_cases h0 : E1 = 0
  · subst h0
    go_wp2
    go_ret
    exact ⟨rfl, hB10⟩
  · obtain ⟨rfl, rfl⟩ := hEn h0
    obtain rfl := hEq h0
    have q4 : (E2 == 0) = false := by simp [h0]
    have q5 : (E2 == E2) = true := by simp
    have q6 : ((N2 : Int) == (N2 : Int)) = true := by simp
    have q7 : ((n2 : Int) == (n2 : Int)) = true := by simp
    go_wp2
    go_ret
    exact ⟨rfl, hB10⟩

set_option maxRecDepth 100000 in
set_option maxHeartbeats 2000000 in
theorem on_some_none (ad : Addr) (len cap : Nat) (zs : List Int) (a1 : Option Addr) (ad1 : Addr) (len1 cap1 : Nat) (ms : List Int) (w : World) (hl : len ≤ 100000) (hlc : len ≤ cap) (hm : cap ≤ 140737488351232) (hz : zs.length = len) (hb : Byt zs) (hs : Seg w (some ad) zs) (hl1 : len1 ≤ 100000) (hlc1 : len1 ≤ cap1) (hm1 : cap1 ≤ 140737488351232) (hz1 : ms.length = len1) (hb1 : Byt ms) (hs1 : Seg w none ms) (hnil1 : len1 = 0 ∧ cap1 = 0) :
    Calls Try.prog 5 #[.slice (some ad) len cap, .slice none len1 cap1] w fun e w' => e = .returned (.bool true) ∧ Below w.heap.size w w' := by
  obtain ⟨i0, hi, hz0, hz1', hz2⟩ := info_parts infoB
  go_enter Try.func5, Try.ntmps5
  go_wp2_with fail
  refine (alive_any w).mono ?_
  rintro e w1 ⟨rfl, hB1⟩
  go_wp2_with fail
  refine (all_any (some ad) len cap zs w1 (by omega) hlc (by omega) hz hb (hs.below hB1) (by simp)).mono ?_
  rintro e w2 ⟨v1, ps1, rfl, he1, hr1, ho1, _, hb2⟩
  have hB2 := hB1.trans (hb2.mono hB1.size)
  obtain ⟨al, cl, rfl⟩ := row_shape hr1
  obtain ⟨hg1, hc1, _⟩ := own_segs hr1 rfl
  have hi1 : ∀ p ∈ ps1, p.In w2 := fun p hp => (ho1 p hp).isIn
  clear hr1 ho1 hb2 hB1
  obtain ⟨rfl, rfl⟩ := hnil1
  obtain rfl : ms = [] := List.length_eq_zero_iff.1 hz1
  go_wp2_with (first
    | (at_builtin; refine wpList_append_own _ rfl _ _ 22 rfl w2.heap.size 5 i0 (.int .u8 0) 1 1 Try.underlying22 hi hz0 hz1' hz2 rfl (by decide) (.slice none 0 0) 0 [] rfl (own_empty w2 _ _) ad len cap (zs.map (Value.int .u8)) rfl (by simp [hz]) (seg_news (hs.below hB2)) (news_one _) (by unfold maxLen; omega) (by omega) (Nat.le_refl _) ?_; intro v6 w6 hown6 hgrow6 _; rw [Nat.zero_add, List.nil_append] at hown6; have hB6 : Below w2.heap.size w2 w6 := (Below.refl _ _).grown hgrow6 (Nat.le_refl _) (fun k e => by cases e); obtain ⟨a6, c6, rfl, _⟩ := own_val hown6 hz; clear hgrow6)
    | (at_builtin; refine wpList_append_own_none rfl _ _ 22 rfl w2.heap.size 5 i0 1 Try.underlying22 hi (.slice a6 len c6) len _ rfl hown6 rfl ?_))
  obtain ⟨ZZ, hZZ⟩ : ∃ ZZ : List Int, zs = ZZ := ⟨_, rfl⟩
  have hZ : Hid (zs ++ [] = ZZ) := by show _ = _; rw [← hZZ]; try simp
  have hl7 : ZZ.length = len := by rw [← hZZ]; simp [hz]
  have hbZ : Byt ZZ := by rw [← hZ.out]; exact hb.append hb1
  have hNN : len ≤ 1000000 := by omega
  have hown7 : w6.ownsRow w2.heap.size 5 1 (.slice a6 len c6) len (ZZ.map (Value.int .u8)) := by rw [← hZZ]; exact hown6
  have hB7 := hB6
  clear hZZ
  obtain ⟨ax, cx, hv7, hsx, hlx, hmx, hnx⟩ := own_val hown7 hl7
  cases hv7
  clear hown7
  refine (all_any _ _ _ ZZ w6 hNN hlx hmx hl7 hbZ hsx hnx).mono ?_
  rintro e w8 ⟨v2, ps2, rfl, he2, hr2, ho2, _, hB8⟩
  have hB9 := hB2.trans ((hB7.trans (hB8.mono hB7.size)).mono hB2.size)
  obtain ⟨am, cm, rfl⟩ := row_shape hr2
  obtain ⟨hg2, hc2, _⟩ := own_segs hr2 rfl
  replace hg1 := (hg1.below hB7).below hB8
  replace hi1 : ∀ p ∈ ps1, p.In w8 := fun p hp => ((hi1 p hp).below hB7).below hB8
  obtain ⟨⟨r, hr⟩, hN, hE⟩ := mall_on zs []
  rw [hZ.out] at hr hN hE
  have hNl := (mall_size zs).1
  have hp1 : ps1.length ≤ 1000000 := by
    have h1 := congrArg List.length he1
    rw [List.length_map] at h1
    have h2 := mall_size zs
    rw [hz] at h2
    omega
  have hl12 : ps1.length ≤ ps2.length := by
    have h1 := congrArg List.length he1
    have h2 := congrArg List.length he2
    rw [hr, List.length_append] at h2
    simp only [List.length_map] at h1 h2
    omega
  have htk : (ps2.take ps1.length).map Part.zs = ps1.map Part.zs := by
    have h1 := congrArg List.length he1
    rw [List.length_map] at h1
    rw [List.map_take, he2, hr, he1, List.take_left' h1.symm]
  have hsm := samemsg_true am al ps1.length cm cl (ps2.take ps1.length) ps1 w8 (by omega) (by omega) hc1 (by rw [List.length_take]; omega) htk (hg2.take _) hg1 (fun p hp => (ho2 p (List.mem_of_mem_take hp)).isIn) hi1 (fun p hp => parts_small he2 ho2 p (List.mem_of_mem_take hp))
  have hEq : (mall zs).2.2 ≠ 0 → ps2.length = ps1.length := by
    intro h
    have h1 := congrArg List.length he1
    have h2 := congrArg List.length he2
    rw [hE h] at h2
    simp only [List.length_map] at h1 h2
    omega
  have hEn : (mall zs).2.2 ≠ 0 → (mall ZZ).2.1 = (mall zs).2.1 ∧ (mall ZZ).2.2 = (mall zs).2.2 := fun h => by rw [hE h]; exact ⟨rfl, rfl⟩
  rw [hz] at hNl
  clear hE hr htk he1 he2 hr2 ho2 hg2 hg1 hi1 hB8 hB7 hsx hs hs1
  generalize (mall zs).2.1 = N1 at *
  generalize (mall zs).2.2 = E1 at *
  generalize (mall ZZ).2.1 = N2 at *
  generalize (mall ZZ).2.2 = E2 at *
  generalize ps1.length = n1 at *
  generalize ps2.length = n2 at *
  have q1 : ¬ (n2 : Int) < (n1 : Int) := by omega
  have q2 : ¬ (N2 : Int) < (N1 : Int) := by omega
  have q3 : ¬ (len : Int) < (N1 : Int) := by omega
  go_wp2_with fail
  refine hsm.mono ?_
  rintro e w' ⟨rfl, n9, rfl⟩
  have hB10 := below_drewN hB9 n9
  clear hsm hB9
  by_cases h0 : E1 = 0
  · subst h0
    go_wp2
    go_ret
    exact ⟨rfl, hB10⟩
  · obtain ⟨rfl, rfl⟩ := hEn h0
    obtain rfl := hEq h0
    have q4 : (E2 == 0) = false := by simp [h0]
    have q5 : (E2 == E2) = true := by simp
    have q6 : ((N2 : Int) == (N2 : Int)) = true := by simp
    have q7 : ((n2 : Int) == (n2 : Int)) = true := by simp
    go_wp2
    go_ret
    exact ⟨rfl, hB10⟩

set_option maxRecDepth 100000 in
set_option maxHeartbeats 2000000 in
theorem on_some_some (ad : Addr) (len cap : Nat) (zs : List Int) (a1 : Option Addr) (ad1 : Addr) (len1 cap1 : Nat) (ms : List Int) (w : World) (hl : len ≤ 100000) (hlc : len ≤ cap) (hm : cap ≤ 140737488351232) (hz : zs.length = len) (hb : Byt zs) (hs : Seg w (some ad) zs) (hl1 : len1 ≤ 100000) (hlc1 : len1 ≤ cap1) (hm1 : cap1 ≤ 140737488351232) (hz1 : ms.length = len1) (hb1 : Byt ms) (hs1 : Seg w (some ad1) ms) :
    Calls Try.prog 5 #[.slice (some ad) len cap, .slice (some ad1) len1 cap1] w fun e w' => e = .returned (.bool true) ∧ Below w.heap.size w w' := by
  obtain ⟨i0, hi, hz0, hz1', hz2⟩ := info_parts infoB
  go_enter Try.func5, Try.ntmps5
  go_wp2_with fail
  refine (alive_any w).mono ?_
  rintro e w1 ⟨rfl, hB1⟩
  go_wp2_with fail
  refine (all_any (some ad) len cap zs w1 (by omega) hlc (by omega) hz hb (hs.below hB1) (by simp)).mono ?_
  rintro e w2 ⟨v1, ps1, rfl, he1, hr1, ho1, _, hb2⟩
  have hB2 := hB1.trans (hb2.mono hB1.size)
  obtain ⟨al, cl, rfl⟩ := row_shape hr1
  obtain ⟨hg1, hc1, _⟩ := own_segs hr1 rfl
  have hi1 : ∀ p ∈ ps1, p.In w2 := fun p hp => (ho1 p hp).isIn
  clear hr1 ho1 hb2 hB1
  go_wp2_with (first
    | (at_builtin; refine wpList_append_own _ rfl _ _ 22 rfl w2.heap.size 5 i0 (.int .u8 0) 1 1 Try.underlying22 hi hz0 hz1' hz2 rfl (by decide) (.slice none 0 0) 0 [] rfl (own_empty w2 _ _) ad len cap (zs.map (Value.int .u8)) rfl (by simp [hz]) (seg_news (hs.below hB2)) (news_one _) (by unfold maxLen; omega) (by omega) (Nat.le_refl _) ?_; intro v6 w6 hown6 hgrow6 _; rw [Nat.zero_add, List.nil_append] at hown6; have hB6 : Below w2.heap.size w2 w6 := (Below.refl _ _).grown hgrow6 (Nat.le_refl _) (fun k e => by cases e); obtain ⟨a6, c6, rfl, _⟩ := own_val hown6 hz; clear hgrow6)
    | (at_builtin; refine wpList_append_own _ rfl _ _ 22 rfl w2.heap.size 5 i0 (.int .u8 0) 1 1 Try.underlying22 hi hz0 hz1' hz2 rfl (by decide) (.slice a6 len c6) len _ rfl hown6 ad1 len1 cap1 (ms.map (Value.int .u8)) rfl (by simp [hz1]) (seg_news ((hs1.below hB2).below hB6)) (news_one _) (by unfold maxLen; omega) (by omega) hB6.size ?_; intro v7 w7 hown7 hgrow7 _))
  obtain ⟨ZZ, hZZ⟩ : ∃ ZZ : List Int, zs ++ ms = ZZ := ⟨_, rfl⟩
  have hZ : Hid (zs ++ ms = ZZ) := by show _ = _; rw [← hZZ]; try simp
  have hl7 : ZZ.length = (len + len1) := by rw [← hZZ]; simp [hz, hz1]
  have hbZ : Byt ZZ := by rw [← hZ.out]; exact hb.append hb1
  have hNN : (len + len1) ≤ 1000000 := by omega
  have hB7 : Below w2.heap.size w2 w7 := hB6.grown hgrow7 hB6.size (fun k e => own_low hown6 e)
  replace hown7 : w7.ownsRow w2.heap.size 5 1 v7 (len + len1) (ZZ.map (Value.int .u8)) := by rw [← hZZ, List.map_append]; exact hown7
  clear hgrow7
  clear hZZ
  obtain ⟨ax, cx, hv7, hsx, hlx, hmx, hnx⟩ := own_val hown7 hl7
  subst hv7
  clear hown7
  refine (all_any _ _ _ ZZ w7 hNN hlx hmx hl7 hbZ hsx hnx).mono ?_
  rintro e w8 ⟨v2, ps2, rfl, he2, hr2, ho2, _, hB8⟩
  have hB9 := hB2.trans ((hB7.trans (hB8.mono hB7.size)).mono hB2.size)
  obtain ⟨am, cm, rfl⟩ := row_shape hr2
  obtain ⟨hg2, hc2, _⟩ := own_segs hr2 rfl
  replace hg1 := (hg1.below hB7).below hB8
  replace hi1 : ∀ p ∈ ps1, p.In w8 := fun p hp => ((hi1 p hp).below hB7).below hB8
  obtain ⟨⟨r, hr⟩, hN, hE⟩ := mall_on zs ms
  rw [hZ.out] at hr hN hE
  have hNl := (mall_size zs).1
  have hp1 : ps1.length ≤ 1000000 := by
    have h1 := congrArg List.length he1
    rw [List.length_map] at h1
    have h2 := mall_size zs
    rw [hz] at h2
    omega
  have hl12 : ps1.length ≤ ps2.length := by
    have h1 := congrArg List.length he1
    have h2 := congrArg List.length he2
    rw [hr, List.length_append] at h2
    simp only [List.length_map] at h1 h2
    omega
  have htk : (ps2.take ps1.length).map Part.zs = ps1.map Part.zs := by
    have h1 := congrArg List.length he1
    rw [List.length_map] at h1
    rw [List.map_take, he2, hr, he1, List.take_left' h1.symm]
  have hsm := samemsg_true am al ps1.length cm cl (ps2.take ps1.length) ps1 w8 (by omega) (by omega) hc1 (by rw [List.length_take]; omega) htk (hg2.take _) hg1 (fun p hp => (ho2 p (List.mem_of_mem_take hp)).isIn) hi1 (fun p hp => parts_small he2 ho2 p (List.mem_of_mem_take hp))
  have hEq : (mall zs).2.2 ≠ 0 → ps2.length = ps1.length := by
    intro h
    have h1 := congrArg List.length he1
    have h2 := congrArg List.length he2
    rw [hE h] at h2
    simp only [List.length_map] at h1 h2
    omega
  have hEn : (mall zs).2.2 ≠ 0 → (mall ZZ).2.1 = (mall zs).2.1 ∧ (mall ZZ).2.2 = (mall zs).2.2 := fun h => by rw [hE h]; exact ⟨rfl, rfl⟩
  rw [hz] at hNl
  clear hE hr htk he1 he2 hr2 ho2 hg2 hg1 hi1 hB8 hB7 hsx hs hs1
  generalize (mall zs).2.1 = N1 at *
  generalize (mall zs).2.2 = E1 at *
  generalize (mall ZZ).2.1 = N2 at *
  generalize (mall ZZ).2.2 = E2 at *
  generalize ps1.length = n1 at *
  generalize ps2.length = n2 at *
  have q1 : ¬ (n2 : Int) < (n1 : Int) := by omega
  have q2 : ¬ (N2 : Int) < (N1 : Int) := by omega
  have q3 : ¬ (len : Int) < (N1 : Int) := by omega
  go_wp2_with fail
  refine hsm.mono ?_
  rintro e w' ⟨rfl, n9, rfl⟩
  have hB10 := below_drewN hB9 n9
  clear hsm hB9
  by_cases h0 : E1 = 0
  · subst h0
    go_wp2
    go_ret
    exact ⟨rfl, hB10⟩
  · obtain ⟨rfl, rfl⟩ := hEn h0
    obtain rfl := hEq h0
    have q4 : (E2 == 0) = false := by simp [h0]
    have q5 : (E2 == E2) = true := by simp
    have q6 : ((N2 : Int) == (N2 : Int)) = true := by simp
    have q7 : ((n2 : Int) == (n2 : Int)) = true := by simp
    go_wp2
    go_ret
    exact ⟨rfl, hB10⟩

theorem on_walk (a : Option Addr) (len cap : Nat) (zs : List Int) (a1 : Option Addr) (len1 cap1 : Nat) (ms : List Int) (w : World)
    (hlc : len ≤ cap) (hm : cap ≤ 140737488351232) (hz : zs.length = len) (hb : Byt zs) (hs : Seg w a zs) (hnil : a = none → len = 0 ∧ cap = 0)
    (hlc1 : len1 ≤ cap1) (hm1 : cap1 ≤ 140737488351232) (hz1 : ms.length = len1) (hb1 : Byt ms) (hs1 : Seg w a1 ms) (hnil1 : a1 = none → len1 = 0 ∧ cap1 = 0) :
    Calls Try.prog 5 #[.slice a len cap, .slice a1 len1 cap1] w fun e w' => e = .returned (.bool true) ∧ Below w.heap.size w w' := by
  by_cases h : 100000 < len ∨ 100000 < len1
  · exact on_off a len cap a1 len1 cap1 w hm hm1 hlc hlc1 h
  · cases a with
    | none =>
      obtain ⟨rfl, rfl⟩ := hnil rfl
      cases a1 with
      | none => exact on_none_none none ⟨0, 0, none⟩ len1 cap1 ms w (by omega) hlc1 hm1 hz1 hb1 hs1 (hnil1 rfl)
      | some ad1 => exact on_none_some none ad1 len1 cap1 ms w (by omega) hlc1 hm1 hz1 hb1 hs1
    | some ad =>
      cases a1 with
      | none => exact on_some_none ad len cap zs none ⟨0, 0, none⟩ len1 cap1 ms w (by omega) hlc hm hz hb hs (by omega) hlc1 hm1 hz1 hb1 hs1 (hnil1 rfl)
      | some ad1 => exact on_some_some ad len cap zs none ad1 len1 cap1 ms w (by omega) hlc hm hz hb hs (by omega) hlc1 hm1 hz1 hb1 hs1
end Go.Proofs.Ytmjjoiljdcjhdaa
