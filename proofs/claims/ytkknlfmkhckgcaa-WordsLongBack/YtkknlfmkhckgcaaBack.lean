/- The walk of 'WordsBack': true for any number, any bytes behind it, any cut; nothing that was there turns. -/
import Derived.Test.YtkknlfmkhckgcaaBeyond
import Derived.Test.YtkknlfmkhckgcaaAlive
import Derived.Laws.AppendOwnNone
namespace Go.Proofs.Ytkknlfmkhckgcaa
set_option linter.unusedVariables false
open Go.RowKit

theorem get_put (n : Int) (zs : List Int) (h0 : 0 ≤ n) (h1 : n ≤ 4294967295) : getN (bytesOf n 4 ++ zs) = n ∧ getE (bytesOf n 4 ++ zs) = 0 := by
  have hl : ¬ (bytesOf n 4 ++ zs).length < 4 := by rw [List.length_append, bytesOf_length]; omega
  unfold getN getE
  rw [if_neg hl, if_neg hl, List.take_left' (bytesOf_length n 4)]
  exact ⟨be_bytesOf 4 n h0 (by omega), rfl⟩

set_option maxRecDepth 100000 in
set_option maxHeartbeats 1000000 in
theorem back_walk (n : Int) (a : Option Addr) (len cap : Nat) (zs : List Int) (cut : Int) (w : World) (hn0 : 0 ≤ n) (hn1 : n ≤ 4294967295) (hc0 : 0 ≤ cut) (hc1 : cut ≤ 255)
    (hlc : len ≤ cap) (hm : cap ≤ 9223372036854775807) (hz : zs.length = len) (hb : Byt zs) (hs : Seg w a zs) (hnil : a = none → len = 0 ∧ cap = 0) :
    Calls Try.prog 6 #[.int .u32 n, .slice a len cap, .int .u8 cut] w fun e w' => e = .returned (.bool true) ∧ Below w.heap.size w w' := by
  obtain ⟨i0, hi, hz0, hz1, hz2⟩ := info_parts infoB
  by_cases hl : 1048576 < len
  · go_enter Try.func6, Try.ntmps6
    go_wp2_with fail
    refine (alive_any w).mono ?_
    rintro e w1 ⟨rfl, hB1⟩
    go_wp2_with (go_at_call 8; refine (beyond_yes (len : Int) _ _ (by omega) (by omega) (by simp)).mono ?_; rintro e w' ⟨rfl, rfl⟩)
    refine (alive_any _).mono ?_
    rintro e w2 ⟨rfl, hB2⟩
    have hB3 := (hB1.alloc hB1.size (.cells #[.int .i64 (len : Int)] 3)).trans (hB2.mono (by simp; have := hB1.size; omega))
    go_wp2
    go_ret
    exact ⟨rfl, hB3⟩
  · go_enter Try.func6, Try.ntmps6
    go_wp2_with fail
    refine (alive_any w).mono ?_
    rintro e w1 ⟨rfl, hB1⟩
    go_wp2_with (go_at_call 8; refine (beyond_no (len : Int) _ _ (by omega) (by omega) (by simp)).mono ?_; rintro e w' ⟨rfl, rfl⟩)
    have hB2 := hB1.alloc hB1.size (.cells #[.int .i64 (len : Int)] 3)
    generalize w1.alloc (.cells #[.int .i64 (len : Int)] 3) = w2 at hB2 ⊢
    clear hB1
    refine (Put_any n hn0 hn1 _).mono ?_
    rintro e w3 ⟨rfl, hown, hb3⟩
    have hB3 := hB2.trans (hb3.mono hB2.size)
    have hg : w.heap.size ≤ w2.heap.size := hB2.size
    generalize w2.heap.size = g at *
    clear hb3 hB2
    have hsg := seg_own hown (bytesOf_length n 4)
    have hsa := hs.below hB3
    have hcl : ((bytesOf n 4).take (cut % 4).toNat).length = (cut % 4).toNat := by rw [List.length_take, bytesOf_length]; omega
    have hgp := get_put n zs hn0 hn1
    have hln : ((bytesOf n 4).map (Value.int .u8)).length = 4 := by rw [List.length_map, bytesOf_length]
    go_wp2_with fail
    refine (get_any _ (cut % 4).toNat 4 ((bytesOf n 4).take (cut % 4).toNat) _ (by omega) (by omega) hcl ((byt_bytesOf n 4).take _) (hsg.take _)).mono ?_
    rintro e w' ⟨rfl, rfl⟩
    rw [show getN ((bytesOf n 4).take (cut % 4).toNat) = 0 from by unfold getN; rw [hcl, if_pos (by omega)], show getE ((bytesOf n 4).take (cut % 4).toNat) = 4 from by unfold getE; rw [hcl, if_pos (by omega)]]
    have HG : Hid (getN (bytesOf n 4 ++ zs) = n ∧ getE (bytesOf n 4 ++ zs) = 0) := hgp
    clear hcl hgp hln
    cases a with
    | none =>
      obtain ⟨rfl, rfl⟩ := hnil rfl
      obtain rfl : zs = [] := List.length_eq_zero_iff.1 hz
      go_wp2_with (at_builtin; refine wpList_append_own_none rfl _ _ 22 rfl w.heap.size 5 i0 1 Try.underlying22 hi _ 4 _ rfl (own_base hown hg) rfl ?_)
      rw [List.append_nil] at HG
      refine (get_any _ 4 4 (bytesOf n 4) _ (by omega) (by omega) (bytesOf_length n 4) (byt_bytesOf n 4) hsg).mono ?_
      rintro e w' ⟨rfl, rfl⟩
      rw [HG.out.1, HG.out.2]
      clear HG
      go_wp2
      go_ret
      exact ⟨by simp, hB3⟩
    | some ad =>
      go_wp2_with (at_builtin; refine wpList_append_own _ rfl _ _ 22 rfl w.heap.size 5 i0 (.int .u8 0) 1 1 Try.underlying22 hi hz0 hz1 hz2 rfl (by decide) (.slice (some ⟨g, 0, none⟩) 4 4) 4 _ rfl (own_base hown hg) ad len cap (zs.map (Value.int .u8)) rfl (by simp [hz]) (seg_news hsa) (news_one zs) (by unfold maxLen; omega) (by omega) hB3.size ?_; intro v' w4 hown4 hgrow4 _)
      obtain ⟨g4, cap4, rfl, hcap, hmx, hg4⟩ := own_shape hown4 (by omega)
      rw [← List.map_append] at hown4
      have hl4 : (bytesOf n 4 ++ zs).length = 4 + len := by rw [List.length_append, bytesOf_length, hz]
      have hB4 : Below w.heap.size w w4 := hB3.grown hgrow4 hB3.size (fun k e => by cases e; exact hg)
      refine (get_any _ (4 + len) cap4 (bytesOf n 4 ++ zs) _ hcap hmx hl4 ((byt_bytesOf n 4).append hb) (seg_own hown4 hl4)).mono ?_
      rintro e w' ⟨rfl, rfl⟩
      rw [HG.out.1, HG.out.2]
      clear HG hown4 hgrow4 hown hsg hsa hs
      go_wp2
      go_ret
      exact ⟨by simp, hB4⟩
end Go.Proofs.Ytkknlfmkhckgcaa
