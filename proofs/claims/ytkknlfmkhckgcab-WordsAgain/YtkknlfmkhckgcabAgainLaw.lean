/- 'WordsAgain', all its cases together: true for any bytes; nothing that was there turns. -/
import Derived.Test.YtkknlfmkhckgcabAgain
namespace Go.Proofs.Ytkknlfmkhckgcab
set_option linter.unusedVariables false
open Go.RowKit

set_option maxRecDepth 100000 in
set_option maxHeartbeats 1000000 in
theorem again_long (a : Option Addr) (len cap : Nat) (w : World) (hl : 1048576 < len) (hlc : len ≤ cap) (hm : cap ≤ 9223372036854775807) :
    Calls Try.prog 3 #[.slice a len cap] w fun e w' => e = .returned (.bool true) ∧ Below w.heap.size w w' := by
  go_enter Try.func3, Try.ntmps3
  go_wp2_with fail
  refine (alive_any w).mono ?_
  rintro e w1 ⟨rfl, hB1⟩
  go_wp2_with (go_at_call 6; refine (beyond_yes (len : Int) _ _ (by omega) (by omega) (by simp)).mono ?_; rintro e w' ⟨rfl, rfl⟩)
  refine (alive_any _).mono ?_
  rintro e w2 ⟨rfl, hB2⟩
  have hB3 := (hB1.alloc hB1.size (.cells #[.int .i64 (len : Int)] 3)).trans (hB2.mono (by simp; have := hB1.size; omega))
  go_wp2
  go_ret
  exact ⟨rfl, hB3⟩

theorem yes_bytes (zs : List Int) (hb : Byt zs) (h4 : 4 ≤ zs.length) (h1 : ¬ 1 < be (zs.take 4)) : bytesOf (if getY zs then 1 else 0) 4 = zs.take 4 := by
  have hn := be_nonneg (zs.take 4) (hb.take 4)
  have hy : getY zs = (be (zs.take 4) == 1) := by simp [getY, Nat.not_lt.2 h4]
  rw [hy]
  have e : (if (be (zs.take 4) == 1) = true then (1 : Int) else 0) = be (zs.take 4) := by
    by_cases h : be (zs.take 4) = 1
    · simp [h]
    · have : be (zs.take 4) = 0 := by omega
      simp [this]
  rw [e]
  exact bytesOf_be_take zs hb 4 h4

theorem again_walk (a : Option Addr) (len cap : Nat) (zs : List Int) (w : World) (hlc : len ≤ cap) (hm : cap ≤ 9223372036854775807) (hz : zs.length = len) (hb : Byt zs) (hs : Seg w a zs) :
    Calls Try.prog 3 #[.slice a len cap] w fun e w' => e = .returned (.bool true) ∧ Below w.heap.size w w' := by
  by_cases hl : 1048576 < len
  · exact again_long a len cap w hl hlc hm
  · by_cases h4 : len < 4
    · have hz4 : zs.length < 4 := by omega
      have hz8 : zs.length < 8 := by omega
      exact again_A a len cap zs 0 0 false w (by omega) hlc hm hz hb hs (by simp [getN, hz4]) (by simp [getE, hz4]) (by simp [getM, hz8]) (by simp [getF, hz8]) (by simp [getY, hz4]) (by simp [getG, hz4]) h4
    · have hz4 : ¬ zs.length < 4 := by omega
      have hn := be_nonneg (zs.take 4) (hb.take 4)
      rw [List.length_take, Nat.min_eq_left (by omega)] at hn
      have eN : getN zs = be (zs.take 4) := by simp [getN, hz4]
      have eE : getE zs = 0 := by simp [getE, hz4]
      have hpn : Hid (bytesOf (be (zs.take 4)) 4 = zs.take 4) := bytesOf_be_take zs hb 4 (by omega)
      rcases hs with rfl | ⟨b, off, rfl, hc⟩
      · simp at hz4
      · have hs : Seg w (some ⟨b, off, none⟩) zs := .inr ⟨b, off, rfl, hc⟩
        by_cases h8 : len < 8
        · have hz8 : zs.length < 8 := by omega
          have eM : getM zs = 0 := by simp [getM, hz8]
          have eF : getF zs = 4 := by simp [getF, hz8]
          by_cases h1 : 1 < be (zs.take 4)
          · exact again_B b off len cap zs _ 0 false w (by omega) hlc hm hz hb hs eN eE eM eF (by simp [getY]; omega) (by simp [getG, hz4, h1]) (by omega) h8 hn.1 (by omega) hpn
          · exact again_C b off len cap zs _ 0 (getY zs) w (by omega) hlc hm hz hb hs eN eE eM eF rfl (by simp [getG, hz4, h1]) (by omega) h8 hn.1 (by omega) hpn (yes_bytes zs hb (by omega) h1)
        · have hz8 : ¬ zs.length < 8 := by omega
          have hm8 := be_nonneg (zs.take 8) (hb.take 8)
          rw [List.length_take, Nat.min_eq_left (by omega)] at hm8
          have eM : getM zs = be (zs.take 8) := by simp [getM, hz8]
          have eF : getF zs = 0 := by simp [getF, hz8]
          have hpm : Hid (bytesOf (be (zs.take 8)) 8 = zs.take 8) := bytesOf_be_take zs hb 8 (by omega)
          by_cases h1 : 1 < be (zs.take 4)
          · exact again_D b off len cap zs _ _ false w (by omega) hlc hm hz hb hs eN eE eM eF (by simp [getY]; omega) (by simp [getG, hz4, h1]) (by omega) hn.1 (by omega) hpn hm8.1 (by omega) hpm
          · exact again_E b off len cap zs _ _ (getY zs) w (by omega) hlc hm hz hb hs eN eE eM eF rfl (by simp [getG, hz4, h1]) (by omega) hn.1 (by omega) hpn hm8.1 (by omega) hpm (yes_bytes zs hb (by omega) h1)
end Go.Proofs.Ytkknlfmkhckgcab
