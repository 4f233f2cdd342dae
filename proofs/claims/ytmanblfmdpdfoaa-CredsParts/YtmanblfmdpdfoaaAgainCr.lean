/- The walk of 'CredsAgain': true for any bytes; nothing that was there turns. -/
import Derived.Test.YtmanblfmdpdfoaaBeyonds
import Derived.Test.YtmanblfmdpdfoaaAliveCr
import Derived.Test.YtmanblfmdpdfoaaCredMath2
import Derived.Test.YtmanblfmdpdfoaaSame
import Derived.WalkSmall
namespace Go.Proofs.Ytmanblfmdpdfoaa
set_option linter.unusedVariables false
open Go.RowKit

theorem u32s_ok {gs : List Int} (h : ∀ x ∈ gs, 0 ≤ x ∧ x ≤ 4294967295) : U32s gs := u32s_of_all h

set_option maxRecDepth 100000 in
set_option maxHeartbeats 1000000 in
theorem cagain_walk (a : Option Addr) (len cap : Nat) (zs : List Int) (w : World) (hlc : len ≤ cap) (hm : cap ≤ 140737488351232) (hz : zs.length = len) (hb : Byt zs) (hs : Seg w a zs) :
    Calls Try.prog 5 #[.slice a len cap] w fun e w' => e = .returned (.bool true) ∧ Below w.heap.size w w' := by
  cases hbey : beyond 0 [len] with
  | true =>
    go_enter Try.func5, Try.ntmps5
    go_wp2_with fail
    refine (alive_any w).mono ?_
    rintro e w1 ⟨rfl, hB1⟩
    go_wp2_with fail
    refine (beyond_any [len] _ 1 _ rfl (by omega) (by intro n hn; simp at hn; omega) (cell_lone w1 3 len)).mono ?_
    rintro e w' ⟨rfl, rfl⟩
    rw [hbey]
    have hB2 := hB1.alloc hB1.size (.cells #[.int .i64 (len : Int)] 3)
    generalize w1.alloc (.cells #[.int .i64 (len : Int)] 3) = w2 at *
    go_wp2_with fail
    refine (alive_any _).mono ?_
    rintro e w3 ⟨rfl, hB3⟩
    go_wp2
    go_ret
    exact ⟨rfl, hB2.trans (hB3.mono hB2.size)⟩
  | false =>
    have hl := beyond_le hbey (n := len) (by simp)
    go_enter Try.func5, Try.ntmps5
    go_wp2_with fail
    refine (alive_any w).mono ?_
    rintro e w1 ⟨rfl, hB1⟩
    go_wp2_with fail
    refine (beyond_any [len] _ 1 _ rfl (by omega) (by intro n hn; simp at hn; omega) (cell_lone w1 3 len)).mono ?_
    rintro e w' ⟨rfl, rfl⟩
    rw [hbey]
    have hB2 := hB1.alloc hB1.size (.cells #[.int .i64 (len : Int)] 3)
    generalize w1.alloc (.cells #[.int .i64 (len : Int)] 3) = w2 at *
    clear hB1 hbey
    go_wp2_with fail
    refine (cget_any a len cap zs w2 hlc (by omega) hz hb (hs.below hB2)).mono ?_
    rintro e w3 ⟨v3, rfl, ho3, hb3⟩
    have hB3 := hB2.trans (hb3.mono hB2.size)
    obtain ⟨a3, k3, rfl, hs3, _, _, _⟩ := own_val4 ho3 rfl
    clear ho3 hb3 hB2
    by_cases h0 : crE zs = 0
    · obtain ⟨hag, hok⟩ := cr_again hb h0
      have hu := u32s_ok hok.okL
      have e1 : cgS zs = crS zs := by rw [cgS, if_pos h0]
      have e2 : cgM zs = crM zs := by rw [cgM, if_pos h0]
      have e3 : cgU zs = crU zs := by rw [cgU, if_pos h0]
      have e4 : cgG zs = crG zs := by rw [cgG, if_pos h0]
      have e5 : cgL zs = crL zs := by rw [cgL, if_pos h0]
      rw [e1, e2, e3, e4, e5, h0]
      rw [e5] at hs3
      have hbm : Byt (crM zs) := by
        have := tz_byt (strOfNums (crM zs))
        have hbz : Byt (crM zs) := by
          unfold crM opZ
          split
          · exact (byt_drop (byt_drop hb 4) 4).take _
          · intro i; simp
        exact hbz
      have htz : tz (strOfNums (crM zs)) = crM zs := tz_str hbm
      have hsz : (strOfNums (crM zs)).size = (crM zs).length := by rw [← tz_len, htz]
      have hlN := hok.okN
      have hlM := hok.okM
      have hput := fun (W : World) (hs : Seg4 W a3 (crL zs)) => cput_yes (crS zs) (strOfNums (crM zs)) (crU zs) (crG zs) a3 (crL zs).length k3 (crL zs) W (by omega) hlN hok.okS hok.okU hok.okG rfl hu hs
      rw [htz, hag] at hput
      clear e1 e2 e3 e4 e5 hag hok hu h0 hbm htz hsz
      generalize crS zs = S at *
      generalize crU zs = U at *
      generalize crG zs = G at *
      generalize crL zs = L at *
      generalize strOfNums (crM zs) = M at *
      go_wp2_with fail
      have hb4 : Below w3.heap.size w3 (w3.alloc (.cells #[.int .u32 U, .int .u32 G, .slice a3 L.length k3] 25)) := (Below.refl _ _).alloc (Nat.le_refl _) _
      generalize w3.alloc (.cells #[.int .u32 U, .int .u32 G, .slice a3 L.length k3] 25) = w4 at *
      have hB4 := hB3.trans (hb4.mono hB3.size)
      refine (hput w4 (hs3.below hb4)).mono ?_
      rintro e w5 ⟨v5, rfl, ho5, hb5⟩
      have hB5 := hB4.trans (hb5.mono hB4.size)
      obtain ⟨a5, k5, rfl, hs5, _, _, _⟩ := own_val ho5 rfl
      clear hput ho5 hb5 hB4 hb4 hs3
      have hsz := hs.below hB5
      rw [hz]
      go_wp2_with fail
      refine (same_true a5 a len k5 cap zs w5 (by omega) hz hs5 hsz).mono ?_
      rintro e w' ⟨rfl, n6, rfl⟩
      have hB6 := below_drewN hB5 n6
      go_wp2
      go_ret
      exact ⟨rfl, hB6⟩
    · have e1 : cgS zs = 0 := by rw [cgS, if_neg h0]
      have e2 : cgM zs = [] := by rw [cgM, if_neg h0]
      have e3 : cgU zs = 0 := by rw [cgU, if_neg h0]
      have e4 : cgG zs = 0 := by rw [cgG, if_neg h0]
      have e5 : cgL zs = [] := by rw [cgL, if_neg h0]
      rw [e1, e2, e3, e4, e5, show strOfNums [] = ⟨#[]⟩ from rfl]
      clear e1 e2 e3 e4 e5 hs3
      have hx : (crE zs != 0) = true := by simpa using h0
      clear h0
      generalize crE zs = E at *
      have hB4 := hB3.alloc hB3.size (.cells #[.int .u32 0, .int .u32 0, .slice a3 0 k3] 25)
      go_wp2
      go_ret
      exact ⟨rfl, hB4⟩
end Go.Proofs.Ytmanblfmdpdfoaa
