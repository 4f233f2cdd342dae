/- The document's 'Get' of opaque. -/
import Derived.Test.YtciinabhelfnoaaGreatDoorRefPadRef4RefFixedM
import Derived.Test.YtciinabhelfnoaaGreatDoorStrPGM
import Derived.WalkSmall
namespace Go.Proofs.YtciinabhelfnoaaGreatDoor
set_option linter.unusedVariables false
open Go.RowKit

set_option maxRecDepth 100000 in
set_option maxHeartbeats 1000000 in
theorem refgetopq_any (a : Option Addr) (len cap : Nat) (most : Int) (zs : List Int) (w : World) (hlc : len ≤ cap) (hm : cap ≤ 9223372036854775807) (hl : len ≤ 1048576) (hz : zs.length = len) (hb : Byt zs) (hs : Seg w a zs) (hn : -9223372036854775808 ≤ most) (hn2 : most ≤ 9223372036854775807) :
    Calls Tryz.prog 24 #[.slice a len cap, .int .i64 most] w fun e w' => ∃ v, e = .returned (.tuple #[v, .int .i64 (opL zs most : Nat), .int .i64 (opE zs most)]) ∧
      w'.ownsRow w.heap.size 5 1 v (opZ zs most).length ((opZ zs most).map (Value.int .u8)) ∧ Below w.heap.size w w' := by
  have hg := refget_any a len cap zs w hlc hm hz hb hs
  by_cases h : len < 4
  · have e1 : opE zs most = 4 := by rw [opE, if_pos (by omega)]
    rw [opL, opZ, e1, if_neg (by decide), if_neg (by decide)]
    rw [show getN zs = 0 from by simp [getN, hz, h], show getE zs = 4 from by simp [getE, hz, h]] at hg
    clear e1
    go_enter Tryz.func24, Tryz.ntmps24
    go_wp2_with (go_at_call 23; refine hg.mono ?_; rintro e w' ⟨rfl, hw'⟩; subst w')
    go_ret3
    exact ⟨_, rfl, own_empty _ _ _, Below.refl _ _⟩
  · obtain ⟨e1, e2, e3⟩ := told_be hb (by rw [hz]; exact h)
    rw [e1, e2] at hg
    clear e1 e2
    by_cases hlm : most < (toldN zs : Int)
    · have e1 : opE zs most = 3 := by rw [opE, if_neg (by omega), if_pos hlm]
      rw [opL, opZ, e1, if_neg (by decide), if_neg (by decide)]
      clear e1
      generalize toldN zs = t at *
      go_enter Tryz.func24, Tryz.ntmps24
      go_wp2_with (go_at_call 23; refine hg.mono ?_; rintro e w' ⟨rfl, hw'⟩; subst w')
      go_ret3
      exact ⟨_, rfl, own_empty _ _ _, Below.refl _ _⟩
    · have e1 : opE zs most = fixE (zs.drop 4) (toldN zs) := by rw [opE, if_neg (by omega), if_neg hlm]
      have eZ : opZ zs most = cutZ (zs.drop 4) (toldN zs) := by rw [opZ, e1, cutZ]
      have eL : opL zs most = if fixE (zs.drop 4) (toldN zs) = 0 then 4 + cutL (zs.drop 4) (toldN zs) else 0 := by
        rw [opL, e1]
        split
        · rename_i h0
          rw [cutL, if_pos h0]
          omega
        · rfl
      rw [e1, eZ, eL]
      clear e1 eZ eL
      have hdl : (zs.drop 4).length = len - 4 := by rw [List.length_drop, hz]
      have hdb := hb.drop 4
      rcases hs with rfl | ⟨b, off, rfl, hc⟩
      · simp at hz; omega
      · have hds := Seg.drop (.inr ⟨b, off, rfl, hc⟩ : Seg w (some ⟨b, off, none⟩) zs) 4
        generalize toldN zs = t at *
        clear hc
        by_cases hc4 : cap = 4
        · subst hc4
          obtain rfl : len = 4 := by omega
          have hd0 : zs.drop 4 = [] := List.length_eq_zero_iff.1 (by omega)
          rw [hd0]
          have hk := reffixed_any (some ⟨b, off, none⟩) 0 0 t [] w (by omega) (by omega) (by omega) rfl Byt.nil (.inl rfl) (by simp) (by omega)
          by_cases h0 : fixE [] t = 0
          · rw [if_pos h0]
            have hcl : cutL [] t = t + padN t := by rw [cutL, if_pos h0]
            have hpt := padN_lt t
            rw [hcl] at hk ⊢
            rw [h0] at hk ⊢
            generalize cutZ [] t = cz at *
            clear h0 hcl
            go_enter Tryz.func24, Tryz.ntmps24
            go_wp2_with (go_at_call 23; refine hg.mono ?_; rintro e w' ⟨rfl, hw'⟩; subst w')
            refine hk.mono ?_
            rintro e w1 ⟨v, rfl, hown, hB⟩
            go_wp2
            go_ret3
            exact ⟨v, by go_num, hown, hB⟩
          · rw [if_neg h0]
            have hcz : cutZ [] t = [] := by rw [cutZ, if_neg h0]
            rw [hcz] at hk ⊢
            generalize cutL [] t = cl at *
            generalize fixE [] t = x at *
            have hx : (x != 0) = true := by simp [h0]
            clear hcz
            go_enter Tryz.func24, Tryz.ntmps24
            go_wp2_with (go_at_call 23; refine hg.mono ?_; rintro e w' ⟨rfl, hw'⟩; subst w')
            refine hk.mono ?_
            rintro e w1 ⟨v, rfl, hown, hB⟩
            go_wp2
            go_ret3
            exact ⟨_, rfl, own_empty _ _ _, hB⟩
        · have hk := reffixed_any (some ⟨b, off + 4, none⟩) (len - 4) (cap - 4) t (zs.drop 4) w (by omega) (by omega) (by omega) hdl hdb hds (by simp) (by omega)
          generalize zs.drop 4 = ys at *
          by_cases h0 : fixE ys t = 0
          · rw [if_pos h0]
            have hcl : cutL ys t = t + padN t := by rw [cutL, if_pos h0]
            have hpt := padN_lt t
            rw [hcl] at hk ⊢
            rw [h0] at hk ⊢
            generalize cutZ ys t = cz at *
            clear h0 hcl
            go_enter Tryz.func24, Tryz.ntmps24
            go_wp2_with (go_at_call 23; refine hg.mono ?_; rintro e w' ⟨rfl, hw'⟩; subst w')
            refine hk.mono ?_
            rintro e w1 ⟨v, rfl, hown, hB⟩
            go_wp2
            go_ret3
            exact ⟨v, by go_num, hown, hB⟩
          · rw [if_neg h0]
            have hcz : cutZ ys t = [] := by rw [cutZ, if_neg h0]
            rw [hcz] at hk ⊢
            generalize cutL ys t = cl at *
            generalize fixE ys t = x at *
            have hx : (x != 0) = true := by simp [h0]
            clear hcz
            go_enter Tryz.func24, Tryz.ntmps24
            go_wp2_with (go_at_call 23; refine hg.mono ?_; rintro e w' ⟨rfl, hw'⟩; subst w')
            refine hk.mono ?_
            rintro e w1 ⟨v, rfl, hown, hB⟩
            go_wp2
            go_ret3
            exact ⟨_, rfl, own_empty _ _ _, hB⟩
end Go.Proofs.YtciinabhelfnoaaGreatDoor

/- The document's 'Get' of a text; nothing that was there turns. -/
namespace Go.Proofs.YtciinabhelfnoaaGreatDoor
set_option linter.unusedVariables false
open Go.RowKit

set_option maxRecDepth 100000 in
set_option maxHeartbeats 400000 in
theorem refstrget_any (a : Option Addr) (len cap : Nat) (most : Int) (zs : List Int) (w : World) (hlc : len ≤ cap) (hm : cap ≤ 9223372036854775807) (hl : len ≤ 1048576) (hz : zs.length = len) (hb : Byt zs) (hs : Seg w a zs) (hn : -9223372036854775808 ≤ most) (hn2 : most ≤ 9223372036854775807) :
    Calls Tryz.prog 59 #[.slice a len cap, .int .i64 most] w fun e w' => e = .returned (.tuple #[.string (strOfNums (opZ zs most)), .int .i64 (opL zs most : Nat), .int .i64 (opE zs most)]) ∧ Below w.heap.size w w' := by
  go_enter Tryz.func59, Tryz.ntmps59
  go_wp2_with fail
  refine (refgetopq_any a len cap most zs w hlc hm hl hz hb hs hn hn2).mono ?_
  rintro e w1 ⟨v, rfl, hown, hB⟩
  have ht := own_text hown rfl
  go_wp2
  go_ret3
  exact ⟨rfl, hB⟩
end Go.Proofs.YtciinabhelfnoaaGreatDoor
