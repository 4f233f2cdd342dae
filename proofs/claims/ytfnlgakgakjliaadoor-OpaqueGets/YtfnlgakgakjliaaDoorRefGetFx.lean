/- The document's GetFixed and Get of bytes: the bytes that the bytes begin with, in memory of their own, or the error; nothing that was there turns. -/
import Derived.Test.YtfnlgakgakjliaaDoorRefPad
import Derived.Test.YtfnlgakgakjliaaDoorGetFixed
import Derived.Test.YtfnlgakgakjliaaDoorGetOpq
import Derived.Test.YtfnlgakgakjliaaDoorConcat
import Derived.Test.YtfnlgakgakjliaaDoorRef4
import Derived.Laws.AppendOwnNone
namespace Go.Proofs.YtfnlgakgakjliaaDoor
set_option linter.unusedVariables false
open Go.RowKit

theorem drop_take_step (zs : List Int) (n k p : Nat) (hk : k < p) (hl : n + p ≤ zs.length) (h : allNought ((zs.drop n).take k) = true) (hx : zs[n + k]?.getD 0 = 0) : allNought ((zs.drop n).take (k + 1)) = true :=
  nought_step (zs.drop n) k h (by rw [List.length_drop]; omega) (by rw [List.getElem?_drop]; exact hx)

theorem drop_take_stop (zs : List Int) (n k p : Nat) (hk : k < p) (hl : n + p ≤ zs.length) (hx : zs[n + k]?.getD 0 ≠ 0) : allNought ((zs.drop n).take p) = false :=
  nought_stop ((zs.drop n).take p) k (by rw [List.length_take, List.length_drop]; omega) (by rw [List.getElem?_take, if_pos hk, List.getElem?_drop]; exact hx)

set_option maxRecDepth 100000 in
set_option maxHeartbeats 1000000 in
theorem reffixed_any (a : Option Addr) (len cap n : Nat) (zs : List Int) (w : World) (hlc : len ≤ cap) (hm : cap ≤ 9223372036854775807) (hl : len ≤ 1048576) (hz : zs.length = len) (hb : Byt zs) (hs : Seg w a zs) (hnil : a = none → len = 0 ∧ cap = 0) (hn : n ≤ 4294967295) :
    Calls Tryd.prog 51 #[.slice a len cap, .int .i64 (n : Int)] w fun e w' => ∃ v, e = .returned (.tuple #[v, .int .i64 (cutL zs n : Nat), .int .i64 (fixE zs n)]) ∧
      w'.ownsRow w.heap.size 5 1 v (cutZ zs n).length ((cutZ zs n).map (Value.int .u8)) ∧ Below w.heap.size w w' := by
  obtain ⟨i0, hi, hz0, hz1, hz2⟩ := info_parts infoC
  have hp := padN_lt n
  by_cases hsh : len < n + padN n
  · have e4 : fixE zs n = 4 := by unfold fixE; rw [if_pos (by omega)]
    rw [cutL, cutZ, e4, if_neg (by decide), if_neg (by decide)]
    clear e4
    have hg := refpad_nat n w (by omega)
    generalize padN n = p at *
    go_enter Tryd.func51, Tryd.ntmps51
    go_wp2_with (go_at_call 14; refine hg.mono ?_; rintro e w' ⟨rfl, hw'⟩; subst w')
    go_ret3
    exact ⟨_, rfl, own_empty _ _ _, Below.refl _ _⟩
  · have HF : Hid (fixE zs n = if allNought ((zs.drop n).take (padN n)) then 0 else 5) := fixE_form (by omega)
    have HZ : Hid (cutZ zs n = if fixE zs n = 0 then zs.take n else []) := rfl
    have HL : Hid (cutL zs n = if fixE zs n = 0 then n + padN n else 0) := rfl
    have hg := refpad_nat n w (by omega)
    generalize hpp : padN n = p at *
    clear hpp
    generalize cutL zs n = cl at *
    generalize cutZ zs n = cz at *
    generalize fixE zs n = fe at *
    go_enter Tryd.func51, Tryd.ntmps51
    go_wp2_with (go_at_call 14; refine hg.mono ?_; rintro e w' ⟨rfl, hw'⟩; subst w')
    go_loop [8] (fun v => ∃ k : Nat, k ≤ p ∧ v = .int .i64 ((n + k : Nat) : Int) ∧ allNought ((zs.drop n).take k) = true) (fun v => n + p - (intOf v).toNat)
    case atStart => exact ⟨0, by omega, by simp, rfl⟩
    case round =>
      obtain ⟨k, hk, rfl, hall⟩ := hrel
      by_cases hlt : k < p
      · rcases hs with rfl | ⟨b, off, rfl, hc⟩
        · simp at hz; omega
        · have hcx := hc (n + k) (by omega)
          have hst := drop_take_step zs n k p hlt (by omega) hall
          have hsp := drop_take_stop zs n k p hlt (by omega)
          generalize zs[n + k]?.getD 0 = x at hcx hst hsp
          clear hc
          by_cases hx : x = 0
          · subst hx
            replace hst := hst rfl
            go_wp2
            go_round
            case rel => exact ⟨k + 1, by omega, by go_num, hst⟩
            case measure => simp [intOf]; omega
          · have hxx : (x != 0) = true := by simp [hx]
            have e5 : fe = 5 := by rw [HF.out, hsp hx]; rfl
            have eZ : cz = [] := by rw [HZ.out, e5, if_neg (by decide)]
            have eL : cl = 0 := by rw [HL.out, e5, if_neg (by decide)]
            subst e5
            subst eZ
            subst eL
            clear HF HZ HL
            go_wp2
            go_ret3
            exact ⟨_, rfl, own_empty _ _ _, Below.refl _ _⟩
      · obtain rfl : k = p := by omega
        have e0 : fe = 0 := by rw [HF.out, hall]; rfl
        have eZ : cz = zs.take n := by rw [HZ.out, if_pos e0]
        have eL : cl = n + k := by rw [HL.out, if_pos e0]
        subst e0
        subst eZ
        subst eL
        clear HF HZ HL
        have hzl : (zs.take n).length = n := by rw [List.length_take]; omega
        have hs0 := World.ownsRow_nil w w.heap.size 5 1
        cases a with
        | none =>
          obtain ⟨rfl, rfl⟩ := hnil rfl
          obtain rfl : n = 0 := by omega
          obtain rfl : k = 0 := by omega
          obtain rfl : zs = [] := List.length_eq_zero_iff.1 hz
          go_wp2_with (at_builtin; refine wpList_append_own_none rfl _ _ 22 rfl w.heap.size 5 i0 1 Tryd.underlying22 hi _ 0 _ rfl hs0 rfl ?_)
          go_ret3
          exact ⟨_, rfl, hs0, Below.refl _ _⟩
        | some ad =>
          have hst := hs.take n
          go_wp2_with (at_builtin; refine wpList_append_own _ rfl _ _ 22 rfl w.heap.size 5 i0 (.int .u8 0) 1 1 Tryd.underlying22 hi hz0 hz1 hz2 rfl (by decide) (.slice none 0 0) 0 [] rfl hs0 ad n cap ((zs.take n).map (Value.int .u8)) rfl (by simp; omega) (seg_news hst) (news_one _) (by unfold maxLen; omega) (by omega) (Nat.le_refl _) ?_; intro v1 w1 hown1 hgrow1 _)
          rw [Nat.zero_add, List.nil_append] at hown1
          go_ret3
          exact ⟨v1, by go_num, by first | (rw [hzl]; exact hown1) | (rw [← List.map_take]; exact hown1) | exact hown1, (Below.refl _ _).grown hgrow1 (Nat.le_refl _) (by simp [Value.ownBlock])⟩

set_option maxRecDepth 100000 in
set_option maxHeartbeats 1000000 in
theorem refgetfixed_any (a : Option Addr) (len cap : Nat) (n : Int) (zs : List Int) (w : World) (hlc : len ≤ cap) (hm : cap ≤ 9223372036854775807) (hl : len ≤ 1048576) (hz : zs.length = len) (hb : Byt zs) (hs : Seg w a zs) (hnil : a = none → len = 0 ∧ cap = 0) (hn : -9223372036854775808 ≤ n) (hn2 : n ≤ 9223372036854775807) :
    Calls Tryd.prog 21 #[.slice a len cap, .int .i64 n] w fun e w' => ∃ v, e = .returned (.tuple #[v, .int .i64 (fxL zs n : Nat), .int .i64 (fxE zs n)]) ∧
      w'.ownsRow w.heap.size 5 1 v (fxZ zs n).length ((fxZ zs n).map (Value.int .u8)) ∧ Below w.heap.size w w' := by
  by_cases h : n < 0 ∨ 65536 < n
  · rw [fxL, fxE, fxZ, if_pos h, if_pos h, if_pos h]
    rcases h with h | h
    · go_enter Tryd.func21, Tryd.ntmps21
      go_wp2
      go_ret3
      exact ⟨_, rfl, own_empty _ _ _, Below.refl _ _⟩
    · have h2 : ¬ n < 0 := by omega
      go_enter Tryd.func21, Tryd.ntmps21
      go_wp2
      go_ret3
      exact ⟨_, rfl, own_empty _ _ _, Below.refl _ _⟩
  · rw [fxL, fxE, fxZ, if_neg h, if_neg h, if_neg h]
    have e : n = (n.toNat : Int) := by omega
    have hk := reffixed_any a len cap n.toNat zs w hlc hm hl hz hb hs hnil (by omega)
    rw [← e] at hk
    generalize cutL zs n.toNat = cl at *
    generalize cutZ zs n.toNat = cz at *
    generalize fixE zs n.toNat = fe at *
    clear e hs hb
    go_enter Tryd.func21, Tryd.ntmps21
    go_wp2_with fail
    refine hk.mono ?_
    rintro e w1 ⟨v, rfl, hown, hB⟩
    go_wp2
    go_ret3
    exact ⟨v, rfl, hown, hB⟩

set_option maxRecDepth 100000 in
set_option maxHeartbeats 1000000 in
theorem refgetopq_any (a : Option Addr) (len cap : Nat) (most : Int) (zs : List Int) (w : World) (hlc : len ≤ cap) (hm : cap ≤ 9223372036854775807) (hl : len ≤ 1048576) (hz : zs.length = len) (hb : Byt zs) (hs : Seg w a zs) (hn : -9223372036854775808 ≤ most) (hn2 : most ≤ 9223372036854775807) :
    Calls Tryd.prog 19 #[.slice a len cap, .int .i64 most] w fun e w' => ∃ v, e = .returned (.tuple #[v, .int .i64 (opL zs most : Nat), .int .i64 (opE zs most)]) ∧
      w'.ownsRow w.heap.size 5 1 v (opZ zs most).length ((opZ zs most).map (Value.int .u8)) ∧ Below w.heap.size w w' := by
  have hg := refget_any a len cap zs w hlc hm hz hb hs
  by_cases h : len < 4
  · have e1 : opE zs most = 4 := by rw [opE, if_pos (by omega)]
    rw [opL, opZ, e1, if_neg (by decide), if_neg (by decide)]
    rw [show getN zs = 0 from by simp [getN, hz, h], show getE zs = 4 from by simp [getE, hz, h]] at hg
    clear e1
    go_enter Tryd.func19, Tryd.ntmps19
    go_wp2_with (go_at_call 50; refine hg.mono ?_; rintro e w' ⟨rfl, hw'⟩; subst w')
    go_ret3
    exact ⟨_, rfl, own_empty _ _ _, Below.refl _ _⟩
  · obtain ⟨e1, e2, e3⟩ := told_be hb (by rw [hz]; exact h)
    rw [e1, e2] at hg
    clear e1 e2
    by_cases hlm : most < (toldN zs : Int)
    · have e1 : opE zs most = 3 := by rw [opE, if_neg (by omega), if_pos hlm]
      rw [opL, opZ, e1, if_neg (by decide), if_neg (by decide)]
      clear e1
      generalize toldN zs = t at *
      go_enter Tryd.func19, Tryd.ntmps19
      go_wp2_with (go_at_call 50; refine hg.mono ?_; rintro e w' ⟨rfl, hw'⟩; subst w')
      go_ret3
      exact ⟨_, rfl, own_empty _ _ _, Below.refl _ _⟩
    · have e1 : opE zs most = fixE (zs.drop 4) (toldN zs) := by rw [opE, if_neg (by omega), if_neg hlm]
      have eZ : opZ zs most = cutZ (zs.drop 4) (toldN zs) := by rw [opZ, e1, cutZ]
      have eL : opL zs most = if fixE (zs.drop 4) (toldN zs) = 0 then 4 + cutL (zs.drop 4) (toldN zs) else 0 := by
        rw [opL, e1]
        split
        · rename_i h0
          rw [cutL, if_pos h0]
          omega
        · rfl
      rw [e1, eZ, eL]
      clear e1 eZ eL
      have hdl : (zs.drop 4).length = len - 4 := by rw [List.length_drop, hz]
      have hdb := hb.drop 4
      rcases hs with rfl | ⟨b, off, rfl, hc⟩
      · simp at hz; omega
      · have hds := Seg.drop (.inr ⟨b, off, rfl, hc⟩ : Seg w (some ⟨b, off, none⟩) zs) 4
        generalize toldN zs = t at *
        clear hc
        by_cases hc4 : cap = 4
        · subst hc4
          obtain rfl : len = 4 := by omega
          have hd0 : zs.drop 4 = [] := List.length_eq_zero_iff.1 (by omega)
          rw [hd0]
          have hk := reffixed_any (some ⟨b, off, none⟩) 0 0 t [] w (by omega) (by omega) (by omega) rfl Byt.nil (.inl rfl) (by simp) (by omega)
          by_cases h0 : fixE [] t = 0
          · rw [if_pos h0]
            have hcl : cutL [] t = t + padN t := by rw [cutL, if_pos h0]
            have hpt := padN_lt t
            rw [hcl] at hk ⊢
            rw [h0] at hk ⊢
            generalize cutZ [] t = cz at *
            clear h0 hcl
            go_enter Tryd.func19, Tryd.ntmps19
            go_wp2_with (go_at_call 50; refine hg.mono ?_; rintro e w' ⟨rfl, hw'⟩; subst w')
            refine hk.mono ?_
            rintro e w1 ⟨v, rfl, hown, hB⟩
            go_wp2
            go_ret3
            exact ⟨v, by go_num, hown, hB⟩
          · rw [if_neg h0]
            have hcz : cutZ [] t = [] := by rw [cutZ, if_neg h0]
            rw [hcz] at hk ⊢
            generalize cutL [] t = cl at *
            generalize fixE [] t = x at *
            have hx : (x != 0) = true := by simp [h0]
            clear hcz
            go_enter Tryd.func19, Tryd.ntmps19
            go_wp2_with (go_at_call 50; refine hg.mono ?_; rintro e w' ⟨rfl, hw'⟩; subst w')
            refine hk.mono ?_
            rintro e w1 ⟨v, rfl, hown, hB⟩
            go_wp2
            go_ret3
            exact ⟨_, rfl, own_empty _ _ _, hB⟩
        · have hk := reffixed_any (some ⟨b, off + 4, none⟩) (len - 4) (cap - 4) t (zs.drop 4) w (by omega) (by omega) (by omega) hdl hdb hds (by simp) (by omega)
          generalize zs.drop 4 = ys at *
          by_cases h0 : fixE ys t = 0
          · rw [if_pos h0]
            have hcl : cutL ys t = t + padN t := by rw [cutL, if_pos h0]
            have hpt := padN_lt t
            rw [hcl] at hk ⊢
            rw [h0] at hk ⊢
            generalize cutZ ys t = cz at *
            clear h0 hcl
            go_enter Tryd.func19, Tryd.ntmps19
            go_wp2_with (go_at_call 50; refine hg.mono ?_; rintro e w' ⟨rfl, hw'⟩; subst w')
            refine hk.mono ?_
            rintro e w1 ⟨v, rfl, hown, hB⟩
            go_wp2
            go_ret3
            exact ⟨v, by go_num, hown, hB⟩
          · rw [if_neg h0]
            have hcz : cutZ ys t = [] := by rw [cutZ, if_neg h0]
            rw [hcz] at hk ⊢
            generalize cutL ys t = cl at *
            generalize fixE ys t = x at *
            have hx : (x != 0) = true := by simp [h0]
            clear hcz
            go_enter Tryd.func19, Tryd.ntmps19
            go_wp2_with (go_at_call 50; refine hg.mono ?_; rintro e w' ⟨rfl, hw'⟩; subst w')
            refine hk.mono ?_
            rintro e w1 ⟨v, rfl, hown, hB⟩
            go_wp2
            go_ret3
            exact ⟨_, rfl, own_empty _ _ _, hB⟩
end Go.Proofs.YtfnlgakgakjliaaDoor
