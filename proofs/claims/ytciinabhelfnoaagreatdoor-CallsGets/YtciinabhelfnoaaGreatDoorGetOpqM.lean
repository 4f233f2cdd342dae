/- 'Get' of the program: the bytes that the bytes begin with, in memory of their own, or the error; nothing that was there turns. -/
import Derived.Test.YtciinabhelfnoaaGreatDoorPadNoughtDefFixDefCutMathOpqDefNoughtsM
import Derived.Test.YtciinabhelfnoaaGreatDoorNumsMathRead4M
import Derived.Test.YtciinabhelfnoaaGreatDoorNumBytesM
import Derived.Test.YtciinabhelfnoaaGreatDoorTakenCloneM
namespace Go.Proofs.YtciinabhelfnoaaGreatDoor
set_option linter.unusedVariables false
open Go.RowKit


set_option maxRecDepth 100000 in
set_option maxHeartbeats 400000 in
theorem getopq_short (a : Option Addr) (len cap : Nat) (most : Int) (zs : List Int) (w : World) (hlc : len ≤ cap) (hm : cap ≤ 9223372036854775807) (hz : zs.length = len) (hb : Byt zs) (hs : Seg w a zs) (h : len < 4) :
    Calls Tryz.prog 77 #[.slice a len cap, .int .i64 most] w fun e w' => e = .returned (.tuple #[.slice none 0 0, .int .i64 0, .int .i64 4]) ∧ w' = w := by
  have hg := get_any a len cap zs w hlc hm hz hb hs
  rw [show getN zs = 0 from by simp [getN, hz, h], show getE zs = 4 from by simp [getE, hz, h]] at hg
  go_enter Tryz.func77, Tryz.ntmps77
  go_wp2_with (go_at_call 76; refine hg.mono ?_; rintro e w' ⟨rfl, hw'⟩; subst w')
  go_ret3
  exact ⟨rfl, rfl⟩

set_option maxRecDepth 100000 in
set_option maxHeartbeats 400000 in
theorem getopq_limit (a : Option Addr) (len cap : Nat) (most : Int) (zs : List Int) (w : World) (hlc : len ≤ cap) (hm : cap ≤ 9223372036854775807) (hz : zs.length = len) (hb : Byt zs) (hs : Seg w a zs) (h : ¬ len < 4) (hl : most < (toldN zs : Int)) (hn : -9223372036854775808 ≤ most) :
    Calls Tryz.prog 77 #[.slice a len cap, .int .i64 most] w fun e w' => e = .returned (.tuple #[.slice none 0 0, .int .i64 0, .int .i64 3]) ∧ w' = w := by
  have hg := get_any a len cap zs w hlc hm hz hb hs
  obtain ⟨e1, e2, e3⟩ := told_be hb (by rw [hz]; exact h)
  rw [e1, e2] at hg
  clear e1 e2
  generalize toldN zs = t at *
  by_cases h0 : most < 0
  · go_enter Tryz.func77, Tryz.ntmps77
    go_wp2_with (go_at_call 76; refine hg.mono ?_; rintro e w' ⟨rfl, hw'⟩; subst w')
    go_ret3
    exact ⟨rfl, rfl⟩
  · go_enter Tryz.func77, Tryz.ntmps77
    go_wp2_with (go_at_call 76; refine hg.mono ?_; rintro e w' ⟨rfl, hw'⟩; subst w')
    go_ret3
    exact ⟨rfl, rfl⟩

/-- What 'Get' answers behind the number. -/
def opPost (w : World) (zs : List Int) (t : Nat) (e : Ending) (w' : World) : Prop :=
  ∃ v, e = .returned (.tuple #[v, .int .i64 ((if fixE (zs.drop 4) t = 0 then 4 + t + padN t else 0 : Nat) : Int), .int .i64 (fixE (zs.drop 4) t)]) ∧
      w'.ownsRow w.heap.size 5 1 v (cutZ (zs.drop 4) t).length ((cutZ (zs.drop 4) t).map (Value.int .u8)) ∧ Below w.heap.size w w'

set_option maxRecDepth 100000 in
set_option maxHeartbeats 400000 in
theorem getopq_some (b off len cap : Nat) (most : Int) (zs : List Int) (w : World) (hlc : len ≤ cap) (hm : cap ≤ 9223372036854775807) (hz : zs.length = len) (hb : Byt zs) (hs : Seg w (some ⟨b, off, none⟩) zs) (h : ¬ len < 4) (hl : ¬ most < (toldN zs : Int)) (hn2 : most ≤ 9223372036854775807) :
    Calls Tryz.prog 77 #[.slice (some ⟨b, off, none⟩) len cap, .int .i64 most] w (opPost w zs (toldN zs)) := by
  have hg := get_any _ len cap zs w hlc hm hz hb hs
  obtain ⟨e1, e2, e3⟩ := told_be hb (by rw [hz]; exact h)
  rw [e1, e2] at hg
  clear e1 e2
  have hdl : (zs.drop 4).length = len - 4 := by rw [List.length_drop, hz]
  have hds := hs.drop 4
  have hdb := hb.drop 4
  generalize toldN zs = t at *
  have hp := padN_lt t
  by_cases hc4 : cap = 4
  · subst hc4
    obtain rfl : len = 4 := by omega
    have hd0 : zs.drop 4 = [] := List.length_eq_zero_iff.1 (by omega)
    unfold opPost
    rw [hd0]
    have ht := taken_any (some ⟨b, off, none⟩) 0 0 t [] w (by omega) (by omega) rfl Byt.nil (.inl rfl) (by simp) (by omega)
    by_cases h0 : fixE [] t = 0
    · have hfl := fixE_len h0
      obtain rfl : t = 0 := by simp at hfl; omega
      have hcl := clone_any (some ⟨b, off, none⟩) 0 0 [] w (by omega) (by omega) rfl (.inl rfl) (by simp)
      rw [tookV, if_pos h0, h0] at ht
      rw [if_pos h0, h0, show cutZ [] 0 = [] from rfl]
      go_enter Tryz.func77, Tryz.ntmps77
      go_wp2_with (first
        | (go_at_call 76; refine hg.mono ?_; rintro e w' ⟨rfl, hw'⟩; subst w')
        | (go_at_call 87; refine ht.mono ?_; rintro e w' ⟨rfl, hw'⟩; subst w'))
      refine hcl.mono ?_
      rintro e w1 ⟨v, rfl, hown, hB⟩
      go_wp2_with (go_at_call 88; refine (pad_nat 0 _ (by omega)).mono ?_; rintro e w' ⟨rfl, hw'⟩; subst w')
      go_ret3
      exact ⟨v, by rfl, hown, hB⟩
    · have eZ : cutZ [] t = [] := by rw [cutZ, if_neg h0]
      rw [tookV, if_neg h0] at ht
      rw [if_neg h0, eZ]
      generalize fixE [] t = x at *
      have hx : (x != 0) = true := by simp [h0]
      go_enter Tryz.func77, Tryz.ntmps77
      go_wp2_with (first
        | (go_at_call 76; refine hg.mono ?_; rintro e w' ⟨rfl, hw'⟩; subst w')
        | (go_at_call 87; refine ht.mono ?_; rintro e w' ⟨rfl, hw'⟩; subst w'))
      go_ret3
      exact ⟨_, rfl, own_empty _ _ _, Below.refl _ _⟩
  · have ht := taken_any (some ⟨b, off + 4, none⟩) (len - 4) (cap - 4) t (zs.drop 4) w (by omega) (by omega) hdl hdb hds (by simp) (by omega)
    unfold opPost
    generalize zs.drop 4 = ys at *
    by_cases h0 : fixE ys t = 0
    · have hfl := fixE_len h0
      have eZ : cutZ ys t = ys.take t := by rw [cutZ, if_pos h0]
      rw [tookV, if_pos h0, h0] at ht
      have hzl : (ys.take t).length = t := by rw [List.length_take]; omega
      rw [eZ, h0, hzl, if_pos rfl]
      have hcl := clone_any (some ⟨b, off + 4, none⟩) t t (ys.take t) w (by omega) (by omega) hzl (hds.take t) (by simp)
      clear eZ h0 hs hds hb hdb
      go_enter Tryz.func77, Tryz.ntmps77
      go_wp2_with (first
        | (go_at_call 76; refine hg.mono ?_; rintro e w' ⟨rfl, hw'⟩; subst w')
        | (go_at_call 87; refine ht.mono ?_; rintro e w' ⟨rfl, hw'⟩; subst w'))
      refine hcl.mono ?_
      rintro e w1 ⟨v, rfl, hown, hB⟩
      go_wp2_with (go_at_call 88; refine (pad_nat t _ (by omega)).mono ?_; rintro e w' ⟨rfl, hw'⟩; subst w')
      go_ret3
      exact ⟨v, by go_num, hown, hB⟩
    · have eZ : cutZ ys t = [] := by rw [cutZ, if_neg h0]
      rw [tookV, if_neg h0] at ht
      rw [if_neg h0, eZ]
      generalize fixE ys t = x at *
      have hx : (x != 0) = true := by simp [h0]
      clear hs hds hb hdb
      go_enter Tryz.func77, Tryz.ntmps77
      go_wp2_with (first
        | (go_at_call 76; refine hg.mono ?_; rintro e w' ⟨rfl, hw'⟩; subst w')
        | (go_at_call 87; refine ht.mono ?_; rintro e w' ⟨rfl, hw'⟩; subst w'))
      go_ret3
      exact ⟨_, rfl, own_empty _ _ _, Below.refl _ _⟩

/-- 'Get', at any bytes and any bound. -/
theorem getopq_any (a : Option Addr) (len cap : Nat) (most : Int) (zs : List Int) (w : World) (hlc : len ≤ cap) (hm : cap ≤ 9223372036854775807) (hz : zs.length = len) (hb : Byt zs) (hs : Seg w a zs) (hn : -9223372036854775808 ≤ most) (hn2 : most ≤ 9223372036854775807) :
    Calls Tryz.prog 77 #[.slice a len cap, .int .i64 most] w fun e w' => ∃ v, e = .returned (.tuple #[v, .int .i64 (opL zs most : Nat), .int .i64 (opE zs most)]) ∧
      w'.ownsRow w.heap.size 5 1 v (opZ zs most).length ((opZ zs most).map (Value.int .u8)) ∧ Below w.heap.size w w' := by
  by_cases h : len < 4
  · have e1 : opE zs most = 4 := by rw [opE, if_pos (by omega)]
    refine (getopq_short a len cap most zs w hlc hm hz hb hs h).mono ?_
    rintro e w' ⟨rfl, rfl⟩
    rw [opL, opZ, e1, if_neg (by decide), if_neg (by decide)]
    exact ⟨_, rfl, own_empty _ _ _, Below.refl _ _⟩
  · by_cases hl : most < (toldN zs : Int)
    · have e1 : opE zs most = 3 := by rw [opE, if_neg (by omega), if_pos hl]
      refine (getopq_limit a len cap most zs w hlc hm hz hb hs h hl hn).mono ?_
      rintro e w' ⟨rfl, rfl⟩
      rw [opL, opZ, e1, if_neg (by decide), if_neg (by decide)]
      exact ⟨_, rfl, own_empty _ _ _, Below.refl _ _⟩
    · have e1 : opE zs most = fixE (zs.drop 4) (toldN zs) := by rw [opE, if_neg (by omega), if_neg hl]
      rcases hs with rfl | ⟨b, off, rfl, hc⟩
      · simp at hz; omega
      · refine (getopq_some b off len cap most zs w hlc hm hz hb (.inr ⟨b, off, rfl, hc⟩) h hl hn2).mono ?_
        rintro e w' ⟨v, rfl, hown, hB⟩
        refine ⟨v, ?_, ?_, hB⟩
        · rw [opL, e1]
        · rw [opZ, e1]
          exact hown
end Go.Proofs.YtciinabhelfnoaaGreatDoor
