/- 'fragment' of the program: the first fragment's bytes, in the bytes themselves, or the error; nothing turns. -/
import Derived.Test.YtmjjoiljdcjhdaaDoorMarkMath
import Derived.Test.YtmjjoiljdcjhdaaDoorPieces
import Derived.Test.YtmjjoiljdcjhdaaDoorRead4
namespace Go.Proofs.YtmjjoiljdcjhdaaDoor
set_option linter.unusedVariables false
open Go.RowKit

theorem mark_be {zs : List Int} (hb : Byt zs) (h : ¬ zs.length < 4) : getN zs = (markN zs : Int) ∧ getE zs = 0 ∧ markN zs ≤ 4294967295 := by
  have h1 := be_bound zs hb 4 (by omega)
  unfold getN getE markN
  rw [if_neg h, if_neg h]
  generalize be (zs.take 4) = x at *
  refine ⟨by omega, rfl, by omega⟩

theorem mark_low (N : Nat) (h : N ≤ 4294967295) : bits .andNot .u32 (N : Int) 2147483648 = ((N % 2147483648 : Nat) : Int) := by
  have e := u32_andNot_nat N 2147483648 (by omega) (by omega)
  rw [show (4294967295 - 2147483648 : Nat) = 2 ^ 31 - 1 from rfl, Nat.and_two_pow_sub_one_eq_mod] at e
  exact e

theorem mark_high (N : Nat) (h : N ≤ 4294967295) : bits .and .u32 (N : Int) 2147483648 = if 2147483648 ≤ N then 2147483648 else 0 := by
  have e := u32_and_nat N 2147483648 (by omega) (by omega)
  rw [show (2147483648 : Nat) = 2 ^ 31 from rfl, nat_bit] at e
  refine e.trans ?_
  split
  · rw [show N / 2 ^ 31 = 1 from by omega]
    rfl
  · rw [show N / 2 ^ 31 = 0 from by omega]
    rfl

/-- What 'fragment' answers. -/
def fragPost (w : World) (zs : List Int) (most : Nat) (e : Ending) (w' : World) : Prop :=
  ((frE most zs ≠ 0 ∧ e = .returned (.tuple #[.slice none 0 0, .bool false, .int .i64 (frE most zs)])) ∨
   (frE most zs = 0 ∧ ∃ ad, e = .returned (.tuple #[.slice (some ad) (markK zs) (markK zs), .bool (markL zs), .int .i64 0]) ∧ Seg w (some ad) (piece zs))) ∧ w' = w

theorem fragPost_bad {w : World} {zs : List Int} {most : Nat} {x : Int} (h : frE most zs = x) (hx : x ≠ 0) : fragPost w zs most (.returned (.tuple #[.slice none 0 0, .bool false, .int .i64 x])) w :=
  ⟨.inl ⟨by rw [h]; exact hx, by rw [h]⟩, rfl⟩

set_option maxRecDepth 100000 in
set_option maxHeartbeats 2000000 in
theorem fragment_any (a : Option Addr) (len cap most : Nat) (zs : List Int) (w : World) (hlc : len ≤ cap) (hm : cap ≤ 9223372036854775807) (hz : zs.length = len) (hb : Byt zs) (hs : Seg w a zs) (hmo : most ≤ 65536) :
    Calls Tryd.prog 45 #[.slice a len cap, .int .i64 (most : Int)] w (fragPost w zs most) := by
  have hg := get_any a len cap zs w hlc hm hz hb hs
  by_cases h : len < 4
  · rw [show getN zs = 0 from by simp [getN, hz, h], show getE zs = 4 from by simp [getE, hz, h]] at hg
    have he : Hid (frE most zs = 4) := frE_nil most zs (by omega)
    go_enter Tryd.func45, Tryd.ntmps45
    go_wp2_with (go_at_call 65; refine hg.mono ?_; rintro e w' ⟨rfl, hw'⟩; subst w')
    go_ret3
    exact fragPost_bad he.out (by decide)
  · obtain ⟨e1, e2, hN⟩ := mark_be hb (by rw [hz]; exact h)
    rw [e1, e2] at hg
    clear e1 e2
    have hE : Hid (frE most zs = if markN zs = 0 then 5 else if most < markK zs then 3 else if zs.length - 4 < markK zs then 4 else 0) := by
      show _ = _
      rw [frE, if_neg (by omega)]
    have hLd : Hid (markL zs = decide (2147483648 ≤ markN zs)) := rfl
    have hKd : Hid (markK zs = markN zs % 2147483648) := rfl
    have hlow := mark_low (markN zs) hN
    have hhigh := mark_high (markN zs) hN
    rw [← hKd.out] at hlow
    by_cases h0 : markN zs = 0
    · have he : Hid (frE most zs = 5) := by show _ = _; rw [hE.out, if_pos h0]
      have hK0 : markK zs = 0 := by rw [hKd.out, h0]
      rw [h0] at hg
      replace hg : Calls Tryd.prog 65 #[.slice a len cap] w fun e w' => e = .returned (.tuple #[.int .u32 0, .int .i64 0]) ∧ w' = w := hg
      replace hlow : bits .andNot .u32 0 2147483648 = 0 := by decide
      replace hhigh : bits .and .u32 0 2147483648 = 0 := by decide
      clear hE hLd hKd
      go_enter Tryd.func45, Tryd.ntmps45
      go_wp2_with (go_at_call 65; refine hg.mono ?_; rintro e w' ⟨rfl, hw'⟩; subst w')
      go_ret3
      exact fragPost_bad he.out (by decide)
    · rw [if_neg h0] at hE
      have hkey : markL zs = false → markK zs ≠ 0 := by
        intro hl
        rw [hLd.out, decide_eq_false_iff_not] at hl
        rw [hKd.out]
        omega
      have hpl : zs.length - 4 < markK zs ∨ (piece zs).length = markK zs := by
        by_cases hh : zs.length - 4 < markK zs
        · exact .inl hh
        · exact .inr (by rw [piece, List.length_take, List.length_drop]; omega)
      have hpd : Hid (piece zs = (zs.drop 4).take (markK zs)) := rfl
      have hKb : markK zs < 2147483648 := by rw [hKd.out]; omega
      have hsd : Seg w a zs := hs
      unfold fragPost
      clear hKd
      generalize markK zs = K at *
      generalize markN zs = N at *
      have hq : ∃ L : Bool, markL zs = L := ⟨_, rfl⟩
      obtain ⟨L, hq⟩ := hq
      rw [hq] at hkey hLd ⊢
      have hbz : (bits .and .u32 (N : Int) 2147483648 != 0) = L := by
        rw [hhigh, hLd.out]
        by_cases hh : 2147483648 ≤ N <;> simp [hh]
      clear hq hhigh hLd
      by_cases h3 : most < K
      · have he : Hid (frE most zs = 3) := by show _ = _; rw [hE.out, if_pos h3]
        clear hE hpl
        cases L with
        | true =>
          go_enter Tryd.func45, Tryd.ntmps45
          go_wp2_with (go_at_call 65; refine hg.mono ?_; rintro e w' ⟨rfl, hw'⟩; subst w')
          go_ret3
          exact ⟨.inl ⟨by rw [he.out]; decide, by rw [he.out]; rfl⟩, rfl⟩
        | false =>
          have hK0 := hkey rfl
          go_enter Tryd.func45, Tryd.ntmps45
          go_wp2_with (go_at_call 65; refine hg.mono ?_; rintro e w' ⟨rfl, hw'⟩; subst w')
          go_ret3
          exact ⟨.inl ⟨by rw [he.out]; decide, by rw [he.out]; rfl⟩, rfl⟩
      · rw [if_neg h3, hz] at hE
        rcases hs with rfl | ⟨b, off, rfl, hc⟩
        · simp at hz; omega
        · clear hc
          have hds := hsd.drop 4
          by_cases h4 : len - 4 < K
          · have he : Hid (frE most zs = 4) := by show _ = _; rw [hE.out, if_pos h4]
            clear hE hpl hds
            by_cases hc4 : cap = 4
            · subst hc4
              obtain rfl : len = 4 := by omega
              have hK1 : ¬ K = 0 := by omega
              have hK2 : (0 : Int) < (K : Int) := by omega
              clear hsd hpd
              cases L with
              | true =>
                go_enter Tryd.func45, Tryd.ntmps45
                go_wp2_with (go_at_call 65; refine hg.mono ?_; rintro e w' ⟨rfl, hw'⟩; subst w')
                go_ret3
                exact ⟨.inl ⟨by rw [he.out]; decide, by rw [he.out]; rfl⟩, rfl⟩
              | false =>
                have hK0 := hkey rfl
                go_enter Tryd.func45, Tryd.ntmps45
                go_wp2_with (go_at_call 65; refine hg.mono ?_; rintro e w' ⟨rfl, hw'⟩; subst w')
                go_ret3
                exact ⟨.inl ⟨by rw [he.out]; decide, by rw [he.out]; rfl⟩, rfl⟩
            · cases L with
              | true =>
                go_enter Tryd.func45, Tryd.ntmps45
                go_wp2_with (go_at_call 65; refine hg.mono ?_; rintro e w' ⟨rfl, hw'⟩; subst w')
                go_ret3
                exact ⟨.inl ⟨by rw [he.out]; decide, by rw [he.out]; rfl⟩, rfl⟩
              | false =>
                have hK0 := hkey rfl
                go_enter Tryd.func45, Tryd.ntmps45
                go_wp2_with (go_at_call 65; refine hg.mono ?_; rintro e w' ⟨rfl, hw'⟩; subst w')
                go_ret3
                exact ⟨.inl ⟨by rw [he.out]; decide, by rw [he.out]; rfl⟩, rfl⟩
          · have he : Hid (frE most zs = 0) := by show _ = _; rw [hE.out, if_neg h4]
            clear hE hpl
            by_cases hc4 : cap = 4
            · subst hc4
              obtain rfl : len = 4 := by omega
              obtain rfl : K = 0 := by omega
              have hp0 : Hid (piece zs = []) := by show _ = _; rw [hpd.out]; simp
              clear hds
              cases L with
              | true =>
                go_enter Tryd.func45, Tryd.ntmps45
                go_wp2_with (go_at_call 65; refine hg.mono ?_; rintro e w' ⟨rfl, hw'⟩; subst w')
                go_ret3
                exact ⟨.inr ⟨he.out, _, rfl, .inl hp0.out⟩, rfl⟩
              | false => exact absurd rfl (hkey rfl)
            · have hps := hds.take K
              rw [← hpd.out] at hps
              clear hds hsd
              cases L with
              | true =>
                by_cases hK0 : K = 0
                · subst hK0
                  go_enter Tryd.func45, Tryd.ntmps45
                  go_wp2_with (go_at_call 65; refine hg.mono ?_; rintro e w' ⟨rfl, hw'⟩; subst w')
                  go_ret3
                  exact ⟨.inr ⟨he.out, _, rfl, hps⟩, rfl⟩
                · go_enter Tryd.func45, Tryd.ntmps45
                  go_wp2_with (go_at_call 65; refine hg.mono ?_; rintro e w' ⟨rfl, hw'⟩; subst w')
                  go_ret3
                  exact ⟨.inr ⟨he.out, _, rfl, hps⟩, rfl⟩
              | false =>
                have hK0 := hkey rfl
                go_enter Tryd.func45, Tryd.ntmps45
                go_wp2_with (go_at_call 65; refine hg.mono ?_; rintro e w' ⟨rfl, hw'⟩; subst w')
                go_ret3
                exact ⟨.inr ⟨he.out, _, rfl, hps⟩, rfl⟩
end Go.Proofs.YtmjjoiljdcjhdaaDoor
