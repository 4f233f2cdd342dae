/- The document's Pad: how many bytes more than so many the next multiple of four is; 0 below 0; nothing turns. -/
import Derived.Test.YtciinabhelfnoaaGreatDoorPadNoughtDefFixDefCutMathOpqDefNoughtsM
import Derived.Test.YtciinabhelfnoaaGreatDoorRows
import Derived.Test.YtciinabhelfnoaaGreatDoorBase
import Derived.Test.YtciinabhelfnoaaGreatDoorNumBytesM
import Derived.Outline
import Derived.Test.YtciinabhelfnoaaGreatDoorGetOpqM
import Derived.Laws.AppendOwnNone
namespace Go.Proofs.YtciinabhelfnoaaGreatDoor
set_option linter.unusedVariables false
open Go.RowKit

set_option maxRecDepth 100000 in
set_option maxHeartbeats 400000 in
theorem refpad_nat (n : Nat) (w : World) (hn : n ≤ 9223372036854775807) :
    Calls Tryz.prog 83 #[.int .i64 (n : Int)] w fun e w' => e = .returned (.int .i64 (padN n : Nat)) ∧ w' = w := by
  have hp := padN_lt n
  have hpe : padN n = (4 - n % 4) % 4 := rfl
  have hg : decide (0 ≤ (n : Int)) = true := by simp
  generalize padN n = p at *
  go_enter Tryz.func83, Tryz.ntmps83
  go_wp2
  go_loop [3] (fun v => ∃ k : Nat, k ≤ p ∧ v = .int .i64 k) (fun v => p - (intOf v).toNat)
  case atStart => exact ⟨0, by omega, rfl⟩
  case round =>
    obtain ⟨k, hk, rfl⟩ := hrel
    by_cases hlt : k < p
    · have hq : ((((n : Int) % 4 + (k : Int)) % 4) != 0) = true := by simp; omega
      go_wp2
      go_round
      case rel => exact ⟨k + 1, by omega, by go_num⟩
      case measure => simp [intOf]; omega
    · obtain rfl : k = p := by omega
      have hq : ((((n : Int) % 4 + (k : Int)) % 4) != 0) = false := by simp; omega
      go_wp2
      go_ret
      exact ⟨rfl, rfl⟩

set_option maxRecDepth 100000 in
set_option maxHeartbeats 400000 in
theorem refpad_neg (n : Int) (w : World) (hn : n < 0) (hm : -9223372036854775808 ≤ n) :
    Calls Tryz.prog 83 #[.int .i64 n] w fun e w' => e = .returned (.int .i64 0) ∧ w' = w := by
  have hg : decide (0 ≤ n) = false := by simp; omega
  go_enter Tryz.func83, Tryz.ntmps83
  go_wp2
  refine wp_loop_rounds 1 ?_
  rw [rounds_succ]
  go_wp2
  go_ret
  exact ⟨rfl, rfl⟩
end Go.Proofs.YtciinabhelfnoaaGreatDoor

/- The document's Get of four bytes: the number that the bytes begin with, or ErrShort; nothing turns. -/
namespace Go.Proofs.YtciinabhelfnoaaGreatDoor
set_option linter.unusedVariables false
open Go.RowKit

set_option maxHeartbeats 400000 in
theorem refget_any (a : Option Addr) (len cap : Nat) (zs : List Int) (w : World) (hlc : len ≤ cap) (hm : cap ≤ 9223372036854775807) (hz : zs.length = len) (hb : Byt zs) (hs : Seg w a zs) :
    Calls Tryz.prog 23 #[.slice a len cap] w fun e w' => e = .returned (.tuple #[.int .u32 (getN zs), .int .i64 (getE zs)]) ∧ w' = w := by
  by_cases hl : len < 4
  · have e1 : getN zs = 0 := by simp [getN, hz, hl]
    have e2 : getE zs = 4 := by simp [getE, hz, hl]
    rw [e1, e2]
    clear e1 e2
    go_enter Tryz.func23, Tryz.ntmps23
    go_wp2
    go_ret2
    exact ⟨rfl, rfl⟩
  · rcases hs with rfl | ⟨b, off, rfl, hc⟩
    · simp at hz; omega
    · have e1 : getN zs = be (zs.take 4) := by simp [getN, hz, hl]
      have e2 : getE zs = 0 := by simp [getE, hz, hl]
      rw [e1, e2]
      clear e1 e2
      go_enter Tryz.func23, Tryz.ntmps23
      go_wp2
      go_loop [4, 5] (fun n i => ∃ k : Nat, k ≤ 4 ∧ i = .int .i64 k ∧ n = .int .u32 (be (zs.take k))) (fun _ i => 4 - (intOf i).toNat)
      case atStart => exact ⟨0, by omega, rfl, rfl⟩
      case round =>
        obtain ⟨k, hk, rfl, rfl⟩ := hrel
        by_cases hlt : k < 4
        · have hcx := hc k (by omega)
          have hby := hb k
          have h1 := be_bound zs hb k (by omega)
          have h2 := pow_lt4 hlt
          have h3 : be (zs.take k) < 16777216 := by omega
          have h4 := h1.1
          have HS : Hid (be (zs.take (k + 1)) = 256 * be (zs.take k) + zs[k]?.getD 0) := be_take zs k (by omega)
          clear h1 h2
          go_wp2
          go_round
          case rel => exact ⟨k + 1, by omega, by go_num, by rw [HS.out]⟩
          case measure => simp [intOf]; omega
        · obtain rfl : k = 4 := by omega
          go_wp2
          go_ret2
          exact ⟨rfl, rfl⟩
end Go.Proofs.YtciinabhelfnoaaGreatDoor

/- The document's 'fixed': so many bytes that the bytes begin with, or the error. -/
namespace Go.Proofs.YtciinabhelfnoaaGreatDoor
set_option linter.unusedVariables false
open Go.RowKit

theorem drop_take_step (zs : List Int) (n k p : Nat) (hk : k < p) (hl : n + p ≤ zs.length) (h : allNought ((zs.drop n).take k) = true) (hx : zs[n + k]?.getD 0 = 0) : allNought ((zs.drop n).take (k + 1)) = true :=
  nought_step (zs.drop n) k h (by rw [List.length_drop]; omega) (by rw [List.getElem?_drop]; exact hx)

theorem drop_take_stop (zs : List Int) (n k p : Nat) (hk : k < p) (hl : n + p ≤ zs.length) (hx : zs[n + k]?.getD 0 ≠ 0) : allNought ((zs.drop n).take p) = false :=
  nought_stop ((zs.drop n).take p) k (by rw [List.length_take, List.length_drop]; omega) (by rw [List.getElem?_take, if_pos hk, List.getElem?_drop]; exact hx)

set_option maxRecDepth 100000 in
set_option maxHeartbeats 1000000 in
theorem reffixed_any (a : Option Addr) (len cap n : Nat) (zs : List Int) (w : World) (hlc : len ≤ cap) (hm : cap ≤ 9223372036854775807) (hl : len ≤ 1048576) (hz : zs.length = len) (hb : Byt zs) (hs : Seg w a zs) (hnil : a = none → len = 0 ∧ cap = 0) (hn : n ≤ 4294967295) :
    Calls Tryz.prog 57 #[.slice a len cap, .int .i64 (n : Int)] w fun e w' => ∃ v, e = .returned (.tuple #[v, .int .i64 (cutL zs n : Nat), .int .i64 (fixE zs n)]) ∧
      w'.ownsRow w.heap.size 5 1 v (cutZ zs n).length ((cutZ zs n).map (Value.int .u8)) ∧ Below w.heap.size w w' := by
  obtain ⟨i0, hi, hz0, hz1, hz2⟩ := info_parts infoC
  have hp := padN_lt n
  by_cases hsh : len < n + padN n
  · have e4 : fixE zs n = 4 := by unfold fixE; rw [if_pos (by omega)]
    rw [cutL, cutZ, e4, if_neg (by decide), if_neg (by decide)]
    clear e4
    have hg := refpad_nat n w (by omega)
    generalize padN n = p at *
    go_enter Tryz.func57, Tryz.ntmps57
    go_wp2_with (go_at_call 83; refine hg.mono ?_; rintro e w' ⟨rfl, hw'⟩; subst w')
    go_ret3
    exact ⟨_, rfl, own_empty _ _ _, Below.refl _ _⟩
  · have HF : Hid (fixE zs n = if allNought ((zs.drop n).take (padN n)) then 0 else 5) := fixE_form (by omega)
    have HZ : Hid (cutZ zs n = if fixE zs n = 0 then zs.take n else []) := rfl
    have HL : Hid (cutL zs n = if fixE zs n = 0 then n + padN n else 0) := rfl
    have hg := refpad_nat n w (by omega)
    generalize hpp : padN n = p at *
    clear hpp
    generalize cutL zs n = cl at *
    generalize cutZ zs n = cz at *
    generalize fixE zs n = fe at *
    go_enter Tryz.func57, Tryz.ntmps57
    go_wp2_with (go_at_call 83; refine hg.mono ?_; rintro e w' ⟨rfl, hw'⟩; subst w')
    go_loop [8] (fun v => ∃ k : Nat, k ≤ p ∧ v = .int .i64 ((n + k : Nat) : Int) ∧ allNought ((zs.drop n).take k) = true) (fun v => n + p - (intOf v).toNat)
    case atStart => exact ⟨0, by omega, by simp, rfl⟩
    case round =>
      obtain ⟨k, hk, rfl, hall⟩ := hrel
      by_cases hlt : k < p
      · rcases hs with rfl | ⟨b, off, rfl, hc⟩
        · simp at hz; omega
        · have hcx := hc (n + k) (by omega)
          have hst := drop_take_step zs n k p hlt (by omega) hall
          have hsp := drop_take_stop zs n k p hlt (by omega)
          generalize zs[n + k]?.getD 0 = x at hcx hst hsp
          clear hc
          by_cases hx : x = 0
          · subst hx
            replace hst := hst rfl
            go_wp2
            go_round
            case rel => exact ⟨k + 1, by omega, by go_num, hst⟩
            case measure => simp [intOf]; omega
          · have hxx : (x != 0) = true := by simp [hx]
            have e5 : fe = 5 := by rw [HF.out, hsp hx]; rfl
            have eZ : cz = [] := by rw [HZ.out, e5, if_neg (by decide)]
            have eL : cl = 0 := by rw [HL.out, e5, if_neg (by decide)]
            subst e5
            subst eZ
            subst eL
            clear HF HZ HL
            go_wp2
            go_ret3
            exact ⟨_, rfl, own_empty _ _ _, Below.refl _ _⟩
      · obtain rfl : k = p := by omega
        have e0 : fe = 0 := by rw [HF.out, hall]; rfl
        have eZ : cz = zs.take n := by rw [HZ.out, if_pos e0]
        have eL : cl = n + k := by rw [HL.out, if_pos e0]
        subst e0
        subst eZ
        subst eL
        clear HF HZ HL
        have hzl : (zs.take n).length = n := by rw [List.length_take]; omega
        have hs0 := World.ownsRow_nil w w.heap.size 5 1
        cases a with
        | none =>
          obtain ⟨rfl, rfl⟩ := hnil rfl
          obtain rfl : n = 0 := by omega
          obtain rfl : k = 0 := by omega
          obtain rfl : zs = [] := List.length_eq_zero_iff.1 hz
          go_wp2_with (at_builtin; refine wpList_append_own_none rfl _ _ 22 rfl w.heap.size 5 i0 1 Tryz.underlying22 hi _ 0 _ rfl hs0 rfl ?_)
          go_ret3
          exact ⟨_, rfl, hs0, Below.refl _ _⟩
        | some ad =>
          have hst := hs.take n
          go_wp2_with (at_builtin; refine wpList_append_own _ rfl _ _ 22 rfl w.heap.size 5 i0 (.int .u8 0) 1 1 Tryz.underlying22 hi hz0 hz1 hz2 rfl (by decide) (.slice none 0 0) 0 [] rfl hs0 ad n cap ((zs.take n).map (Value.int .u8)) rfl (by simp; omega) (seg_news hst) (news_one _) (by unfold maxLen; omega) (by omega) (Nat.le_refl _) ?_; intro v1 w1 hown1 hgrow1 _)
          rw [Nat.zero_add, List.nil_append] at hown1
          go_ret3
          exact ⟨v1, by go_num, by first | (rw [hzl]; exact hown1) | (rw [← List.map_take]; exact hown1) | exact hown1, (Below.refl _ _).grown hgrow1 (Nat.le_refl _) (by simp [Value.ownBlock])⟩

end Go.Proofs.YtciinabhelfnoaaGreatDoor
