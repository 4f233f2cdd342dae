/- The walk of 'StringsBytes': true for any two texts; nothing that was there turns. -/
import Derived.Test.YtmeampolndpjeaaBeyonds
import Derived.Test.YtmeampolndpjeaaAliveStr
import Derived.Test.YtmeampolndpjeaaOpqMath
import Derived.WalkSmall
namespace Go.Proofs.Ytmeampolndpjeaa
set_option linter.unusedVariables false
open Go.RowKit

theorem has_mid (s t : ByteArray) (c : UInt8) : hasB (s ++ ⟨#[c]⟩ ++ t) (c.toNat : Int) := by
  unfold hasB
  rw [tz_append, tz_append]
  exact List.mem_append_left _ (List.mem_append_right _ (by simp [tz]))

theorem has_left {s t : ByteArray} {c : Int} (h : hasB s c) : hasB (s ++ t) c := by
  unfold hasB at h ⊢
  rw [tz_append]
  exact List.mem_append_left _ h

theorem nought_name (s t : ByteArray) : nameE (s ++ ⟨#[0]⟩ ++ t) = 22 := if_pos (.inr (.inl (has_mid s t 0)))
theorem nought_path (s t : ByteArray) : pathE (s ++ ⟨#[0]⟩ ++ t) = 22 := if_pos (.inr (has_mid s t 0))
theorem slash_name (s t : ByteArray) : nameE (s ++ ⟨#[47]⟩ ++ t) = 22 := if_pos (.inr (.inr (has_mid s t 47)))

theorem path_cases (s t : ByteArray) : (pathE s = 0 ∨ pathE s = 63) ∨ (pathE s = 22 ∧ s.size = 0) ∨ (pathE s = 22 ∧ s.size ≠ 0 ∧ pathE (s ++ ⟨#[47]⟩ ++ t) = 22) := by
  unfold pathE
  by_cases h : s.size = 0 ∨ hasB s 0
  · rw [if_pos h]
    by_cases h0 : s.size = 0
    · exact .inr (.inl ⟨rfl, h0⟩)
    · refine .inr (.inr ⟨rfl, h0, if_pos (.inr ?_)⟩)
      rcases h with h | h
      · exact absurd h h0
      · exact has_left (has_left h)
  · rw [if_neg h]
    split
    · exact .inl (.inr rfl)
    · exact .inl (.inl rfl)

set_option maxRecDepth 100000 in
set_option maxHeartbeats 1000000 in
theorem bytes_walk (s t : ByteArray) (w : World) (hm : s.size ≤ 140737488351232) (hm1 : t.size ≤ 140737488351232) :
    Calls Try.prog 7 #[.string s, .string t] w fun e w' => e = .returned (.bool true) ∧ Below w.heap.size w w' := by
  cases hbey : beyond 0 [s.size, t.size] with
  | true =>
    go_enter Try.func7, Try.ntmps7
    go_wp2_with fail
    refine (alive_any w).mono ?_
    rintro e w1 ⟨rfl, hB1⟩
    go_wp2_with fail
    refine (beyond_any [s.size, t.size] _ 2 _ rfl (by omega) (by intro n hn; simp at hn; omega) (cell_pair w1 3 s.size t.size)).mono ?_
    rintro e w' ⟨rfl, rfl⟩
    rw [hbey]
    have hB2 := hB1.alloc hB1.size (.cells #[.int .i64 (s.size : Int), .int .i64 (t.size : Int)] 3)
    generalize w1.alloc (.cells #[.int .i64 (s.size : Int), .int .i64 (t.size : Int)] 3) = w2 at *
    go_wp2_with fail
    refine (alive_any _).mono ?_
    rintro e w3 ⟨rfl, hB3⟩
    go_wp2
    go_ret
    exact ⟨rfl, hB2.trans (hB3.mono hB2.size)⟩
  | false =>
    have hl := beyond_le hbey (n := s.size) (by simp)
    have hl1 := beyond_le hbey (n := t.size) (by simp)
    have hie := isEmpty_size s
    go_enter Try.func7, Try.ntmps7
    go_wp2_with fail
    refine (alive_any w).mono ?_
    rintro e w1 ⟨rfl, hB1⟩
    go_wp2_with fail
    refine (beyond_any [s.size, t.size] _ 2 _ rfl (by omega) (by intro n hn; simp at hn; omega) (cell_pair w1 3 s.size t.size)).mono ?_
    rintro e w' ⟨rfl, rfl⟩
    rw [hbey]
    have hB2 := hB1.alloc hB1.size (.cells #[.int .i64 (s.size : Int), .int .i64 (t.size : Int)] 3)
    generalize w1.alloc (.cells #[.int .i64 (s.size : Int), .int .i64 (t.size : Int)] 3) = w2 at *
    clear hB1 hbey
    have e1 := nought_name s t
    have e2 := nought_path s t
    have e3 := slash_name s t
    have hc := path_cases s t
    go_wp2_with fail
    refine (name_any _ w2).mono ?_
    rintro e w3 ⟨rfl, hb3⟩
    rw [e1]
    have hB3 := hB2.trans (hb3.mono hB2.size)
    clear hb3 hB2 e1
    go_wp2_with fail
    refine (path_any _ w3).mono ?_
    rintro e w4 ⟨rfl, hb4⟩
    rw [e2]
    have hB4 := hB3.trans (hb4.mono hB3.size)
    clear hb4 hB3 e2
    go_wp2_with fail
    refine (name_any _ w4).mono ?_
    rintro e w5 ⟨rfl, hb5⟩
    rw [e3]
    have hB5 := hB4.trans (hb5.mono hB4.size)
    clear hb5 hB4 e3
    go_wp2_with fail
    refine (path_any _ w5).mono ?_
    rintro e w6 ⟨rfl, hb6⟩
    have hB6 := hB5.trans (hb6.mono hB5.size)
    clear hb6 hB5
    have hp := path_any (s ++ ⟨#[47]⟩ ++ t) w6
    generalize pathE s = P at *
    generalize pathE (s ++ ⟨#[47]⟩ ++ t) = P2 at *
    go_wp2_with fail
    refine hp.mono ?_
    rintro e w7 ⟨rfl, hb7⟩
    have hB7 := hB6.trans (hb7.mono hB6.size)
    clear hb7 hB6 hp
    rcases hc with (rfl | rfl) | ⟨rfl, h0⟩ | ⟨rfl, h0, rfl⟩
    · go_wp2
      go_ret
      exact ⟨rfl, hB7⟩
    · go_wp2
      go_ret
      exact ⟨rfl, hB7⟩
    · rw [decide_eq_true h0] at hie
      go_wp2
      go_ret
      exact ⟨rfl, hB7⟩
    · rw [decide_eq_false h0] at hie
      go_wp2
      go_ret
      exact ⟨rfl, hB7⟩
end Go.Proofs.Ytmeampolndpjeaa
