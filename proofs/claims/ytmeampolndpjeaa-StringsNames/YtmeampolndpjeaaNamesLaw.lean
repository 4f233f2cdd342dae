/- The walk of 'StringsNames': true for any text; nothing that was there turns. -/
import Derived.Test.YtmeampolndpjeaaBeyond
import Derived.Test.YtmeampolndpjeaaAliveStr
import Derived.WalkSmall
namespace Go.Proofs.Ytmeampolndpjeaa
set_option linter.unusedVariables false
open Go.RowKit

theorem tz_at (s : ByteArray) (i : Nat) (hi : i < s.size) : (tz s)[i]? = some ((s[i]).toNat : Int) := by
  have hi' : i < s.data.toList.length := by rw [Array.length_toList]; exact hi
  rw [tz, List.getElem?_map, List.getElem?_eq_getElem hi']
  simp [ByteArray.getElem_eq_getElem_data]

theorem np_cases (s : ByteArray) : (hasB s 47 ∧ nameE s = 22 ∧ (pathE s = 0 ∨ pathE s = 22 ∨ pathE s = 63)) ∨
    (¬ hasB s 47 ∧ ((nameE s = 0 ∧ pathE s = 0 ∧ s.size ≤ 255) ∨ (nameE s = 63 ∧ pathE s = 0 ∧ 255 < s.size) ∨ (nameE s = 22 ∧ pathE s = 22) ∨ (nameE s = 63 ∧ pathE s = 63))) := by
  unfold nameE pathE
  by_cases h1 : hasB s 47
  · refine .inl ⟨h1, if_pos (.inr (.inr h1)), ?_⟩
    split
    · exact .inr (.inl rfl)
    · split
      · exact .inr (.inr rfl)
      · exact .inl rfl
  · refine .inr ⟨h1, ?_⟩
    by_cases h2 : s.size = 0 ∨ hasB s 0
    · rw [if_pos h2, if_pos (by rcases h2 with h | h; exact .inl h; exact .inr (.inl h))]
      exact .inr (.inr (.inl ⟨rfl, rfl⟩))
    · rw [if_neg h2, if_neg (by rintro (h | h | h); exact h2 (.inl h); exact h2 (.inr h); exact h1 h)]
      by_cases h3 : 255 < s.size
      · rw [if_pos h3]
        by_cases h4 : 1024 < s.size
        · rw [if_pos h4]
          exact .inr (.inr (.inr ⟨rfl, rfl⟩))
        · rw [if_neg h4]
          exact .inr (.inl ⟨rfl, rfl, h3⟩)
      · rw [if_neg h3, if_neg (by omega)]
        exact .inl ⟨rfl, rfl, by omega⟩

set_option maxRecDepth 100000 in
set_option maxHeartbeats 1000000 in
theorem names_walk (s : ByteArray) (w : World) (hm : s.size ≤ 9223372036854775807) :
    Calls Try.prog 6 #[.string s] w fun e w' => e = .returned (.bool true) ∧ Below w.heap.size w w' := by
  by_cases hl : 1048576 < s.size
  · go_enter Try.func6, Try.ntmps6
    go_wp2_with fail
    refine (alive_any w).mono ?_
    rintro e w1 ⟨rfl, hB1⟩
    go_wp2_with fail
    refine (beyond_yes (s.size : Int) _ _ (by omega) (by omega) (by simp)).mono ?_
    rintro e w' ⟨rfl, rfl⟩
    have hB2 := hB1.alloc hB1.size (.cells #[.int .i64 (s.size : Int)] 3)
    generalize w1.alloc (.cells #[.int .i64 (s.size : Int)] 3) = w2 at *
    go_wp2_with fail
    refine (alive_any _).mono ?_
    rintro e w3 ⟨rfl, hB3⟩
    go_wp2
    go_ret
    exact ⟨rfl, hB2.trans (hB3.mono hB2.size)⟩
  · go_enter Try.func6, Try.ntmps6
    go_wp2_with fail
    refine (alive_any w).mono ?_
    rintro e w1 ⟨rfl, hB1⟩
    go_wp2_with fail
    refine (beyond_no (s.size : Int) _ _ (by omega) (by omega) (by simp)).mono ?_
    rintro e w' ⟨rfl, rfl⟩
    have hB2 := hB1.alloc hB1.size (.cells #[.int .i64 (s.size : Int)] 3)
    generalize w1.alloc (.cells #[.int .i64 (s.size : Int)] 3) = w2 at *
    go_wp2_with fail
    go_loopw [3, 4] (fun b i wr => ∃ k : Nat, k ≤ s.size ∧ i = .int .i64 k ∧ b = .bool (decide ((47 : Int) ∈ (tz s).take k)) ∧ wr = w2) (fun _ i _ => s.size - (intOf i).toNat)
    case atStart => exact ⟨0, by omega, by go_num, by simp, rfl⟩
    case round =>
      obtain ⟨k, hk, rfl, rfl, rfl⟩ := hrel
      by_cases hlt : k < s.size
      · have hat := tz_at s k hlt
        have hst : (tz s).take (k + 1) = (tz s).take k ++ [((s[k]).toNat : Int)] := by rw [List.take_add_one, hat]; rfl
        cases hq : decide ((47 : Int) ∈ (tz s).take k) with
        | true =>
          go_wp2
          go_roundw
          case rel =>
            refine ⟨k + 1, by omega, by go_num, ?_, trivial⟩
            have hq' := of_decide_eq_true hq
            rw [hst, decide_eq_true (List.mem_append_left _ hq')]
          case measure => simp [intOf]; omega
        | false =>
          go_wp2
          go_roundw
          case rel =>
            refine ⟨k + 1, by omega, by go_num, ?_, trivial⟩
            have hq' := of_decide_eq_false hq
            rw [hst]
            congr 1
            rw [Bool.eq_iff_iff]
            simp only [beq_iff_eq, decide_eq_true_iff, List.mem_append, List.mem_singleton, hq', false_or]
            exact eq_comm
          case measure => simp [intOf]; omega
      · obtain rfl : k = s.size := by omega
        rw [List.take_of_length_le (by rw [tz_len]; omega)]
        rw [show decide ((47 : Int) ∈ tz s) = decide (hasB s 47) from rfl]
        have hn := name_any s wr
        have hp := fun w => path_any s w
        have hc := np_cases s
        generalize nameE s = N at *
        generalize pathE s = P at *
        rcases hc with ⟨hS, rfl, rfl | rfl | rfl⟩ | ⟨hS, ⟨rfl, rfl, hz⟩ | ⟨rfl, rfl, hz⟩ | ⟨rfl, rfl⟩ | ⟨rfl, rfl⟩⟩
        all_goals
          first
          | rw [decide_eq_true hS]
          | rw [decide_eq_false hS]
          go_wp2_with fail
          refine hn.mono ?_
          rintro e w3 ⟨rfl, hb3⟩
          have hB3 := hB2.trans (hb3.mono hB2.size)
          clear hb3 hB2 hn
          go_wp2_with fail
          refine (hp w3).mono ?_
          rintro e w4 ⟨rfl, hb4⟩
          have hB4 := hB3.trans (hb4.mono hB3.size)
          clear hb4 hB3 hp
          go_wp2
          go_ret
          first
          | exact ⟨rfl, hB4⟩
          | exact ⟨ret_bool (a := !decide ((s.size : Int) ≤ 255)) (by simp; omega), hB4⟩
          | exact ⟨ret_bool (a := decide ((s.size : Int) ≤ 255)) (by simp; omega), hB4⟩
end Go.Proofs.Ytmeampolndpjeaa
