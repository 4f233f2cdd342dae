/- 'Beyond' of any lengths: whether they are above 1048576 together; nothing turns. -/
import Derived.Test.YtciinabhelfnoaaRows
import Derived.Test.YtciinabhelfnoaaBase
import Derived.Outline
namespace Go.Proofs.Ytciinabhelfnoaa
set_option linter.unusedVariables false
open Go.RowKit

/-- Whether these lengths, from so much on, come to be above the bound. -/
def beyond : Nat → List Nat → Bool
  | s, [] => false
  | s, n :: r => decide (1048576 < s + n) || beyond (s + n) r

theorem beyond_drop (ns : List Nat) (s k : Nat) (hk : k < ns.length) : beyond s (ns.drop k) = (decide (1048576 < s + ns[k]) || beyond (s + ns[k]) (ns.drop (k + 1))) := by
  rw [List.drop_eq_getElem_cons hk]
  rfl

theorem beyond_le {s n : Nat} {ns : List Nat} (h : beyond s ns = false) (hm : n ∈ ns) : n ≤ 1048576 := by
  induction ns generalizing s with
  | nil => cases hm
  | cons x r ih =>
    simp only [beyond, Bool.or_eq_false_iff, decide_eq_false_iff_not] at h
    rcases List.mem_cons.1 hm with rfl | h2
    · omega
    · exact ih h.2 h2

set_option maxHeartbeats 400000 in
theorem beyond_any (ns : List Nat) (b len : Nat) (w : World) (hlen : ns.length = len) (hsm : len ≤ 9223372036854775807) (hb : ∀ n ∈ ns, n ≤ 9223372036853727231) (hc : ∀ i, (h : i < ns.length) → w.cell? ⟨b, i, none⟩ = some (.int .i64 (ns[i] : Nat))) :
    Calls Try.prog 9 #[.slice (some ⟨b, 0, none⟩) len len] w fun e w' => e = .returned (.bool (beyond 0 ns)) ∧ w' = w := by
  go_enter Try.func9, Try.ntmps9
  go_wp2
  go_loop [3, 4] (fun n i => ∃ k s : Nat, k ≤ len ∧ i = .int .i64 k ∧ n = .int .i64 s ∧ s ≤ 1048576 ∧ beyond s (ns.drop k) = beyond 0 ns) (fun _ i => len - (intOf i).toNat)
  case atStart => exact ⟨0, 0, by omega, rfl, rfl, by omega, rfl⟩
  case round =>
    obtain ⟨k, s, hk, rfl, rfl, hs, he⟩ := hrel
    by_cases hlt : k < len
    · have hcx := hc k (by omega)
      have hbx := hb ns[k] (List.getElem_mem _)
      have HD : Hid (beyond s (ns.drop k) = (decide (1048576 < s + ns[k]) || beyond (s + ns[k]) (ns.drop (k + 1)))) := beyond_drop ns s k (by omega)
      generalize ns[k] = x at hcx hbx HD
      clear hc
      by_cases hx : 1048576 < s + x
      · go_wp2
        go_ret
        refine ⟨?_, rfl⟩
        rw [← he, HD.out]
        simp [hx]
      · go_wp2
        go_round
        case rel => exact ⟨k + 1, s + x, by omega, by go_num, by go_num, by omega, by rw [← he, HD.out]; simp [hx]⟩
        case measure => simp [intOf]; omega
    · obtain rfl : k = len := by omega
      go_wp2
      go_ret
      refine ⟨?_, rfl⟩
      rw [← he, List.drop_of_length_le (by omega)]
      rfl
end Go.Proofs.Ytciinabhelfnoaa
