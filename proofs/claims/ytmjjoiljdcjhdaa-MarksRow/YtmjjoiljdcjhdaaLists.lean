/- Lists of lists of bytes that came in, and 'MessagesSize': how many lists and bytes there are, where they are not many; nothing turns. -/
import Derived.Test.YtmjjoiljdcjhdaaRows
import Derived.Test.YtmjjoiljdcjhdaaBase
import Derived.Test.YtmjjoiljdcjhdaaSegs
import Derived.Outline
namespace Go.Proofs.Ytmjjoiljdcjhdaa
set_option linter.unusedVariables false
open Go.RowKit

/-- How many bytes the lists have together. -/
def sizeOf2 (ps : List Part) : Nat := (ps.map Part.len).sum

theorem sizeOf2_take (ps : List Part) (k : Nat) (hk : k < ps.length) : sizeOf2 (ps.take (k + 1)) = sizeOf2 (ps.take k) + ps[k].len := by
  unfold sizeOf2
  rw [List.take_succ_eq_append_getElem hk, List.map_append, List.sum_append]
  simp

theorem sizeOf2_mem {ps : List Part} {p : Part} (h : p ∈ ps) : p.len ≤ sizeOf2 ps := by
  induction ps with
  | nil => cases h
  | cons q r ih =>
    unfold sizeOf2 at *
    rw [List.map_cons, List.sum_cons]
    rcases List.mem_cons.1 h with rfl | h
    · omega
    · have := ih h; omega

theorem sizeOf2_take_le (ps : List Part) (k : Nat) : sizeOf2 (ps.take k) ≤ sizeOf2 ps := by
  have h : sizeOf2 ps = sizeOf2 (ps.take k) + sizeOf2 (ps.drop k) := by
    unfold sizeOf2
    rw [← List.sum_append, ← List.map_append, List.take_append_drop]
  omega

set_option maxHeartbeats 400000 in
theorem messagesSize_any (a : Option Addr) (len cap : Nat) (ps : List Part) (w : World) (hl : len ≤ 1000000) (hlc : len ≤ cap) (hm : cap ≤ 9223372036854775807) (hz : ps.length = len) (hs : Segs w a ps) (hp : ∀ p ∈ ps, p.Ok w) :
    Calls Try.prog 12 #[.slice a len cap] w fun e w' => (∃ S : Nat, e = .returned (.int .i64 S) ∧ (S ≤ 1000000 → S = len + sizeOf2 ps)) ∧ w' = w := by
  go_enter Try.func12, Try.ntmps12
  go_wp2
  go_loop [3, 4] (fun n i => ∃ k S : Nat, k ≤ len ∧ i = .int .i64 k ∧ n = .int .i64 S ∧ S = len + sizeOf2 (ps.take k) ∧ S ≤ 140737488351232 + 1000000) (fun _ i => len - (intOf i).toNat)
  case atStart => exact ⟨0, len, by omega, rfl, rfl, by simp [sizeOf2], by omega⟩
  case round =>
    obtain ⟨k, S, hk, rfl, rfl, hS, hSm⟩ := hrel
    by_cases hlt : k < len
    · by_cases hS1 : S ≤ 1000000
      · rcases hs with rfl | ⟨b, off, rfl, hc⟩
        · simp at hz; omega
        · have hcx := hc k (by omega)
          have hix := hp ps[k] (List.getElem_mem _)
          have hst := sizeOf2_take ps k (by omega)
          generalize ps[k] = p at hcx hix hst
          have hr := hix.reach
          have hlp := hix.lc
          unfold Part.v at hcx
          clear hc
          go_wp2
          go_round
          case rel => exact ⟨k + 1, S + p.len, by omega, by go_num, by go_num, by omega, by omega⟩
          case measure => simp [intOf]; omega
      · clear hS
        go_wp2
        go_ret
        exact ⟨⟨S, rfl, fun h => absurd h hS1⟩, rfl⟩
    · obtain rfl : k = len := by omega
      rw [List.take_of_length_le (by omega)] at hS
      have HS : Hid (S = k + sizeOf2 ps) := hS
      clear hS
      go_wp2
      go_ret
      exact ⟨⟨S, rfl, fun _ => HS.out⟩, rfl⟩
end Go.Proofs.Ytmjjoiljdcjhdaa
