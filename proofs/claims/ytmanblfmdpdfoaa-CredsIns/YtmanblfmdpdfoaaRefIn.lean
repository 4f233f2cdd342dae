/- The document's 'In' and 'Nobody'; nothing that was there turns. -/
import Derived.Test.YtmanblfmdpdfoaaCredIn
import Derived.Test.YtmanblfmdpdfoaaCredCells
namespace Go.Proofs.Ytmanblfmdpdfoaa
set_option linter.unusedVariables false
open Go.RowKit

set_option maxHeartbeats 400000 in
theorem refnobody_any (w : World) : Calls Try.prog 14 #[] w fun e w' => e = .returned (.agg #[.int .u32 65534, .int .u32 65534, .slice none 0 0]) ∧ Below w.heap.size w w' := by
  go_enter Try.func14, Try.ntmps14
  go_wp2
  refine bodyPost_ret (v := .agg #[.int .u32 65534, .int .u32 65534, .slice none 0 0]) (by simp [results, Try.results14, go_sem]) rfl ⟨rfl, ?_⟩
  exact ((Below.refl _ _).alloc (Nat.le_refl _) _)

set_option maxHeartbeats 1000000 in
theorem refin_any (u g : Int) (a : Option Addr) (len cap : Nat) (gs : List Int) (x : Int) (w : World) (hl : len ≤ 9223372036854775807) (hz : gs.length = len) (hs : Seg4 w a gs) :
    Calls Try.prog 10 #[.agg #[.int .u32 u, .int .u32 g, .slice a len cap], .int .u32 x] w fun e w' => e = .returned (.bool (inG g gs x)) ∧ Below w.heap.size w w' := by
  have hB : Below w.heap.size w (w.alloc (.cells #[.int .u32 u, .int .u32 g, .slice a len cap] 25)) := (Below.refl _ _).alloc (Nat.le_refl _) _
  have hs' := hs.below hB
  obtain ⟨c0, c1, c2, _, _, _⟩ := cred_at (heap_alloc_new w (.cells #[.int .u32 u, .int .u32 g, .slice a len cap] 25))
  go_enter Try.func10, Try.ntmps10
  go_wp2
  generalize w.alloc (.cells #[.int .u32 u, .int .u32 g, .slice a len cap] 25) = w1 at *
  go_loop [5] (fun i => ∃ k : Nat, k ≤ len ∧ i = .int .i64 k ∧ x ∉ gs.take k) (fun i => len - (intOf i).toNat)
  case atStart => exact ⟨0, by omega, rfl, by simp⟩
  case round =>
    obtain ⟨k, hk, rfl, hn⟩ := hrel
    by_cases hlt : k < len
    · rcases hs' with rfl | ⟨b, off, rfl, hc⟩
      · simp at hz; omega
      · have hcx := hc k (by omega)
        obtain ⟨y, hy⟩ : ∃ y, gs[k]?.getD 0 = y := ⟨_, rfl⟩
        rw [hy] at hcx
        have HYY : Hid (gs[k]?.getD 0 = y) := hy
        have HN : Hid (x ∉ gs.take k) := hn
        clear hy hc hn
        have hki : (k : Int) < (len : Int) := by omega
        by_cases hxy : x = y
        · subst hxy
          have q : (x == x) = true := by simp
          have hm : Hid (hasN gs x = true) := (hasN_iff gs x).2 (at_mem (by omega) HYY.out)
          clear HYY
          go_wp2
          go_ret
          exact ⟨ret_bool (by rw [inG, hm.out, Bool.or_true]), hB⟩
        · have q : (y == x) = false := by simp [Ne.symm hxy]
          have HX : Hid (x ≠ y) := hxy
          clear hxy
          go_wp2
          go_round
          case rel => exact ⟨k + 1, by omega, by go_num, not_take_succ (by omega) HN.out HYY.out HX.out⟩
          case measure => simp [intOf]; omega
    · obtain rfl : k = len := by omega
      rw [List.take_of_length_le (by omega)] at hn
      have hf : hasN gs x = false := by
        cases h : hasN gs x
        · rfl
        · exact absurd ((hasN_iff gs x).1 h) hn
      have HF : Hid (hasN gs x = false) := hf
      clear hf hn
      go_wp2
      go_ret
      exact ⟨ret_bool (by rw [inG, HF.out, Bool.or_false]), hB⟩
end Go.Proofs.Ytmanblfmdpdfoaa
