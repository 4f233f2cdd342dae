/- The document's Pad: how many bytes more than so many the next multiple of four is; 0 below 0; nothing turns. -/
import Derived.Test.YtmanblfmdpdfoaaDoorNumsMathPad
import Derived.Test.YtmanblfmdpdfoaaDoorRows
import Derived.Test.YtmanblfmdpdfoaaDoorBytes
import Derived.WalkKit
import Derived.ArgAppend
namespace Go.Proofs.YtmanblfmdpdfoaaDoor
set_option linter.unusedVariables false
open Go.RowKit

set_option maxRecDepth 100000 in
set_option maxHeartbeats 400000 in
theorem refpad_nat (n : Nat) (w : World) (hn : n ≤ 9223372036854775807) :
    Calls Tryd.prog 94 #[.int .i64 (n : Int)] w fun e w' => e = .returned (.int .i64 (padN n : Nat)) ∧ w' = w := by
  have hp := padN_lt n
  have hpe : padN n = (4 - n % 4) % 4 := rfl
  have hg : decide (0 ≤ (n : Int)) = true := by simp
  generalize padN n = p at *
  go_enter Tryd.func94, Tryd.ntmps94
  go_wp2
  go_loop [3] (fun v => ∃ k : Nat, k ≤ p ∧ v = .int .i64 k) (fun v => p - (intOf v).toNat)
  case atStart => exact ⟨0, by omega, rfl⟩
  case round =>
    obtain ⟨k, hk, rfl⟩ := hrel
    by_cases hlt : k < p
    · have hq : ((((n : Int) % 4 + (k : Int)) % 4) != 0) = true := by simp; omega
      go_wp2
      go_round
      case rel => exact ⟨k + 1, by omega, by go_num⟩
      case measure => simp [intOf]; omega
    · obtain rfl : k = p := by omega
      have hq : ((((n : Int) % 4 + (k : Int)) % 4) != 0) = false := by simp; omega
      go_wp2
      go_ret
      exact ⟨rfl, rfl⟩

set_option maxRecDepth 100000 in
set_option maxHeartbeats 400000 in
theorem refpad_neg (n : Int) (w : World) (hn : n < 0) (hm : -9223372036854775808 ≤ n) :
    Calls Tryd.prog 94 #[.int .i64 n] w fun e w' => e = .returned (.int .i64 0) ∧ w' = w := by
  have hg : decide (0 ≤ n) = false := by simp; omega
  go_enter Tryd.func94, Tryd.ntmps94
  go_wp2
  refine wp_loop_rounds 1 ?_
  rw [rounds_succ]
  go_wp2
  go_ret
  exact ⟨rfl, rfl⟩
end Go.Proofs.YtmanblfmdpdfoaaDoor

/- The document's Put: the bytes of a number, in memory of their own; nothing that was there turns. -/
namespace Go.Proofs.YtmanblfmdpdfoaaDoor
set_option linter.unusedVariables false
open Go.RowKit

theorem infoU8r : (Tryd.prog.info? 5).map (fun i => (i.zero, i.size, i.bytes)) = some (some (.int .u8 0), 1, 1) := by kernel_rfl

theorem bytes4 (n : Int) : bytesOf n 4 = [n / 16777216 % 256, n / 65536 % 256, n / 256 % 256, n % 256] := by
  simp [bytesOf, byteAt, List.range_succ]

set_option maxHeartbeats 400000 in
theorem refPut_any (n : Int) (h0 : 0 ≤ n) (h1 : n ≤ 4294967295) (w : World) :
    Calls Tryd.prog 23 #[.int .u32 n] w fun e W' => e = .returned (.slice (some ⟨w.heap.size, 0, none⟩) 4 4) ∧ W' = w.alloc (.cells ((bytesOf n 4).map (Value.int .u8)).toArray 5) := by
  have e1 : n / 16777216 % 256 = n / 16777216 := by omega
  rw [bytes4]
  go_enter Tryd.func23, Tryd.ntmps23
  go_wp2
  go_ret
  refine ⟨rfl, ?_⟩
  simp [e1]

theorem refPut_seg (n : Int) (h0 : 0 ≤ n) (h1 : n ≤ 4294967295) (w : World) :
    Calls Tryd.prog 23 #[.int .u32 n] w fun e W' => ∃ g, e = .returned (.slice (some ⟨g, 0, none⟩) 4 4) ∧ Seg W' (some ⟨g, 0, none⟩) (bytesOf n 4) ∧ Below w.heap.size w W' := by
  refine (refPut_any n h0 h1 w).mono ?_
  rintro e W' ⟨rfl, rfl⟩
  exact ⟨_, rfl, seg_lit _ _ _, (Below.refl _ _).alloc (Nat.le_refl _) _⟩
end Go.Proofs.YtmanblfmdpdfoaaDoor
