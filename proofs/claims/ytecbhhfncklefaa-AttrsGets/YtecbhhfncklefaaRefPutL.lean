/- The document's PutLong and PutYes: the bytes of a number, in memory of their own; nothing that was there turns. -/
import Derived.Test.YtecbhhfncklefaaRows
import Derived.Test.YtecbhhfncklefaaBytes
import Derived.Test.YtecbhhfncklefaaRefPut4
import Derived.WalkKit
import Derived.ArgAppend
namespace Go.Proofs.Ytecbhhfncklefaa
set_option linter.unusedVariables false
open Go.RowKit

theorem halves (n : Int) : bytesOf n 8 = bytesOf (n / 4294967296 % 4294967296) 4 ++ bytesOf (n % 4294967296) 4 := by
  have h1 := bytesOf_add n 4 4
  have h2 := bytesOf_mod (n / 4294967296) 4
  have h3 := bytesOf_mod n 4
  rw [show (256 : Int) ^ 4 = 4294967296 from by decide] at h1 h2 h3
  rw [h2, h3, ← h1]

set_option maxHeartbeats 400000 in
theorem refPutLong_any (n : Int) (h0 : 0 ≤ n) (h1 : n ≤ 18446744073709551615) (w : World) :
    Calls Try.prog 39 #[.int .u64 n] w fun e W' => ∃ g cap, e = .returned (.slice (some ⟨g, 0, none⟩) 8 cap) ∧ Seg W' (some ⟨g, 0, none⟩) (bytesOf n 8) ∧ Below w.heap.size w W' := by
  obtain ⟨i0, hi, hz0, hz1, hz2⟩ := info_parts infoU8r
  have e1 : n / 4294967296 % 4294967296 = n / 4294967296 := by omega
  have e2 : n % 4294967296 % 4294967296 = n % 4294967296 := by omega
  go_enter Try.func39, Try.ntmps39
  have hhv := halves n
  rw [e1] at hhv
  have HH : Hid (bytesOf n 8 = bytesOf (n / 4294967296) 4 ++ bytesOf (n % 4294967296) 4) := hhv
  clear hhv
  go_wp2_with fail
  refine (refPut_seg (n / 4294967296) (by omega) (by omega) _).mono ?_
  rintro e w1 ⟨g1, rfl, s1, b1⟩
  go_wp2_with fail
  refine (refPut_seg (n % 4294967296) (by omega) (by omega) _).mono ?_
  rintro e w2 ⟨g2, rfl, s2, b2⟩
  have s12 := s1.below b2
  have B2 := b1.trans (b2.mono b1.size)
  clear s1 b1 b2
  go_wp2_with (at_builtin; refine wpList_append_grows _ rfl _ _ 22 rfl 5 i0 (.int .u8 0) 1 1 Try.underlying22 hi hz0 hz1 hz2 rfl (by decide) (some ⟨g1, 0, none⟩) 4 4 ((bytesOf (n / 4294967296) 4).map (Value.int .u8)) rfl (by simp) (by simp [bytesOf_length]) (fun b hb j u hj => by cases hb; exact seg_news s12 j u hj) ⟨g2, 0, none⟩ 4 4 ((bytesOf (n % 4294967296) 4).map (Value.int .u8)) rfl (by simp [bytesOf_length]) (seg_news s2) (news_one _) (by omega) (by unfold maxLen; omega) (by omega) ?_; intro v' w3 hown3 hgrow3)
  obtain ⟨g3, cap3, rfl, _, _, _⟩ := own_shape hown3 (by omega)
  rw [← List.map_append, ← HH.out] at hown3
  have s3 := seg_own hown3 (bytesOf_length n 8)
  have B3 : Below w.heap.size w w3 := B2.grown hgrow3 B2.size (by simp)
  clear hown3 hgrow3
  go_wp2
  go_ret
  exact ⟨g3, cap3, rfl, s3, B3⟩
end Go.Proofs.Ytecbhhfncklefaa
