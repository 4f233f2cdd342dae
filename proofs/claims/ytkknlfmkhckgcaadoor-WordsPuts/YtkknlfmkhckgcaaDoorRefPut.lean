/- The document's Put, PutLong and PutYes: the bytes of a number, in memory of their own; nothing that was there turns. -/
import Derived.Test.YtkknlfmkhckgcaaDoorRows
import Derived.Test.YtkknlfmkhckgcaaDoorBytes
import Derived.WalkKit
import Derived.ArgAppend
namespace Go.Proofs.YtkknlfmkhckgcaaDoor
set_option linter.unusedVariables false
open Go.RowKit

theorem infoU8r : (Tryd.prog.info? 5).map (fun i => (i.zero, i.size, i.bytes)) = some (some (.int .u8 0), 1, 1) := by kernel_rfl

theorem bytes4 (n : Int) : bytesOf n 4 = [n / 16777216 % 256, n / 65536 % 256, n / 256 % 256, n % 256] := by
  simp [bytesOf, byteAt, List.range_succ]

set_option maxHeartbeats 400000 in
theorem refPut_any (n : Int) (h0 : 0 ≤ n) (h1 : n ≤ 4294967295) (w : World) :
    Calls Tryd.prog 8 #[.int .u32 n] w fun e W' => e = .returned (.slice (some ⟨w.heap.size, 0, none⟩) 4 4) ∧ W' = w.alloc (.cells ((bytesOf n 4).map (Value.int .u8)).toArray 5) := by
  have e1 : n / 16777216 % 256 = n / 16777216 := by omega
  rw [bytes4]
  go_enter Tryd.func8, Tryd.ntmps8
  go_wp2
  go_ret
  refine ⟨rfl, ?_⟩
  simp [e1]

theorem refPut_seg (n : Int) (h0 : 0 ≤ n) (h1 : n ≤ 4294967295) (w : World) :
    Calls Tryd.prog 8 #[.int .u32 n] w fun e W' => ∃ g, e = .returned (.slice (some ⟨g, 0, none⟩) 4 4) ∧ Seg W' (some ⟨g, 0, none⟩) (bytesOf n 4) ∧ Below w.heap.size w W' := by
  refine (refPut_any n h0 h1 w).mono ?_
  rintro e W' ⟨rfl, rfl⟩
  exact ⟨_, rfl, seg_lit _ _ _, (Below.refl _ _).alloc (Nat.le_refl _) _⟩

theorem halves (n : Int) : bytesOf n 8 = bytesOf (n / 4294967296 % 4294967296) 4 ++ bytesOf (n % 4294967296) 4 := by
  have h1 := bytesOf_add n 4 4
  have h2 := bytesOf_mod (n / 4294967296) 4
  have h3 := bytesOf_mod n 4
  rw [show (256 : Int) ^ 4 = 4294967296 from by decide] at h1 h2 h3
  rw [h2, h3, ← h1]

set_option maxHeartbeats 400000 in
theorem refPutLong_any (n : Int) (h0 : 0 ≤ n) (h1 : n ≤ 18446744073709551615) (w : World) :
    Calls Tryd.prog 9 #[.int .u64 n] w fun e W' => ∃ g cap, e = .returned (.slice (some ⟨g, 0, none⟩) 8 cap) ∧ Seg W' (some ⟨g, 0, none⟩) (bytesOf n 8) ∧ Below w.heap.size w W' := by
  obtain ⟨i0, hi, hz0, hz1, hz2⟩ := info_parts infoU8r
  have e1 : n / 4294967296 % 4294967296 = n / 4294967296 := by omega
  have e2 : n % 4294967296 % 4294967296 = n % 4294967296 := by omega
  go_enter Tryd.func9, Tryd.ntmps9
  have hhv := halves n
  rw [e1] at hhv
  have HH : Hid (bytesOf n 8 = bytesOf (n / 4294967296) 4 ++ bytesOf (n % 4294967296) 4) := hhv
  clear hhv
  go_wp2_with fail
  refine (refPut_seg (n / 4294967296) (by omega) (by omega) _).mono ?_
  rintro e w1 ⟨g1, rfl, s1, b1⟩
  go_wp2_with fail
  refine (refPut_seg (n % 4294967296) (by omega) (by omega) _).mono ?_
  rintro e w2 ⟨g2, rfl, s2, b2⟩
  have s12 := s1.below b2
  have B2 := b1.trans (b2.mono b1.size)
  clear s1 b1 b2
  go_wp2_with (at_builtin; refine wpList_append_grows _ rfl _ _ 24 rfl 5 i0 (.int .u8 0) 1 1 Tryd.underlying24 hi hz0 hz1 hz2 rfl (by decide) (some ⟨g1, 0, none⟩) 4 4 ((bytesOf (n / 4294967296) 4).map (Value.int .u8)) rfl (by simp) (by simp [bytesOf_length]) (fun b hb j u hj => by cases hb; exact seg_news s12 j u hj) ⟨g2, 0, none⟩ 4 4 ((bytesOf (n % 4294967296) 4).map (Value.int .u8)) rfl (by simp [bytesOf_length]) (seg_news s2) (news_one _) (by omega) (by unfold maxLen; omega) (by omega) ?_; intro v' w3 hown3 hgrow3)
  obtain ⟨g3, cap3, rfl, _, _, _⟩ := own_shape hown3 (by omega)
  rw [← List.map_append, ← HH.out] at hown3
  have s3 := seg_own hown3 (bytesOf_length n 8)
  have B3 : Below w.heap.size w w3 := B2.grown hgrow3 B2.size (by simp)
  clear hown3 hgrow3
  go_wp2
  go_ret
  exact ⟨g3, cap3, rfl, s3, B3⟩

set_option maxHeartbeats 400000 in
theorem refPutYes_any (y : Bool) (w : World) :
    Calls Tryd.prog 10 #[.bool y] w fun e W' => ∃ g, e = .returned (.slice (some ⟨g, 0, none⟩) 4 4) ∧ Seg W' (some ⟨g, 0, none⟩) (bytesOf (if y then 1 else 0) 4) ∧ Below w.heap.size w W' := by
  cases y
  · go_enter Tryd.func10, Tryd.ntmps10
    go_wp2_with fail
    refine (refPut_seg 0 (by omega) (by omega) _).mono ?_
    rintro e w1 ⟨g1, rfl, s1, b1⟩
    go_wp2
    go_ret
    exact ⟨g1, rfl, s1, b1⟩
  · go_enter Tryd.func10, Tryd.ntmps10
    go_wp2_with fail
    refine (refPut_seg 1 (by omega) (by omega) _).mono ?_
    rintro e w1 ⟨g1, rfl, s1, b1⟩
    go_wp2
    go_ret
    exact ⟨g1, rfl, s1, b1⟩
end Go.Proofs.YtkknlfmkhckgcaaDoor
