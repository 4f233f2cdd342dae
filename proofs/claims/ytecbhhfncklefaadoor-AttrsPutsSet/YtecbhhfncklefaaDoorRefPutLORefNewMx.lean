/- The document's 'PutLong', its bytes owned; nothing that was there turns. -/
import Derived.Test.YtecbhhfncklefaaDoorRefPut4RefTPutRefPutLMx
import Derived.Test.YtecbhhfncklefaaDoorRefByMx
namespace Go.Proofs.YtecbhhfncklefaaDoor
set_option linter.unusedVariables false
open Go.RowKit

set_option maxHeartbeats 1000000 in
theorem refPutLong_own (n : Int) (h0 : 0 ≤ n) (h1 : n ≤ 18446744073709551615) (w : World) :
    Calls Tryd.prog 29 #[.int .u64 n] w fun e W' => ∃ g cap, e = .returned (.slice (some ⟨g, 0, none⟩) 8 cap) ∧ W'.ownsRow w.heap.size 5 1 (.slice (some ⟨g, 0, none⟩) 8 cap) 8 ((bytesOf n 8).map (Value.int .u8)) ∧ Below w.heap.size w W' := by
  obtain ⟨i0, hi, hz0, hz1, hz2⟩ := info_parts infoU8r
  have e1 : n / 4294967296 % 4294967296 = n / 4294967296 := by omega
  have e2 : n % 4294967296 % 4294967296 = n % 4294967296 := by omega
  go_enter Tryd.func29, Tryd.ntmps29
  have hhv := halves n
  rw [e1] at hhv
  have HH : Hid (bytesOf n 8 = bytesOf (n / 4294967296) 4 ++ bytesOf (n % 4294967296) 4) := hhv
  clear hhv
  go_wp2_with fail
  refine (refPut_seg (n / 4294967296) (by omega) (by omega) _).mono ?_
  rintro e w1 ⟨g1, rfl, s1, b1⟩
  go_wp2_with fail
  refine (refPut_seg (n % 4294967296) (by omega) (by omega) _).mono ?_
  rintro e w2 ⟨g2, rfl, s2, b2⟩
  have s12 := s1.below b2
  have B2 := b1.trans (b2.mono b1.size)
  clear s1 b1 b2
  go_wp2_with (at_builtin; refine wpList_append_grows _ rfl _ _ 29 rfl 5 i0 (.int .u8 0) 1 1 Tryd.underlying29 hi hz0 hz1 hz2 rfl (by decide) (some ⟨g1, 0, none⟩) 4 4 ((bytesOf (n / 4294967296) 4).map (Value.int .u8)) rfl (by simp) (by simp [bytesOf_length]) (fun b hb j u hj => by cases hb; exact seg_news s12 j u hj) ⟨g2, 0, none⟩ 4 4 ((bytesOf (n % 4294967296) 4).map (Value.int .u8)) rfl (by simp [bytesOf_length]) (seg_news s2) (news_one _) (by omega) (by unfold maxLen; omega) (by omega) ?_; intro v' w3 hown3 hgrow3)
  obtain ⟨g3, cap3, rfl, _, _, _⟩ := own_shape hown3 (by omega)
  rw [← List.map_append, ← HH.out] at hown3
  have hown4 := own_base hown3 B2.size
  have B3 : Below w.heap.size w w3 := B2.grown hgrow3 B2.size (by simp)
  clear hown3 hgrow3
  go_wp2
  go_ret
  exact ⟨g3, cap3, rfl, hown4, B3⟩
end Go.Proofs.YtecbhhfncklefaaDoor

/- The document's 'Put' and 'PutLong', of points of time and of what is told of a node too: what they answer lies in memory made since; nothing that was there turns. -/
namespace Go.Proofs.YtecbhhfncklefaaDoor
set_option linter.unusedVariables false
open Go.RowKit

theorem new_put (n : Int) (W : World) (h0 : 0 ≤ n) (h1 : n ≤ 4294967295) : Calls Tryd.prog 28 #[.int .u32 n] W fun e W' => ∃ g c, e = .returned (.slice (some ⟨g, 0, none⟩) 4 c) ∧ Seg W' (some ⟨g, 0, none⟩) (bytesOf n 4) ∧ W.heap.size ≤ g ∧ Below W.heap.size W W' :=
  (reft_own n h0 h1 W).mono fun e W' ⟨he, ho, hb⟩ => ⟨_, _, he, seg_own ho (bytesOf_length n 4), Nat.le_refl _, hb⟩
theorem new_long (n : Int) (W : World) (h0 : 0 ≤ n) (h1 : n ≤ 18446744073709551615) : Calls Tryd.prog 29 #[.int .u64 n] W fun e W' => ∃ g c, e = .returned (.slice (some ⟨g, 0, none⟩) 8 c) ∧ Seg W' (some ⟨g, 0, none⟩) (bytesOf n 8) ∧ W.heap.size ≤ g ∧ Below W.heap.size W W' :=
  (refPutLong_own n h0 h1 W).mono fun e W' ⟨g, c, he, ho, hb⟩ => ⟨g, c, he, seg_own ho (bytesOf_length n 8), (own_lt ho rfl).1, hb⟩
end Go.Proofs.YtecbhhfncklefaaDoor
