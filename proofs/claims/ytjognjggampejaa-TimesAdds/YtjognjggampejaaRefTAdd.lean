/- 'Add' of the document: a point of time, so many nanoseconds later; nothing that was there turns. -/
import Derived.Test.YtjognjggampejaaRefTChk
import Derived.Test.YtjognjggampejaaStoreWhole
namespace Go.Proofs.Ytjognjggampejaa
set_option linter.unusedVariables false
open Go.RowKit

theorem reftime_info : (Try.prog.info? 24).map (·.size) = some 2 := by kernel_rfl

set_option maxRecDepth 100000 in
set_option maxHeartbeats 1000000 in
theorem reftadd_any (s n k : Int) (w : World) (s0 : 0 ≤ s) (s1 : s ≤ 4294967295) (n0 : 0 ≤ n) (n1 : n ≤ 4294967295) (k0 : 0 ≤ k) (k1 : k ≤ 18446744073709551615) :
    Calls Try.prog 13 #[.agg #[.int .u32 s, .int .u32 n], .int .u64 k] w fun e w' => e = .returned (.tuple #[.agg #[.int .u32 (tS s n k), .int .u32 (tN s n k)], .int .i64 (tE s n k)]) ∧ Below w.heap.size w w' := by
  have a0 := Tp.new w s n
  have hB0 : Below w.heap.size w (w.alloc (.cells #[.int .u32 s, .int .u32 n] 24)) := (Below.refl _ _).alloc (Nat.le_refl _) _
  have a1 := a0.alloc (.cells #[.int .u32 0, .int .u32 0] 24)
  have r1 := Tp.new (w.alloc (.cells #[.int .u32 s, .int .u32 n] 24)) 0 0
  rw [show (w.alloc (.cells #[.int .u32 s, .int .u32 n] 24)).heap.size = w.heap.size + 1 by simp] at r1
  have hB1 := hB0.alloc hB0.size (.cells #[.int .u32 0, .int .u32 0] 24)
  have hck := fun w => reftcheck_any s n w
  have hc := ad_cases s n k
  generalize tE s n k = E at *
  generalize tS s n k = S at *
  generalize tN s n k = N at *
  clear a0 hB0
  go_enter Try.func13, Try.ntmps13
  go_wp2_with fail
  generalize ((w.alloc (.cells #[.int .u32 s, .int .u32 n] 24)).alloc (.cells #[.int .u32 0, .int .u32 0] 24)) = W1 at *
  refine (hck W1).mono ?_
  rintro e W2 ⟨rfl, hb2⟩
  have hB2 := hB1.trans (hb2.mono hB1.size)
  have a2 := a1.next hb2
  have r2 := r1.next hb2
  clear hck a1 r1 hB1 hb2
  cases htk : tok n with
  | false =>
    obtain ⟨rfl, rfl, rfl⟩ : E = 1 ∧ S = 0 ∧ N = 0 := by
      have : ¬ n < 1000000000 := by simpa [tok] using htk
      rcases hc with ⟨h1, h2, h3, _⟩ | ⟨_, _, _, h4, _⟩ | ⟨_, _, _, h4, _⟩
      · exact ⟨h1, h2, h3⟩
      · exact absurd h4 this
      · exact absurd h4 this
    clear hc htk a2
    go_wp2_with (refine wpList_store_whole rfl _ _ _ rfl (w.heap.size + 1) _ rfl rfl 24 _ r2 reftime_info rfl (by simp [Value.oneCell']) ?_; intro W3 hr3 hg3 hs3)
    exact bodyPost_ret (results_row_tmp (p := 4) (u := 5) (ty := 24) rfl _ _ (w.heap.size + 1) 24 _ (0, 0) _ (by rfl) hr3 Try.underlying24 rfl (by kernel_rfl)) rfl ⟨rfl, hB2.grown hg3 hB2.size (fun k e => by cases e; omega)⟩
  | true =>
    have hn : n < 1000000000 := by simpa [tok] using htk
    have c0 := a2.c0
    have c1 := a2.c1
    have hcv : IntKind.u64.wrap s = s := by rw [IntKind.wrap_u64]; omega
    have hcn : IntKind.u64.wrap n = n := by rw [IntKind.wrap_u64]; omega
    clear htk
    have tail : ∀ (x y : Int) (h0 : 0 ≤ x) (h1 : x ≤ 18446744073709551615) (h2 : 0 ≤ y) (h3 : y < 1000000000), x = s + (n + k) / 1000000000 → y = (n + k) % 1000000000 →
        ((4294967295 < x ∧ E = 3 ∧ S = 0 ∧ N = 0) ∨ (x ≤ 4294967295 ∧ E = 0 ∧ S = x ∧ N = y ∧ IntKind.u32.wrap x = x ∧ IntKind.u32.wrap y = y)) := by
      intro x y h0 h1 h2 h3 hx hy
      rw [IntKind.wrap_u32', IntKind.wrap_u32']
      rcases hc with ⟨_, _, _, h⟩ | ⟨_, _, _, _, h⟩ | ⟨_, _, _, _, h⟩ <;> omega
    have hd0 : 0 ≤ k / 1000000000 := by omega
    have hd1 : k / 1000000000 ≤ 18446744073 := by omega
    have hr0 : 0 ≤ k % 1000000000 := by omega
    have hr1 : k % 1000000000 < 1000000000 := by omega
    have hsum := span_sum s0 s1 n0 hn k0 k1
    by_cases hge : 1000000000 ≤ n + k % 1000000000
    · have tl := tail (s + k / 1000000000 + 1) (n + k % 1000000000 - 1000000000) (by omega) (by omega) (by omega) (by omega) (by omega) (by omega)
      clear tail hc hsum
      rcases tl with ⟨h, rfl, rfl, rfl⟩ | ⟨h, rfl, rfl, rfl, hx, hy⟩
      · go_wp2_with (refine wpList_store_whole rfl _ _ _ rfl (w.heap.size + 1) _ rfl rfl 24 _ r2 reftime_info rfl (by simp [Value.oneCell']) ?_; intro W8 hr8 hg8 hs8)
        exact bodyPost_ret (results_row_tmp (p := 4) (u := 5) (ty := 24) rfl _ _ (w.heap.size + 1) 24 _ (0, 0) _ (by rfl) hr8 Try.underlying24 rfl (by kernel_rfl)) rfl ⟨rfl, hB2.grown hg8 hB2.size (fun k e => by cases e; omega)⟩
      · go_wp2_with (refine wpList_store_whole rfl _ _ _ rfl (w.heap.size + 1) _ rfl rfl 24 _ r2 reftime_info rfl (by simp [Value.oneCell']) ?_; intro W8 hr8 hg8 hs8)
        exact bodyPost_ret (results_row_tmp (p := 4) (u := 5) (ty := 24) rfl _ _ (w.heap.size + 1) 24 _ (0, 0) _ (by rfl) hr8 Try.underlying24 rfl (by kernel_rfl)) rfl ⟨rfl, hB2.grown hg8 hB2.size (fun k e => by cases e; omega)⟩
    · have tl := tail (s + k / 1000000000) (n + k % 1000000000) (by omega) (by omega) (by omega) (by omega) (by omega) (by omega)
      clear tail hc hsum
      rcases tl with ⟨h, rfl, rfl, rfl⟩ | ⟨h, rfl, rfl, rfl, hx, hy⟩
      · go_wp2_with (refine wpList_store_whole rfl _ _ _ rfl (w.heap.size + 1) _ rfl rfl 24 _ r2 reftime_info rfl (by simp [Value.oneCell']) ?_; intro W8 hr8 hg8 hs8)
        exact bodyPost_ret (results_row_tmp (p := 4) (u := 5) (ty := 24) rfl _ _ (w.heap.size + 1) 24 _ (0, 0) _ (by rfl) hr8 Try.underlying24 rfl (by kernel_rfl)) rfl ⟨rfl, hB2.grown hg8 hB2.size (fun k e => by cases e; omega)⟩
      · go_wp2_with (refine wpList_store_whole rfl _ _ _ rfl (w.heap.size + 1) _ rfl rfl 24 _ r2 reftime_info rfl (by simp [Value.oneCell']) ?_; intro W8 hr8 hg8 hs8)
        exact bodyPost_ret (results_row_tmp (p := 4) (u := 5) (ty := 24) rfl _ _ (w.heap.size + 1) 24 _ (0, 0) _ (by rfl) hr8 Try.underlying24 rfl (by kernel_rfl)) rfl ⟨rfl, hB2.grown hg8 hB2.size (fun k e => by cases e; omega)⟩
end Go.Proofs.Ytjognjggampejaa
