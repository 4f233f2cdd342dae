/- 'Add' of the program: a point of time, so many nanoseconds later; nothing that was there turns. -/
import Derived.Test.YtjognjggampejabTimeSpan
namespace Go.Proofs.Ytjognjggampejab
set_option linter.unusedVariables false
open Go.RowKit

theorem time_info : (Try.prog.info? 24).map (·.size) = some 2 := by kernel_rfl

set_option maxRecDepth 100000 in
set_option maxHeartbeats 1000000 in
theorem tadd_any (s n k : Int) (w : World) (s0 : 0 ≤ s) (s1 : s ≤ 4294967295) (n0 : 0 ≤ n) (n1 : n ≤ 4294967295) (k0 : 0 ≤ k) (k1 : k ≤ 18446744073709551615) :
    Calls Try.prog 6 #[.agg #[.int .u32 s, .int .u32 n], .int .u64 k] w fun e w' => e = .returned (.tuple #[.agg #[.int .u32 (tS s n k), .int .u32 (tN s n k)], .int .i64 (tE s n k)]) ∧ Below w.heap.size w w' := by
  have a0 := Tp.new w s n
  have hB0 : Below w.heap.size w (w.alloc (.cells #[.int .u32 s, .int .u32 n] 24)) := (Below.refl _ _).alloc (Nat.le_refl _) _
  have a1 := a0.alloc (.cells #[.int .u32 0, .int .u32 0] 24)
  have r1 := Tp.new (w.alloc (.cells #[.int .u32 s, .int .u32 n] 24)) 0 0
  rw [show (w.alloc (.cells #[.int .u32 s, .int .u32 n] 24)).heap.size = w.heap.size + 1 by simp] at r1
  have hB1 := hB0.alloc hB0.size (.cells #[.int .u32 0, .int .u32 0] 24)
  have hck := fun w => tcheck_any s n w
  have hc := ad_cases s n k
  generalize tE s n k = E at *
  generalize tS s n k = S at *
  generalize tN s n k = N at *
  clear a0 hB0
  go_enter Try.func6, Try.ntmps6
  go_wp2_with fail
  generalize ((w.alloc (.cells #[.int .u32 s, .int .u32 n] 24)).alloc (.cells #[.int .u32 0, .int .u32 0] 24)) = W1 at *
  refine (hck W1).mono ?_
  rintro e W2 ⟨rfl, hb2⟩
  have hB2 := hB1.trans (hb2.mono hB1.size)
  have a2 := a1.next hb2
  have r2 := r1.next hb2
  clear hck a1 r1 hB1 hb2
  cases htk : tok n with
  | false =>
    obtain ⟨rfl, rfl, rfl⟩ : E = 1 ∧ S = 0 ∧ N = 0 := by
      have : ¬ n < 1000000000 := by simpa [tok] using htk
      rcases hc with ⟨h1, h2, h3, _⟩ | ⟨_, _, _, h4, _⟩ | ⟨_, _, _, h4, _⟩
      · exact ⟨h1, h2, h3⟩
      · exact absurd h4 this
      · exact absurd h4 this
    clear hc htk a2
    go_wp2_with (refine wpList_store_whole rfl _ _ _ rfl (w.heap.size + 1) _ rfl rfl 24 _ r2 time_info rfl (by simp [Value.oneCell']) ?_; intro W3 hr3 hg3 hs3)
    exact bodyPost_ret (results_row_tmp (p := 4) (u := 5) (ty := 24) rfl _ _ (w.heap.size + 1) 24 _ (0, 0) _ (by rfl) hr3 Try.underlying24 rfl (by kernel_rfl)) rfl ⟨rfl, hB2.grown hg3 hB2.size (fun k e => by cases e; omega)⟩
  | true =>
    have hn : n < 1000000000 := by simpa [tok] using htk
    have c0 := a2.c0
    have c1 := a2.c1
    go_wp2_with fail
    refine (since_any s n W2 s0 s1 n0 n1).mono ?_
    rintro e W3 ⟨rfl, hb3⟩
    have hB3 := hB2.trans (hb3.mono hB2.size)
    have r3 := r2.next hb3
    clear c0 c1 a2 r2 hB2 hb3 htk
    go_wp2_with fail
    refine (lasting_any k W3 k0 k1).mono ?_
    rintro e W4 ⟨rfl, hb4⟩
    have hB4 := hB3.trans (hb4.mono hB3.size)
    have r4 := r3.next hb4
    clear hB3 r3 hb4
    go_wp2_with fail
    have hB5 := hB4.alloc hB4.size (.cells #[.int .u64 s, .int .u64 n, .int .u64 (k / 1000000000), .int .u64 (k % 1000000000)] 37)
    have r5 := r4.alloc (.cells #[.int .u64 s, .int .u64 n, .int .u64 (k / 1000000000), .int .u64 (k % 1000000000)] 37)
    have hg5 := World.alloc_heap_new W4 (.cells #[.int .u64 s, .int .u64 n, .int .u64 (k / 1000000000), .int .u64 (k % 1000000000)] 37)
    clear hB4 r4
    generalize (W4.alloc (.cells #[.int .u64 s, .int .u64 n, .int .u64 (k / 1000000000), .int .u64 (k % 1000000000)] 37)) = W5 at *
    refine (together_two W4.heap.size s n (k / 1000000000) (k % 1000000000) W5 s0 s1 n0 hn (by omega) (by omega) (by omega) (by omega) hg5).mono ?_
    rintro e W6 ⟨rfl, hb6⟩
    have hB6 := hB5.trans (hb6.mono hB5.size)
    have r6 := r5.next hb6
    obtain ⟨z1, z2⟩ := span_sum s0 s1 n0 hn k0 k1
    rw [z1, z2]
    clear z1 z2 hB5 r5 hb6 hg5
    have hS0 : 0 ≤ s + (n + k) / 1000000000 := by omega
    have hS1 : s + (n + k) / 1000000000 ≤ 18446744073709551615 := by omega
    have hN0 : 0 ≤ (n + k) % 1000000000 := by omega
    have hN1 : (n + k) % 1000000000 ≤ 4294967295 := by omega
    generalize s + (n + k) / 1000000000 = x at *
    generalize (n + k) % 1000000000 = y at *
    rcases hc with ⟨_, _, _, h⟩ | ⟨rfl, rfl, rfl, _, h⟩ | ⟨rfl, rfl, rfl, _, h⟩
    · omega
    · have hB7 := hB6.alloc hB6.size (.cells #[.int .u64 x, .int .u64 y] 37)
      have r7 := r6.alloc (.cells #[.int .u64 x, .int .u64 y] 37)
      clear hB6 r6
      go_wp2_with (refine wpList_store_whole rfl _ _ _ rfl (w.heap.size + 1) _ rfl rfl 24 _ r7 time_info rfl (by simp [Value.oneCell']) ?_; intro W8 hr8 hg8 hs8)
      exact bodyPost_ret (results_row_tmp (p := 4) (u := 5) (ty := 24) rfl _ _ (w.heap.size + 1) 24 _ (0, 0) _ (by rfl) hr8 Try.underlying24 rfl (by kernel_rfl)) rfl ⟨rfl, hB7.grown hg8 hB7.size (fun k e => by cases e; omega)⟩
    · have hB7 := hB6.alloc hB6.size (.cells #[.int .u64 S, .int .u64 N] 37)
      have r7 := r6.alloc (.cells #[.int .u64 S, .int .u64 N] 37)
      have hx : IntKind.u32.wrap S = S := by rw [IntKind.wrap_u32']; omega
      have hy : IntKind.u32.wrap N = N := by rw [IntKind.wrap_u32']; omega
      clear hB6 r6
      go_wp2_with (refine wpList_store_whole rfl _ _ _ rfl (w.heap.size + 1) _ rfl rfl 24 _ r7 time_info rfl (by simp [Value.oneCell']) ?_; intro W8 hr8 hg8 hs8)
      exact bodyPost_ret (results_row_tmp (p := 4) (u := 5) (ty := 24) rfl _ _ (w.heap.size + 1) 24 _ (0, 0) _ (by rfl) hr8 Try.underlying24 rfl (by kernel_rfl)) rfl ⟨rfl, hB7.grown hg8 hB7.size (fun k e => by cases e; omega)⟩
end Go.Proofs.Ytjognjggampejab
