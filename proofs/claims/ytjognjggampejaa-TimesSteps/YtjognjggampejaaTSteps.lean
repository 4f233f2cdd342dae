/- The walk of 'TimesSteps': true for any point of time, any two numbers; nothing that was there turns. -/
import Derived.Test.YtjognjggampejaaTAlive
namespace Go.Proofs.Ytjognjggampejaa
set_option linter.unusedVariables false
open Go.RowKit

set_option maxRecDepth 100000 in
set_option maxHeartbeats 2000000 in
theorem tsteps_walk (s n k m : Int) (w : World) (s0 : 0 ≤ s) (s1 : s ≤ 4294967295) (n0 : 0 ≤ n) (n1 : n ≤ 4294967295) (k0 : 0 ≤ k) (k1 : k ≤ 18446744073709551615) (m0 : 0 ≤ m) (m1 : m ≤ 18446744073709551615) :
    Calls Try.prog 7 #[.agg #[.int .u32 s, .int .u32 n], .int .u64 k, .int .u64 m] w fun e w' => e = .returned (.bool true) ∧ Below w.heap.size w w' := by
  have a1 := Tp.new w s n
  have hB1 : Below w.heap.size w (w.alloc (.cells #[.int .u32 s, .int .u32 n] 24)) := (Below.refl _ _).alloc (Nat.le_refl _) _
  by_cases hk : 9223372036854775808 < k
  · go_enter Try.func7, Try.ntmps7
    go_wp2_with fail
    refine (alive_any _).mono ?_
    rintro e W2 ⟨rfl, hb2⟩
    have hB2 := hB1.trans (hb2.mono hB1.size)
    clear hB1 hb2 a1
    go_wp2
    go_ret
    exact ⟨rfl, hB2⟩
  by_cases hm : 4611686018427387904 < m
  · go_enter Try.func7, Try.ntmps7
    go_wp2_with fail
    refine (alive_any _).mono ?_
    rintro e W2 ⟨rfl, hb2⟩
    have hB2 := hB1.trans (hb2.mono hB1.size)
    clear hB1 hb2 a1
    go_wp2
    go_ret
    exact ⟨rfl, hB2⟩
  have h1 := fun w => tadd_any s n k w s0 s1 n0 n1 k0 (by omega)
  have h2 := fun w => tadd_any s n (k + m) w s0 s1 n0 n1 (by omega) (by omega)
  have hlt := ad_lt (s := s) (n := n) (k := k) s0 n0 k0
  have h3 := fun w => tadd_any (tS s n k) (tN s n k) m w (by omega) (by omega) (by omega) (by omega) m0 (by omega)
  have hst := ad_step (s := s) (n := n) (k := k) (m := m) n0 k0 m0
  have hc : ((tE s n k = 1 ∨ tE s n k = 3) ∧ tS s n k = 0 ∧ tN s n k = 0) ∨ tE s n k = 0 := by
    rcases ad_cases s n k with ⟨h, h', h'', _⟩ | ⟨h, h', h'', _⟩ | ⟨h, _⟩
    · exact .inl ⟨.inl h, h', h''⟩
    · exact .inl ⟨.inr h, h', h''⟩
    · exact .inr h
  clear hlt
  generalize tE (tS s n k) (tN s n k) m = E3 at *
  generalize tS (tS s n k) (tN s n k) m = S3 at *
  generalize tN (tS s n k) (tN s n k) m = N3 at *
  generalize tE s n k = E at *
  generalize tS s n k = S at *
  generalize tN s n k = N at *
  generalize tE s n (k + m) = E2 at *
  generalize tS s n (k + m) = S2 at *
  generalize tN s n (k + m) = N2 at *
  rcases hc with ⟨hE, rfl, rfl⟩ | rfl
  · have hEn : E ≠ 0 := by omega
    obtain rfl := hst.1 hEn
    clear hst h3 hEn
    have heq : ∀ w, (binOp .eql 24 (.agg #[.int .u32 0, .int .u32 0]) (.agg #[.int .u32 0, .int .u32 0])).run Try.prog w = .ok (.bool true) w := fun w => by rw [time_eql]; rfl
    rcases hE with rfl | rfl
    all_goals
      go_enter Try.func7, Try.ntmps7
      go_wp2_with fail
      generalize (w.alloc (.cells #[.int .u32 s, .int .u32 n] 24)) = W1 at *
      refine (h1 W1).mono ?_
      rintro e W2 ⟨rfl, hb2⟩
      have hB2 := hB1.trans (hb2.mono hB1.size)
      have a2 := a1.next hb2
      have a3 := a2.alloc (.cells #[.int .u32 0, .int .u32 0] 24)
      have t3 := Tp.new W2 0 0
      have hB3 := hB2.alloc hB2.size (.cells #[.int .u32 0, .int .u32 0] 24)
      have c0 := a3.c0
      have c1 := a3.c1
      clear h1 a1 hB1 hb2 a2 hB2
      go_wp2_with fail
      generalize (W2.alloc (.cells #[.int .u32 0, .int .u32 0] 24)) = W3 at *
      generalize W2.heap.size = h at *
      refine (h2 W3).mono ?_
      rintro e W4 ⟨rfl, hb4⟩
      have hB4 := hB3.trans (hb4.mono hB3.size)
      have t4 := t3.next hb4
      have t5 := t4.alloc (.cells #[.int .u32 S2, .int .u32 N2] 24)
      have hB5 := hB4.alloc hB4.size (.cells #[.int .u32 S2, .int .u32 N2] 24)
      clear h2 a3 c0 c1 hB3 hb4 t3 hB4 t4
      go_wp2_with fail
      generalize (W4.alloc (.cells #[.int .u32 S2, .int .u32 N2] 24)) = W5 at *
      refine (alive_any _).mono ?_
      rintro e W6 ⟨rfl, hb6⟩
      have hB6 := hB5.trans (hb6.mono hB5.size)
      have t6 := t5.next hb6
      have d0 := t6.c0
      have d1 := t6.c1
      clear hB5 hb6 t5 t6
      go_wp2
      go_ret
      exact ⟨rfl, hB6⟩
  · obtain ⟨rfl, rfl, rfl⟩ := hst.2 rfl
    clear hst
    have heq : ∀ w, (binOp .eql 24 (.agg #[.int .u32 S3, .int .u32 N3]) (.agg #[.int .u32 S3, .int .u32 N3])).run Try.prog w = .ok (.bool true) w := fun w => by rw [time_eql]; simp
    have hEE : (E3 == E3) = true := by simp
    go_enter Try.func7, Try.ntmps7
    go_wp2_with fail
    generalize (w.alloc (.cells #[.int .u32 s, .int .u32 n] 24)) = W1 at *
    refine (h1 W1).mono ?_
    rintro e W2 ⟨rfl, hb2⟩
    have hB2 := hB1.trans (hb2.mono hB1.size)
    have a2 := a1.next hb2
    have a3 := a2.alloc (.cells #[.int .u32 S, .int .u32 N] 24)
    have t3 := Tp.new W2 S N
    have hB3 := hB2.alloc hB2.size (.cells #[.int .u32 S, .int .u32 N] 24)
    have c0 := a3.c0
    have c1 := a3.c1
    clear h1 a1 hB1 hb2 a2 hB2
    go_wp2_with fail
    generalize (W2.alloc (.cells #[.int .u32 S, .int .u32 N] 24)) = W3 at *
    generalize W2.heap.size = h at *
    refine (h2 W3).mono ?_
    rintro e W4 ⟨rfl, hb4⟩
    have hB4 := hB3.trans (hb4.mono hB3.size)
    have t4 := t3.next hb4
    have t5 := t4.alloc (.cells #[.int .u32 S3, .int .u32 N3] 24)
    have u5 := Tp.new W4 S3 N3
    have hB5 := hB4.alloc hB4.size (.cells #[.int .u32 S3, .int .u32 N3] 24)
    have c0 := t5.c0
    have c1 := t5.c1
    clear h2 a3 hB3 hb4 t3 hB4 t4
    go_wp2_with fail
    generalize (W4.alloc (.cells #[.int .u32 S3, .int .u32 N3] 24)) = W5 at *
    generalize W4.heap.size = h' at *
    refine (h3 W5).mono ?_
    rintro e W6 ⟨rfl, hb6⟩
    have hB6 := hB5.trans (hb6.mono hB5.size)
    have u6 := u5.next hb6
    have u7 := u6.alloc (.cells #[.int .u32 S3, .int .u32 N3] 24)
    have v7 := Tp.new W6 S3 N3
    have hB7 := hB6.alloc hB6.size (.cells #[.int .u32 S3, .int .u32 N3] 24)
    clear h3 c0 c1 t5 u5 hB5 hb6 u6 hB6
    go_wp2_with fail
    generalize (W6.alloc (.cells #[.int .u32 S3, .int .u32 N3] 24)) = W7 at *
    generalize W6.heap.size = h'' at *
    refine (alive_any _).mono ?_
    rintro e W8 ⟨rfl, hb8⟩
    have hB8 := hB7.trans (hb8.mono hB7.size)
    have u8 := u7.next hb8
    have v8 := v7.next hb8
    have d0 := u8.c0
    have d1 := u8.c1
    have e0 := v8.c0
    have e1 := v8.c1
    clear hB7 hb8 u7 v7 u8 v8
    go_wp2
    go_ret
    exact ⟨rfl, hB8⟩
end Go.Proofs.Ytjognjggampejaa
