/- The walk of 'TimesWhole': true for any point of time, any seconds, any nanoseconds; nothing that was there turns. -/
import Derived.Test.YtjognjggampejabTAlive
namespace Go.Proofs.Ytjognjggampejab
set_option linter.unusedVariables false
open Go.RowKit

theorem whole_says (s n p k : Int) (s0 : 0 ≤ s) (s1 : s ≤ 4294967295) (n0 : 0 ≤ n) (p0 : 0 ≤ p) (k0 : 0 ≤ k) (k1 : k < 1000000000) :
    (tok n = false ∧ tE s n (p * 1000000000) = 1 ∧ tE s n k = 1) ∨
    (tok n = true ∧ ((4294967295 < s + p ∧ tE s n (p * 1000000000) = 3) ∨
      (s + p ≤ 4294967295 ∧ (tE s n (p * 1000000000) = 0 ∧ s + p = tS s n (p * 1000000000) ∧ n = tN s n (p * 1000000000)) ∧
        ((tE s n k = 0 ∧ s = tS s n k ∧ n + k = tN s n k) ∨ (tE s n k = 0 ∧ s + 1 ≤ 4294967295 ∧ s + 1 = tS s n k ∧ n + k - 1000000000 = tN s n k ∧ 1000000000 ≤ n + k) ∨ (tE s n k = 3 ∧ s = 4294967295))))) := by
  cases h1 : tok n with
  | false => exact .inl ⟨rfl, (ad_not h1).1, (ad_not h1).1⟩
  | true =>
    refine .inr ⟨rfl, ?_⟩
    have h2 := ad_whole (s := s) (k := p) n0 h1
    by_cases h : 4294967295 < s + p
    · exact .inl ⟨h, h2.1 h⟩
    · refine .inr ⟨by omega, ⟨(h2.2 (by omega)).1, (h2.2 (by omega)).2.1.symm, (h2.2 (by omega)).2.2.symm⟩, ?_⟩
      have h4 := ad_lt s0 n0 k0
      rcases ad_part (s := s) s1 n0 k0 k1 h1 with ⟨h3, ⟨h5, h6⟩ | ⟨h5, h6⟩⟩ | ⟨h3, h5⟩
      · exact .inl ⟨h3, h5.symm, h6.symm⟩
      · exact .inr (.inl ⟨h3, by omega, h5.symm, by omega, by omega⟩)
      · exact .inr (.inr ⟨h3, h5⟩)

set_option maxRecDepth 100000 in
set_option maxHeartbeats 4000000 in
theorem twhole_walk (s n p m : Int) (w : World) (s0 : 0 ≤ s) (s1 : s ≤ 4294967295) (n0 : 0 ≤ n) (n1 : n ≤ 4294967295) (p0 : 0 ≤ p) (p1 : p ≤ 4294967295) (m0 : 0 ≤ m) (m1 : m ≤ 4294967295) :
    Calls Try.prog 4 #[.agg #[.int .u32 s, .int .u32 n], .int .u32 p, .int .u32 m] w fun e w' => e = .returned (.bool true) ∧ Below w.heap.size w w' := by
  have a1 := Tp.new w s n
  have hB1 : Below w.heap.size w (w.alloc (.cells #[.int .u32 s, .int .u32 n] 24)) := (Below.refl _ _).alloc (Nat.le_refl _) _
  obtain ⟨k, hk, k0, k1⟩ : ∃ k, m % 1000000000 = k ∧ 0 ≤ k ∧ k < 1000000000 := ⟨_, rfl, by omega, by omega⟩
  have kw : IntKind.u64.wrap k = k := by rw [IntKind.wrap_u64]; omega
  have pw : IntKind.u64.wrap p = p := by rw [IntKind.wrap_u64]; omega
  have sw : IntKind.u64.wrap s = s := by rw [IntKind.wrap_u64]; omega
  have nw : IntKind.u64.wrap n = n := by rw [IntKind.wrap_u64]; omega
  have d1 := fun w => tadd_any s n (p * 1000000000) w s0 s1 n0 n1 (by omega) (by omega)
  have d2 := fun w => tadd_any s n k w s0 s1 n0 n1 k0 (by omega)
  have c1 := fun w => tcheck_any s n w
  have hc := whole_says s n p k s0 s1 n0 p0 k0 k1
  have lT := (ad_lt (s := s) (n := n) (k := k) s0 n0 k0)
  generalize tE s n (p * 1000000000) = E at *
  generalize tS s n (p * 1000000000) = S at *
  generalize tN s n (p * 1000000000) = N at *
  generalize tE s n k = F at *
  generalize tS s n k = T at *
  generalize tN s n k = O at *
  generalize tok n = y at *
  rcases hc with ⟨rfl, rfl, rfl⟩ | ⟨rfl, ⟨hs, rfl⟩ | ⟨hs, ⟨rfl, rfl, rfl⟩, ⟨rfl, rfl, rfl⟩ | ⟨rfl, h1, rfl, rfl, h2⟩ | ⟨rfl, rfl⟩⟩⟩
  · go_enter Try.func4, Try.ntmps4
    go_wp2_with fail
    generalize (w.alloc (.cells #[.int .u32 s, .int .u32 n] 24)) = W1 at *
    refine (d1 W1).mono ?_
    rintro e W2 ⟨rfl, hb2⟩
    have hB2 := hB1.trans (hb2.mono hB1.size)
    have a2 := a1.next hb2
    clear hB1 hb2 a1
    have a3 := a2.alloc (.cells #[.int .u32 (S), .int .u32 (N)] 24)
    have x3 := Tp.new W2 (S) (N)
    have hB3 := hB2.alloc hB2.size (.cells #[.int .u32 (S), .int .u32 (N)] 24)
    clear hB2 a2
    have A0 := a3.c0
    have A1 := a3.c1
    have X0 := x3.c0
    have X1 := x3.c1
    go_wp2_with fail
    generalize (W2.alloc (.cells #[.int .u32 (S), .int .u32 (N)] 24)) = W3 at *
    generalize W2.heap.size = h at *
    refine (d2 W3).mono ?_
    rintro e W4 ⟨rfl, hb4⟩
    have hB4 := hB3.trans (hb4.mono hB3.size)
    have a4 := a3.next hb4
    have x4 := x3.next hb4
    clear hB3 hb4 a3 x3 A0 A1 X0 X1
    have a5 := a4.alloc (.cells #[.int .u32 (T), .int .u32 (O)] 24)
    have x5 := x4.alloc (.cells #[.int .u32 (T), .int .u32 (O)] 24)
    have z5 := Tp.new W4 (T) (O)
    have hB5 := hB4.alloc hB4.size (.cells #[.int .u32 (T), .int .u32 (O)] 24)
    clear hB4 a4 x4
    have A0 := a5.c0
    have A1 := a5.c1
    have X0 := x5.c0
    have X1 := x5.c1
    have Z0 := z5.c0
    have Z1 := z5.c1
    go_wp2_with fail
    generalize (W4.alloc (.cells #[.int .u32 (T), .int .u32 (O)] 24)) = W5 at *
    generalize W4.heap.size = h' at *
    refine (c1 W5).mono ?_
    rintro e W6 ⟨rfl, hb6⟩
    have hB6 := hB5.trans (hb6.mono hB5.size)
    have a6 := a5.next hb6
    have x6 := x5.next hb6
    have z6 := z5.next hb6
    clear hB5 hb6 a5 x5 z5 A0 A1 X0 X1 Z0 Z1
    have A0 := a6.c0
    have A1 := a6.c1
    have X0 := x6.c0
    have X1 := x6.c1
    have Z0 := z6.c0
    have Z1 := z6.c1
    go_wp2_with fail
    refine (alive_any W6).mono ?_
    rintro e W7 ⟨rfl, hb7⟩
    have hB7 := hB6.trans (hb7.mono hB6.size)
    have a7 := a6.next hb7
    have x7 := x6.next hb7
    have z7 := z6.next hb7
    clear hB6 hb7 a6 x6 z6 A0 A1 X0 X1 Z0 Z1
    have A0 := a7.c0
    have A1 := a7.c1
    have X0 := x7.c0
    have X1 := x7.c1
    have Z0 := z7.c0
    have Z1 := z7.c1
    go_wp2
    go_ret
    exact ⟨rfl, hB7⟩
  · go_enter Try.func4, Try.ntmps4
    go_wp2_with fail
    generalize (w.alloc (.cells #[.int .u32 s, .int .u32 n] 24)) = W1 at *
    refine (d1 W1).mono ?_
    rintro e W2 ⟨rfl, hb2⟩
    have hB2 := hB1.trans (hb2.mono hB1.size)
    have a2 := a1.next hb2
    clear hB1 hb2 a1
    have a3 := a2.alloc (.cells #[.int .u32 (S), .int .u32 (N)] 24)
    have x3 := Tp.new W2 (S) (N)
    have hB3 := hB2.alloc hB2.size (.cells #[.int .u32 (S), .int .u32 (N)] 24)
    clear hB2 a2
    have A0 := a3.c0
    have A1 := a3.c1
    have X0 := x3.c0
    have X1 := x3.c1
    go_wp2_with fail
    generalize (W2.alloc (.cells #[.int .u32 (S), .int .u32 (N)] 24)) = W3 at *
    generalize W2.heap.size = h at *
    refine (d2 W3).mono ?_
    rintro e W4 ⟨rfl, hb4⟩
    have hB4 := hB3.trans (hb4.mono hB3.size)
    have a4 := a3.next hb4
    have x4 := x3.next hb4
    clear hB3 hb4 a3 x3 A0 A1 X0 X1
    have a5 := a4.alloc (.cells #[.int .u32 (T), .int .u32 (O)] 24)
    have x5 := x4.alloc (.cells #[.int .u32 (T), .int .u32 (O)] 24)
    have z5 := Tp.new W4 (T) (O)
    have hB5 := hB4.alloc hB4.size (.cells #[.int .u32 (T), .int .u32 (O)] 24)
    clear hB4 a4 x4
    have A0 := a5.c0
    have A1 := a5.c1
    have X0 := x5.c0
    have X1 := x5.c1
    have Z0 := z5.c0
    have Z1 := z5.c1
    go_wp2_with fail
    generalize (W4.alloc (.cells #[.int .u32 (T), .int .u32 (O)] 24)) = W5 at *
    generalize W4.heap.size = h' at *
    refine (c1 W5).mono ?_
    rintro e W6 ⟨rfl, hb6⟩
    have hB6 := hB5.trans (hb6.mono hB5.size)
    have a6 := a5.next hb6
    have x6 := x5.next hb6
    have z6 := z5.next hb6
    clear hB5 hb6 a5 x5 z5 A0 A1 X0 X1 Z0 Z1
    have A0 := a6.c0
    have A1 := a6.c1
    have X0 := x6.c0
    have X1 := x6.c1
    have Z0 := z6.c0
    have Z1 := z6.c1
    go_wp2_with fail
    refine (alive_any W6).mono ?_
    rintro e W7 ⟨rfl, hb7⟩
    have hB7 := hB6.trans (hb7.mono hB6.size)
    have a7 := a6.next hb7
    have x7 := x6.next hb7
    have z7 := z6.next hb7
    clear hB6 hb7 a6 x6 z6 A0 A1 X0 X1 Z0 Z1
    have A0 := a7.c0
    have A1 := a7.c1
    have X0 := x7.c0
    have X1 := x7.c1
    have Z0 := z7.c0
    have Z1 := z7.c1
    go_wp2
    go_ret
    exact ⟨rfl, hB7⟩
  · go_enter Try.func4, Try.ntmps4
    go_wp2_with fail
    generalize (w.alloc (.cells #[.int .u32 s, .int .u32 n] 24)) = W1 at *
    refine (d1 W1).mono ?_
    rintro e W2 ⟨rfl, hb2⟩
    have hB2 := hB1.trans (hb2.mono hB1.size)
    have a2 := a1.next hb2
    clear hB1 hb2 a1
    have a3 := a2.alloc (.cells #[.int .u32 (s + p), .int .u32 (n)] 24)
    have x3 := Tp.new W2 (s + p) (n)
    have hB3 := hB2.alloc hB2.size (.cells #[.int .u32 (s + p), .int .u32 (n)] 24)
    clear hB2 a2
    have A0 := a3.c0
    have A1 := a3.c1
    have X0 := x3.c0
    have X1 := x3.c1
    go_wp2_with fail
    generalize (W2.alloc (.cells #[.int .u32 (s + p), .int .u32 (n)] 24)) = W3 at *
    generalize W2.heap.size = h at *
    refine (d2 W3).mono ?_
    rintro e W4 ⟨rfl, hb4⟩
    have hB4 := hB3.trans (hb4.mono hB3.size)
    have a4 := a3.next hb4
    have x4 := x3.next hb4
    clear hB3 hb4 a3 x3 A0 A1 X0 X1
    have a5 := a4.alloc (.cells #[.int .u32 (s), .int .u32 (n + k)] 24)
    have x5 := x4.alloc (.cells #[.int .u32 (s), .int .u32 (n + k)] 24)
    have z5 := Tp.new W4 (s) (n + k)
    have hB5 := hB4.alloc hB4.size (.cells #[.int .u32 (s), .int .u32 (n + k)] 24)
    clear hB4 a4 x4
    have A0 := a5.c0
    have A1 := a5.c1
    have X0 := x5.c0
    have X1 := x5.c1
    have Z0 := z5.c0
    have Z1 := z5.c1
    go_wp2_with fail
    generalize (W4.alloc (.cells #[.int .u32 (s), .int .u32 (n + k)] 24)) = W5 at *
    generalize W4.heap.size = h' at *
    refine (c1 W5).mono ?_
    rintro e W6 ⟨rfl, hb6⟩
    have hB6 := hB5.trans (hb6.mono hB5.size)
    have a6 := a5.next hb6
    have x6 := x5.next hb6
    have z6 := z5.next hb6
    clear hB5 hb6 a5 x5 z5 A0 A1 X0 X1 Z0 Z1
    have A0 := a6.c0
    have A1 := a6.c1
    have X0 := x6.c0
    have X1 := x6.c1
    have Z0 := z6.c0
    have Z1 := z6.c1
    go_wp2_with fail
    refine (alive_any W6).mono ?_
    rintro e W7 ⟨rfl, hb7⟩
    have hB7 := hB6.trans (hb7.mono hB6.size)
    have a7 := a6.next hb7
    have x7 := x6.next hb7
    have z7 := z6.next hb7
    clear hB6 hb7 a6 x6 z6 A0 A1 X0 X1 Z0 Z1
    have A0 := a7.c0
    have A1 := a7.c1
    have X0 := x7.c0
    have X1 := x7.c1
    have Z0 := z7.c0
    have Z1 := z7.c1
    go_wp2
    go_ret
    exact ⟨rfl, hB7⟩
  · go_enter Try.func4, Try.ntmps4
    go_wp2_with fail
    generalize (w.alloc (.cells #[.int .u32 s, .int .u32 n] 24)) = W1 at *
    refine (d1 W1).mono ?_
    rintro e W2 ⟨rfl, hb2⟩
    have hB2 := hB1.trans (hb2.mono hB1.size)
    have a2 := a1.next hb2
    clear hB1 hb2 a1
    have a3 := a2.alloc (.cells #[.int .u32 (s + p), .int .u32 (n)] 24)
    have x3 := Tp.new W2 (s + p) (n)
    have hB3 := hB2.alloc hB2.size (.cells #[.int .u32 (s + p), .int .u32 (n)] 24)
    clear hB2 a2
    have A0 := a3.c0
    have A1 := a3.c1
    have X0 := x3.c0
    have X1 := x3.c1
    go_wp2_with fail
    generalize (W2.alloc (.cells #[.int .u32 (s + p), .int .u32 (n)] 24)) = W3 at *
    generalize W2.heap.size = h at *
    refine (d2 W3).mono ?_
    rintro e W4 ⟨rfl, hb4⟩
    have hB4 := hB3.trans (hb4.mono hB3.size)
    have a4 := a3.next hb4
    have x4 := x3.next hb4
    clear hB3 hb4 a3 x3 A0 A1 X0 X1
    have a5 := a4.alloc (.cells #[.int .u32 (s + 1), .int .u32 (n + k - 1000000000)] 24)
    have x5 := x4.alloc (.cells #[.int .u32 (s + 1), .int .u32 (n + k - 1000000000)] 24)
    have z5 := Tp.new W4 (s + 1) (n + k - 1000000000)
    have hB5 := hB4.alloc hB4.size (.cells #[.int .u32 (s + 1), .int .u32 (n + k - 1000000000)] 24)
    clear hB4 a4 x4
    have A0 := a5.c0
    have A1 := a5.c1
    have X0 := x5.c0
    have X1 := x5.c1
    have Z0 := z5.c0
    have Z1 := z5.c1
    go_wp2_with fail
    generalize (W4.alloc (.cells #[.int .u32 (s + 1), .int .u32 (n + k - 1000000000)] 24)) = W5 at *
    generalize W4.heap.size = h' at *
    refine (c1 W5).mono ?_
    rintro e W6 ⟨rfl, hb6⟩
    have hB6 := hB5.trans (hb6.mono hB5.size)
    have a6 := a5.next hb6
    have x6 := x5.next hb6
    have z6 := z5.next hb6
    clear hB5 hb6 a5 x5 z5 A0 A1 X0 X1 Z0 Z1
    have A0 := a6.c0
    have A1 := a6.c1
    have X0 := x6.c0
    have X1 := x6.c1
    have Z0 := z6.c0
    have Z1 := z6.c1
    go_wp2_with fail
    refine (alive_any W6).mono ?_
    rintro e W7 ⟨rfl, hb7⟩
    have hB7 := hB6.trans (hb7.mono hB6.size)
    have a7 := a6.next hb7
    have x7 := x6.next hb7
    have z7 := z6.next hb7
    clear hB6 hb7 a6 x6 z6 A0 A1 X0 X1 Z0 Z1
    have A0 := a7.c0
    have A1 := a7.c1
    have X0 := x7.c0
    have X1 := x7.c1
    have Z0 := z7.c0
    have Z1 := z7.c1
    go_wp2
    go_ret
    exact ⟨rfl, hB7⟩
  · go_enter Try.func4, Try.ntmps4
    go_wp2_with fail
    generalize (w.alloc (.cells #[.int .u32 4294967295, .int .u32 n] 24)) = W1 at *
    refine (d1 W1).mono ?_
    rintro e W2 ⟨rfl, hb2⟩
    have hB2 := hB1.trans (hb2.mono hB1.size)
    have a2 := a1.next hb2
    clear hB1 hb2 a1
    have a3 := a2.alloc (.cells #[.int .u32 (4294967295 + p), .int .u32 (n)] 24)
    have x3 := Tp.new W2 (4294967295 + p) (n)
    have hB3 := hB2.alloc hB2.size (.cells #[.int .u32 (4294967295 + p), .int .u32 (n)] 24)
    clear hB2 a2
    have A0 := a3.c0
    have A1 := a3.c1
    have X0 := x3.c0
    have X1 := x3.c1
    go_wp2_with fail
    generalize (W2.alloc (.cells #[.int .u32 (4294967295 + p), .int .u32 (n)] 24)) = W3 at *
    generalize W2.heap.size = h at *
    refine (d2 W3).mono ?_
    rintro e W4 ⟨rfl, hb4⟩
    have hB4 := hB3.trans (hb4.mono hB3.size)
    have a4 := a3.next hb4
    have x4 := x3.next hb4
    clear hB3 hb4 a3 x3 A0 A1 X0 X1
    have a5 := a4.alloc (.cells #[.int .u32 (T), .int .u32 (O)] 24)
    have x5 := x4.alloc (.cells #[.int .u32 (T), .int .u32 (O)] 24)
    have z5 := Tp.new W4 (T) (O)
    have hB5 := hB4.alloc hB4.size (.cells #[.int .u32 (T), .int .u32 (O)] 24)
    clear hB4 a4 x4
    have A0 := a5.c0
    have A1 := a5.c1
    have X0 := x5.c0
    have X1 := x5.c1
    have Z0 := z5.c0
    have Z1 := z5.c1
    go_wp2_with fail
    generalize (W4.alloc (.cells #[.int .u32 (T), .int .u32 (O)] 24)) = W5 at *
    generalize W4.heap.size = h' at *
    refine (c1 W5).mono ?_
    rintro e W6 ⟨rfl, hb6⟩
    have hB6 := hB5.trans (hb6.mono hB5.size)
    have a6 := a5.next hb6
    have x6 := x5.next hb6
    have z6 := z5.next hb6
    clear hB5 hb6 a5 x5 z5 A0 A1 X0 X1 Z0 Z1
    have A0 := a6.c0
    have A1 := a6.c1
    have X0 := x6.c0
    have X1 := x6.c1
    have Z0 := z6.c0
    have Z1 := z6.c1
    go_wp2_with fail
    refine (alive_any W6).mono ?_
    rintro e W7 ⟨rfl, hb7⟩
    have hB7 := hB6.trans (hb7.mono hB6.size)
    have a7 := a6.next hb7
    have x7 := x6.next hb7
    have z7 := z6.next hb7
    clear hB6 hb7 a6 x6 z6 A0 A1 X0 X1 Z0 Z1
    have A0 := a7.c0
    have A1 := a7.c1
    have X0 := x7.c0
    have X1 := x7.c1
    have Z0 := z7.c0
    have Z1 := z7.c1
    go_wp2
    go_ret
    exact ⟨rfl, hB7⟩
end Go.Proofs.Ytjognjggampejab
