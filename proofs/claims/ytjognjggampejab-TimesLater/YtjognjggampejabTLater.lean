/- The walk of 'TimesLater': true for any two points of time, any number; nothing that was there turns. -/
import Derived.Test.YtjognjggampejabTAlive
namespace Go.Proofs.Ytjognjggampejab
set_option linter.unusedVariables false
open Go.RowKit

theorem tok_iff {n : Int} : tok n = true ↔ n < 1000000000 := by simp [tok]
theorem tok_not {n : Int} : tok n = false ↔ 1000000000 ≤ n := by simp [tok]

theorem later_says (s n t o k : Int) (s0 : 0 ≤ s) (n0 : 0 ≤ n) (o0 : 0 ≤ o) (k0 : 0 ≤ k) :
    (tok n = false ∧ tE s n k = 1) ∨
    (tok n = true ∧ (tE s n k = 0 ∧ tls s n (tS s n k) (tN s n k) = decide (0 < k) ∧ tok (tN s n k) = true ∨ tE s n k = 3) ∧
      ((tok o = false ∧ tE t o k = 1) ∨ (tok o = true ∧ (tls s n t o = false ∨
        tls s n t o = true ∧ (tE t o k = 3 ∨ tE t o k = 0 ∧ tE s n k = 0 ∧ tls (tS s n k) (tN s n k) (tS t o k) (tN t o k) = true))))) := by
  cases h1 : tok n with
  | false => exact .inl ⟨rfl, (ad_not h1).1⟩
  | true =>
    refine .inr ⟨rfl, ?_, ?_⟩
    · rcases ad_cases s n k with ⟨_, _, _, h⟩ | ⟨h, _⟩ | ⟨h, _⟩
      · rw [tok_iff] at h1; omega
      · exact .inr h
      · have := ad_later s0 n0 k0 h
        exact .inl ⟨h, this.1, this.2⟩
    · cases h2 : tok o with
      | false => exact .inl ⟨rfl, (ad_not h2).1⟩
      | true =>
        refine .inr ⟨rfl, ?_⟩
        cases h3 : tls s n t o with
        | false => exact .inl rfl
        | true =>
          refine .inr ⟨rfl, ?_⟩
          rcases ad_cases t o k with ⟨_, _, _, h⟩ | ⟨h, _⟩ | ⟨h, _⟩
          · rw [tok_iff] at h2; omega
          · exact .inl h
          · have := ad_ahead (s := s) (n := n) n0 o0 k0 h1 h2 h3 h
            exact .inr ⟨h, this.1, this.2⟩

set_option maxRecDepth 100000 in
set_option maxHeartbeats 4000000 in
theorem tlater_walk (s n t o k : Int) (w : World) (s0 : 0 ≤ s) (s1 : s ≤ 4294967295) (n0 : 0 ≤ n) (n1 : n ≤ 4294967295) (t0 : 0 ≤ t) (t1 : t ≤ 4294967295) (o0 : 0 ≤ o) (o1 : o ≤ 4294967295) (k0 : 0 ≤ k) (k1 : k ≤ 18446744073709551615) :
    Calls Try.prog 3 #[.agg #[.int .u32 s, .int .u32 n], .agg #[.int .u32 t, .int .u32 o], .int .u64 k] w fun e w' => e = .returned (.bool true) ∧ Below w.heap.size w w' := by
  have a1 := (Tp.new w s n).alloc (.cells #[.int .u32 t, .int .u32 o] 24)
  have b1 := Tp.new (w.alloc (.cells #[.int .u32 s, .int .u32 n] 24)) t o
  rw [show (w.alloc (.cells #[.int .u32 s, .int .u32 n] 24)).heap.size = w.heap.size + 1 by simp] at b1
  have hB1 : Below w.heap.size w ((w.alloc (.cells #[.int .u32 s, .int .u32 n] 24)).alloc (.cells #[.int .u32 t, .int .u32 o] 24)) := ((Below.refl _ _).alloc (Nat.le_refl _) _).alloc (by simp) _
  have d1 := fun w => tadd_any s n k w s0 s1 n0 n1 k0 k1
  have d2 := fun w => tadd_any t o k w t0 t1 o0 o1 k0 k1
  have l1 := fun w => tless_any s n (tS s n k) (tN s n k) w
  have c1 := fun w => tcheck_any (tS s n k) (tN s n k) w
  have c2 := fun w => tcheck_any s n w
  have c3 := fun w => tcheck_any t o w
  have l2 := fun w => tless_any s n t o w
  have l3 := fun w => tless_any (tS s n k) (tN s n k) (tS t o k) (tN t o k) w
  have hc := later_says s n t o k s0 n0 o0 k0
  generalize tls s n (tS s n k) (tN s n k) = x1 at *
  generalize tok (tN s n k) = x2 at *
  generalize tls (tS s n k) (tN s n k) (tS t o k) (tN t o k) = x3 at *
  generalize tE s n k = E at *
  generalize tS s n k = S at *
  generalize tN s n k = N at *
  generalize tE t o k = F at *
  generalize tS t o k = T at *
  generalize tN t o k = O at *
  generalize tok n = y1 at *
  generalize tok o = y2 at *
  generalize tls s n t o = y3 at *
  have hkk : (decide (0 < k) != decide (0 < k)) = false := by simp
  rcases hc with ⟨rfl, rfl⟩ | ⟨rfl, ⟨rfl, rfl, rfl⟩ | rfl, ⟨rfl, rfl⟩ | ⟨rfl, rfl | ⟨rfl, rfl | ⟨rfl, hE, rfl⟩⟩⟩⟩
  · go_enter Try.func3, Try.ntmps3
    go_wp2_with fail
    generalize ((w.alloc (.cells #[.int .u32 s, .int .u32 n] 24)).alloc (.cells #[.int .u32 t, .int .u32 o] 24)) = W1 at *
    refine (d1 W1).mono ?_
    rintro e W2 ⟨rfl, hb2⟩
    have hB2 := hB1.trans (hb2.mono hB1.size)
    have a2 := a1.next hb2
    have b2 := b1.next hb2
    clear hB1 hb2 a1 b1
    have a3 := a2.alloc (.cells #[.int .u32 S, .int .u32 N] 24)
    have b3 := b2.alloc (.cells #[.int .u32 S, .int .u32 N] 24)
    have p3 := Tp.new W2 S N
    have hB3 := hB2.alloc hB2.size (.cells #[.int .u32 S, .int .u32 N] 24)
    clear hB2 a2 b2
    have A0 := a3.c0
    have A1 := a3.c1
    have B0 := b3.c0
    have B1 := b3.c1
    have P0 := p3.c0
    have P1 := p3.c1
    go_wp2_with fail
    generalize (W2.alloc (.cells #[.int .u32 S, .int .u32 N] 24)) = W3 at *
    generalize W2.heap.size = h at *
    refine (d2 W3).mono ?_
    rintro e W4 ⟨rfl, hb4⟩
    have hB4 := hB3.trans (hb4.mono hB3.size)
    have a4 := a3.next hb4
    have b4 := b3.next hb4
    have p4 := p3.next hb4
    clear hB3 hb4 a3 b3 p3 A0 A1 B0 B1 P0 P1
    have a5 := a4.alloc (.cells #[.int .u32 T, .int .u32 O] 24)
    have b5 := b4.alloc (.cells #[.int .u32 T, .int .u32 O] 24)
    have p5 := p4.alloc (.cells #[.int .u32 T, .int .u32 O] 24)
    have q5 := Tp.new W4 T O
    have hB5 := hB4.alloc hB4.size (.cells #[.int .u32 T, .int .u32 O] 24)
    clear hB4 a4 b4 p4
    have A0 := a5.c0
    have A1 := a5.c1
    have B0 := b5.c0
    have B1 := b5.c1
    have P0 := p5.c0
    have P1 := p5.c1
    have Q0 := q5.c0
    have Q1 := q5.c1
    go_wp2_with fail
    generalize (W4.alloc (.cells #[.int .u32 T, .int .u32 O] 24)) = W5 at *
    generalize W4.heap.size = h' at *
    refine (c2 W5).mono ?_
    rintro e W6 ⟨rfl, hb6⟩
    have hB6 := hB5.trans (hb6.mono hB5.size)
    have a6 := a5.next hb6
    have b6 := b5.next hb6
    have p6 := p5.next hb6
    have q6 := q5.next hb6
    clear hB5 hb6 a5 b5 p5 q5 A0 A1 B0 B1 P0 P1 Q0 Q1
    have A0 := a6.c0
    have A1 := a6.c1
    have B0 := b6.c0
    have B1 := b6.c1
    have P0 := p6.c0
    have P1 := p6.c1
    have Q0 := q6.c0
    have Q1 := q6.c1
    go_wp2_with fail
    refine (alive_any W6).mono ?_
    rintro e W7 ⟨rfl, hb7⟩
    have hB7 := hB6.trans (hb7.mono hB6.size)
    have a7 := a6.next hb7
    have b7 := b6.next hb7
    have p7 := p6.next hb7
    have q7 := q6.next hb7
    clear hB6 hb7 a6 b6 p6 q6 A0 A1 B0 B1 P0 P1 Q0 Q1
    have A0 := a7.c0
    have A1 := a7.c1
    have B0 := b7.c0
    have B1 := b7.c1
    have P0 := p7.c0
    have P1 := p7.c1
    have Q0 := q7.c0
    have Q1 := q7.c1
    go_wp2
    go_ret
    exact ⟨rfl, hB7⟩
  · go_enter Try.func3, Try.ntmps3
    go_wp2_with fail
    generalize ((w.alloc (.cells #[.int .u32 s, .int .u32 n] 24)).alloc (.cells #[.int .u32 t, .int .u32 o] 24)) = W1 at *
    refine (d1 W1).mono ?_
    rintro e W2 ⟨rfl, hb2⟩
    have hB2 := hB1.trans (hb2.mono hB1.size)
    have a2 := a1.next hb2
    have b2 := b1.next hb2
    clear hB1 hb2 a1 b1
    have a3 := a2.alloc (.cells #[.int .u32 S, .int .u32 N] 24)
    have b3 := b2.alloc (.cells #[.int .u32 S, .int .u32 N] 24)
    have p3 := Tp.new W2 S N
    have hB3 := hB2.alloc hB2.size (.cells #[.int .u32 S, .int .u32 N] 24)
    clear hB2 a2 b2
    have A0 := a3.c0
    have A1 := a3.c1
    have B0 := b3.c0
    have B1 := b3.c1
    have P0 := p3.c0
    have P1 := p3.c1
    go_wp2_with fail
    generalize (W2.alloc (.cells #[.int .u32 S, .int .u32 N] 24)) = W3 at *
    generalize W2.heap.size = h at *
    refine (d2 W3).mono ?_
    rintro e W4 ⟨rfl, hb4⟩
    have hB4 := hB3.trans (hb4.mono hB3.size)
    have a4 := a3.next hb4
    have b4 := b3.next hb4
    have p4 := p3.next hb4
    clear hB3 hb4 a3 b3 p3 A0 A1 B0 B1 P0 P1
    have a5 := a4.alloc (.cells #[.int .u32 T, .int .u32 O] 24)
    have b5 := b4.alloc (.cells #[.int .u32 T, .int .u32 O] 24)
    have p5 := p4.alloc (.cells #[.int .u32 T, .int .u32 O] 24)
    have q5 := Tp.new W4 T O
    have hB5 := hB4.alloc hB4.size (.cells #[.int .u32 T, .int .u32 O] 24)
    clear hB4 a4 b4 p4
    have A0 := a5.c0
    have A1 := a5.c1
    have B0 := b5.c0
    have B1 := b5.c1
    have P0 := p5.c0
    have P1 := p5.c1
    have Q0 := q5.c0
    have Q1 := q5.c1
    go_wp2_with fail
    generalize (W4.alloc (.cells #[.int .u32 T, .int .u32 O] 24)) = W5 at *
    generalize W4.heap.size = h' at *
    refine (l1 W5).mono ?_
    rintro e W6 ⟨rfl, hb6⟩
    have hB6 := hB5.trans (hb6.mono hB5.size)
    have a6 := a5.next hb6
    have b6 := b5.next hb6
    have p6 := p5.next hb6
    have q6 := q5.next hb6
    clear hB5 hb6 a5 b5 p5 q5 A0 A1 B0 B1 P0 P1 Q0 Q1
    have A0 := a6.c0
    have A1 := a6.c1
    have B0 := b6.c0
    have B1 := b6.c1
    have P0 := p6.c0
    have P1 := p6.c1
    have Q0 := q6.c0
    have Q1 := q6.c1
    go_wp2_with fail
    refine (c1 W6).mono ?_
    rintro e W7 ⟨rfl, hb7⟩
    have hB7 := hB6.trans (hb7.mono hB6.size)
    have a7 := a6.next hb7
    have b7 := b6.next hb7
    have p7 := p6.next hb7
    have q7 := q6.next hb7
    clear hB6 hb7 a6 b6 p6 q6 A0 A1 B0 B1 P0 P1 Q0 Q1
    have A0 := a7.c0
    have A1 := a7.c1
    have B0 := b7.c0
    have B1 := b7.c1
    have P0 := p7.c0
    have P1 := p7.c1
    have Q0 := q7.c0
    have Q1 := q7.c1
    go_wp2_with fail
    refine (c2 W7).mono ?_
    rintro e W8 ⟨rfl, hb8⟩
    have hB8 := hB7.trans (hb8.mono hB7.size)
    have a8 := a7.next hb8
    have b8 := b7.next hb8
    have p8 := p7.next hb8
    have q8 := q7.next hb8
    clear hB7 hb8 a7 b7 p7 q7 A0 A1 B0 B1 P0 P1 Q0 Q1
    have A0 := a8.c0
    have A1 := a8.c1
    have B0 := b8.c0
    have B1 := b8.c1
    have P0 := p8.c0
    have P1 := p8.c1
    have Q0 := q8.c0
    have Q1 := q8.c1
    go_wp2_with fail
    refine (c3 W8).mono ?_
    rintro e W9 ⟨rfl, hb9⟩
    have hB9 := hB8.trans (hb9.mono hB8.size)
    have a9 := a8.next hb9
    have b9 := b8.next hb9
    have p9 := p8.next hb9
    have q9 := q8.next hb9
    clear hB8 hb9 a8 b8 p8 q8 A0 A1 B0 B1 P0 P1 Q0 Q1
    have A0 := a9.c0
    have A1 := a9.c1
    have B0 := b9.c0
    have B1 := b9.c1
    have P0 := p9.c0
    have P1 := p9.c1
    have Q0 := q9.c0
    have Q1 := q9.c1
    go_wp2_with fail
    refine (alive_any W9).mono ?_
    rintro e W10 ⟨rfl, hb10⟩
    have hB10 := hB9.trans (hb10.mono hB9.size)
    have a10 := a9.next hb10
    have b10 := b9.next hb10
    have p10 := p9.next hb10
    have q10 := q9.next hb10
    clear hB9 hb10 a9 b9 p9 q9 A0 A1 B0 B1 P0 P1 Q0 Q1
    have A0 := a10.c0
    have A1 := a10.c1
    have B0 := b10.c0
    have B1 := b10.c1
    have P0 := p10.c0
    have P1 := p10.c1
    have Q0 := q10.c0
    have Q1 := q10.c1
    go_wp2
    go_ret
    exact ⟨rfl, hB10⟩
  · go_enter Try.func3, Try.ntmps3
    go_wp2_with fail
    generalize ((w.alloc (.cells #[.int .u32 s, .int .u32 n] 24)).alloc (.cells #[.int .u32 t, .int .u32 o] 24)) = W1 at *
    refine (d1 W1).mono ?_
    rintro e W2 ⟨rfl, hb2⟩
    have hB2 := hB1.trans (hb2.mono hB1.size)
    have a2 := a1.next hb2
    have b2 := b1.next hb2
    clear hB1 hb2 a1 b1
    have a3 := a2.alloc (.cells #[.int .u32 S, .int .u32 N] 24)
    have b3 := b2.alloc (.cells #[.int .u32 S, .int .u32 N] 24)
    have p3 := Tp.new W2 S N
    have hB3 := hB2.alloc hB2.size (.cells #[.int .u32 S, .int .u32 N] 24)
    clear hB2 a2 b2
    have A0 := a3.c0
    have A1 := a3.c1
    have B0 := b3.c0
    have B1 := b3.c1
    have P0 := p3.c0
    have P1 := p3.c1
    go_wp2_with fail
    generalize (W2.alloc (.cells #[.int .u32 S, .int .u32 N] 24)) = W3 at *
    generalize W2.heap.size = h at *
    refine (d2 W3).mono ?_
    rintro e W4 ⟨rfl, hb4⟩
    have hB4 := hB3.trans (hb4.mono hB3.size)
    have a4 := a3.next hb4
    have b4 := b3.next hb4
    have p4 := p3.next hb4
    clear hB3 hb4 a3 b3 p3 A0 A1 B0 B1 P0 P1
    have a5 := a4.alloc (.cells #[.int .u32 T, .int .u32 O] 24)
    have b5 := b4.alloc (.cells #[.int .u32 T, .int .u32 O] 24)
    have p5 := p4.alloc (.cells #[.int .u32 T, .int .u32 O] 24)
    have q5 := Tp.new W4 T O
    have hB5 := hB4.alloc hB4.size (.cells #[.int .u32 T, .int .u32 O] 24)
    clear hB4 a4 b4 p4
    have A0 := a5.c0
    have A1 := a5.c1
    have B0 := b5.c0
    have B1 := b5.c1
    have P0 := p5.c0
    have P1 := p5.c1
    have Q0 := q5.c0
    have Q1 := q5.c1
    go_wp2_with fail
    generalize (W4.alloc (.cells #[.int .u32 T, .int .u32 O] 24)) = W5 at *
    generalize W4.heap.size = h' at *
    refine (l1 W5).mono ?_
    rintro e W6 ⟨rfl, hb6⟩
    have hB6 := hB5.trans (hb6.mono hB5.size)
    have a6 := a5.next hb6
    have b6 := b5.next hb6
    have p6 := p5.next hb6
    have q6 := q5.next hb6
    clear hB5 hb6 a5 b5 p5 q5 A0 A1 B0 B1 P0 P1 Q0 Q1
    have A0 := a6.c0
    have A1 := a6.c1
    have B0 := b6.c0
    have B1 := b6.c1
    have P0 := p6.c0
    have P1 := p6.c1
    have Q0 := q6.c0
    have Q1 := q6.c1
    go_wp2_with fail
    refine (c1 W6).mono ?_
    rintro e W7 ⟨rfl, hb7⟩
    have hB7 := hB6.trans (hb7.mono hB6.size)
    have a7 := a6.next hb7
    have b7 := b6.next hb7
    have p7 := p6.next hb7
    have q7 := q6.next hb7
    clear hB6 hb7 a6 b6 p6 q6 A0 A1 B0 B1 P0 P1 Q0 Q1
    have A0 := a7.c0
    have A1 := a7.c1
    have B0 := b7.c0
    have B1 := b7.c1
    have P0 := p7.c0
    have P1 := p7.c1
    have Q0 := q7.c0
    have Q1 := q7.c1
    go_wp2_with fail
    refine (c2 W7).mono ?_
    rintro e W8 ⟨rfl, hb8⟩
    have hB8 := hB7.trans (hb8.mono hB7.size)
    have a8 := a7.next hb8
    have b8 := b7.next hb8
    have p8 := p7.next hb8
    have q8 := q7.next hb8
    clear hB7 hb8 a7 b7 p7 q7 A0 A1 B0 B1 P0 P1 Q0 Q1
    have A0 := a8.c0
    have A1 := a8.c1
    have B0 := b8.c0
    have B1 := b8.c1
    have P0 := p8.c0
    have P1 := p8.c1
    have Q0 := q8.c0
    have Q1 := q8.c1
    go_wp2_with fail
    refine (c3 W8).mono ?_
    rintro e W9 ⟨rfl, hb9⟩
    have hB9 := hB8.trans (hb9.mono hB8.size)
    have a9 := a8.next hb9
    have b9 := b8.next hb9
    have p9 := p8.next hb9
    have q9 := q8.next hb9
    clear hB8 hb9 a8 b8 p8 q8 A0 A1 B0 B1 P0 P1 Q0 Q1
    have A0 := a9.c0
    have A1 := a9.c1
    have B0 := b9.c0
    have B1 := b9.c1
    have P0 := p9.c0
    have P1 := p9.c1
    have Q0 := q9.c0
    have Q1 := q9.c1
    go_wp2_with fail
    refine (l2 W9).mono ?_
    rintro e W10 ⟨rfl, hb10⟩
    have hB10 := hB9.trans (hb10.mono hB9.size)
    have a10 := a9.next hb10
    have b10 := b9.next hb10
    have p10 := p9.next hb10
    have q10 := q9.next hb10
    clear hB9 hb10 a9 b9 p9 q9 A0 A1 B0 B1 P0 P1 Q0 Q1
    have A0 := a10.c0
    have A1 := a10.c1
    have B0 := b10.c0
    have B1 := b10.c1
    have P0 := p10.c0
    have P1 := p10.c1
    have Q0 := q10.c0
    have Q1 := q10.c1
    go_wp2_with fail
    refine (alive_any W10).mono ?_
    rintro e W11 ⟨rfl, hb11⟩
    have hB11 := hB10.trans (hb11.mono hB10.size)
    have a11 := a10.next hb11
    have b11 := b10.next hb11
    have p11 := p10.next hb11
    have q11 := q10.next hb11
    clear hB10 hb11 a10 b10 p10 q10 A0 A1 B0 B1 P0 P1 Q0 Q1
    have A0 := a11.c0
    have A1 := a11.c1
    have B0 := b11.c0
    have B1 := b11.c1
    have P0 := p11.c0
    have P1 := p11.c1
    have Q0 := q11.c0
    have Q1 := q11.c1
    go_wp2
    go_ret
    exact ⟨rfl, hB11⟩
  · go_enter Try.func3, Try.ntmps3
    go_wp2_with fail
    generalize ((w.alloc (.cells #[.int .u32 s, .int .u32 n] 24)).alloc (.cells #[.int .u32 t, .int .u32 o] 24)) = W1 at *
    refine (d1 W1).mono ?_
    rintro e W2 ⟨rfl, hb2⟩
    have hB2 := hB1.trans (hb2.mono hB1.size)
    have a2 := a1.next hb2
    have b2 := b1.next hb2
    clear hB1 hb2 a1 b1
    have a3 := a2.alloc (.cells #[.int .u32 S, .int .u32 N] 24)
    have b3 := b2.alloc (.cells #[.int .u32 S, .int .u32 N] 24)
    have p3 := Tp.new W2 S N
    have hB3 := hB2.alloc hB2.size (.cells #[.int .u32 S, .int .u32 N] 24)
    clear hB2 a2 b2
    have A0 := a3.c0
    have A1 := a3.c1
    have B0 := b3.c0
    have B1 := b3.c1
    have P0 := p3.c0
    have P1 := p3.c1
    go_wp2_with fail
    generalize (W2.alloc (.cells #[.int .u32 S, .int .u32 N] 24)) = W3 at *
    generalize W2.heap.size = h at *
    refine (d2 W3).mono ?_
    rintro e W4 ⟨rfl, hb4⟩
    have hB4 := hB3.trans (hb4.mono hB3.size)
    have a4 := a3.next hb4
    have b4 := b3.next hb4
    have p4 := p3.next hb4
    clear hB3 hb4 a3 b3 p3 A0 A1 B0 B1 P0 P1
    have a5 := a4.alloc (.cells #[.int .u32 T, .int .u32 O] 24)
    have b5 := b4.alloc (.cells #[.int .u32 T, .int .u32 O] 24)
    have p5 := p4.alloc (.cells #[.int .u32 T, .int .u32 O] 24)
    have q5 := Tp.new W4 T O
    have hB5 := hB4.alloc hB4.size (.cells #[.int .u32 T, .int .u32 O] 24)
    clear hB4 a4 b4 p4
    have A0 := a5.c0
    have A1 := a5.c1
    have B0 := b5.c0
    have B1 := b5.c1
    have P0 := p5.c0
    have P1 := p5.c1
    have Q0 := q5.c0
    have Q1 := q5.c1
    go_wp2_with fail
    generalize (W4.alloc (.cells #[.int .u32 T, .int .u32 O] 24)) = W5 at *
    generalize W4.heap.size = h' at *
    refine (l1 W5).mono ?_
    rintro e W6 ⟨rfl, hb6⟩
    have hB6 := hB5.trans (hb6.mono hB5.size)
    have a6 := a5.next hb6
    have b6 := b5.next hb6
    have p6 := p5.next hb6
    have q6 := q5.next hb6
    clear hB5 hb6 a5 b5 p5 q5 A0 A1 B0 B1 P0 P1 Q0 Q1
    have A0 := a6.c0
    have A1 := a6.c1
    have B0 := b6.c0
    have B1 := b6.c1
    have P0 := p6.c0
    have P1 := p6.c1
    have Q0 := q6.c0
    have Q1 := q6.c1
    go_wp2_with fail
    refine (c1 W6).mono ?_
    rintro e W7 ⟨rfl, hb7⟩
    have hB7 := hB6.trans (hb7.mono hB6.size)
    have a7 := a6.next hb7
    have b7 := b6.next hb7
    have p7 := p6.next hb7
    have q7 := q6.next hb7
    clear hB6 hb7 a6 b6 p6 q6 A0 A1 B0 B1 P0 P1 Q0 Q1
    have A0 := a7.c0
    have A1 := a7.c1
    have B0 := b7.c0
    have B1 := b7.c1
    have P0 := p7.c0
    have P1 := p7.c1
    have Q0 := q7.c0
    have Q1 := q7.c1
    go_wp2_with fail
    refine (c2 W7).mono ?_
    rintro e W8 ⟨rfl, hb8⟩
    have hB8 := hB7.trans (hb8.mono hB7.size)
    have a8 := a7.next hb8
    have b8 := b7.next hb8
    have p8 := p7.next hb8
    have q8 := q7.next hb8
    clear hB7 hb8 a7 b7 p7 q7 A0 A1 B0 B1 P0 P1 Q0 Q1
    have A0 := a8.c0
    have A1 := a8.c1
    have B0 := b8.c0
    have B1 := b8.c1
    have P0 := p8.c0
    have P1 := p8.c1
    have Q0 := q8.c0
    have Q1 := q8.c1
    go_wp2_with fail
    refine (c3 W8).mono ?_
    rintro e W9 ⟨rfl, hb9⟩
    have hB9 := hB8.trans (hb9.mono hB8.size)
    have a9 := a8.next hb9
    have b9 := b8.next hb9
    have p9 := p8.next hb9
    have q9 := q8.next hb9
    clear hB8 hb9 a8 b8 p8 q8 A0 A1 B0 B1 P0 P1 Q0 Q1
    have A0 := a9.c0
    have A1 := a9.c1
    have B0 := b9.c0
    have B1 := b9.c1
    have P0 := p9.c0
    have P1 := p9.c1
    have Q0 := q9.c0
    have Q1 := q9.c1
    go_wp2_with fail
    refine (l2 W9).mono ?_
    rintro e W10 ⟨rfl, hb10⟩
    have hB10 := hB9.trans (hb10.mono hB9.size)
    have a10 := a9.next hb10
    have b10 := b9.next hb10
    have p10 := p9.next hb10
    have q10 := q9.next hb10
    clear hB9 hb10 a9 b9 p9 q9 A0 A1 B0 B1 P0 P1 Q0 Q1
    have A0 := a10.c0
    have A1 := a10.c1
    have B0 := b10.c0
    have B1 := b10.c1
    have P0 := p10.c0
    have P1 := p10.c1
    have Q0 := q10.c0
    have Q1 := q10.c1
    go_wp2_with fail
    refine (alive_any W10).mono ?_
    rintro e W11 ⟨rfl, hb11⟩
    have hB11 := hB10.trans (hb11.mono hB10.size)
    have a11 := a10.next hb11
    have b11 := b10.next hb11
    have p11 := p10.next hb11
    have q11 := q10.next hb11
    clear hB10 hb11 a10 b10 p10 q10 A0 A1 B0 B1 P0 P1 Q0 Q1
    have A0 := a11.c0
    have A1 := a11.c1
    have B0 := b11.c0
    have B1 := b11.c1
    have P0 := p11.c0
    have P1 := p11.c1
    have Q0 := q11.c0
    have Q1 := q11.c1
    go_wp2
    go_ret
    exact ⟨rfl, hB11⟩
  · go_enter Try.func3, Try.ntmps3
    go_wp2_with fail
    generalize ((w.alloc (.cells #[.int .u32 s, .int .u32 n] 24)).alloc (.cells #[.int .u32 t, .int .u32 o] 24)) = W1 at *
    refine (d1 W1).mono ?_
    rintro e W2 ⟨rfl, hb2⟩
    have hB2 := hB1.trans (hb2.mono hB1.size)
    have a2 := a1.next hb2
    have b2 := b1.next hb2
    clear hB1 hb2 a1 b1
    have a3 := a2.alloc (.cells #[.int .u32 S, .int .u32 N] 24)
    have b3 := b2.alloc (.cells #[.int .u32 S, .int .u32 N] 24)
    have p3 := Tp.new W2 S N
    have hB3 := hB2.alloc hB2.size (.cells #[.int .u32 S, .int .u32 N] 24)
    clear hB2 a2 b2
    have A0 := a3.c0
    have A1 := a3.c1
    have B0 := b3.c0
    have B1 := b3.c1
    have P0 := p3.c0
    have P1 := p3.c1
    go_wp2_with fail
    generalize (W2.alloc (.cells #[.int .u32 S, .int .u32 N] 24)) = W3 at *
    generalize W2.heap.size = h at *
    refine (d2 W3).mono ?_
    rintro e W4 ⟨rfl, hb4⟩
    have hB4 := hB3.trans (hb4.mono hB3.size)
    have a4 := a3.next hb4
    have b4 := b3.next hb4
    have p4 := p3.next hb4
    clear hB3 hb4 a3 b3 p3 A0 A1 B0 B1 P0 P1
    have a5 := a4.alloc (.cells #[.int .u32 T, .int .u32 O] 24)
    have b5 := b4.alloc (.cells #[.int .u32 T, .int .u32 O] 24)
    have p5 := p4.alloc (.cells #[.int .u32 T, .int .u32 O] 24)
    have q5 := Tp.new W4 T O
    have hB5 := hB4.alloc hB4.size (.cells #[.int .u32 T, .int .u32 O] 24)
    clear hB4 a4 b4 p4
    have A0 := a5.c0
    have A1 := a5.c1
    have B0 := b5.c0
    have B1 := b5.c1
    have P0 := p5.c0
    have P1 := p5.c1
    have Q0 := q5.c0
    have Q1 := q5.c1
    go_wp2_with fail
    generalize (W4.alloc (.cells #[.int .u32 T, .int .u32 O] 24)) = W5 at *
    generalize W4.heap.size = h' at *
    refine (l1 W5).mono ?_
    rintro e W6 ⟨rfl, hb6⟩
    have hB6 := hB5.trans (hb6.mono hB5.size)
    have a6 := a5.next hb6
    have b6 := b5.next hb6
    have p6 := p5.next hb6
    have q6 := q5.next hb6
    clear hB5 hb6 a5 b5 p5 q5 A0 A1 B0 B1 P0 P1 Q0 Q1
    have A0 := a6.c0
    have A1 := a6.c1
    have B0 := b6.c0
    have B1 := b6.c1
    have P0 := p6.c0
    have P1 := p6.c1
    have Q0 := q6.c0
    have Q1 := q6.c1
    go_wp2_with fail
    refine (c1 W6).mono ?_
    rintro e W7 ⟨rfl, hb7⟩
    have hB7 := hB6.trans (hb7.mono hB6.size)
    have a7 := a6.next hb7
    have b7 := b6.next hb7
    have p7 := p6.next hb7
    have q7 := q6.next hb7
    clear hB6 hb7 a6 b6 p6 q6 A0 A1 B0 B1 P0 P1 Q0 Q1
    have A0 := a7.c0
    have A1 := a7.c1
    have B0 := b7.c0
    have B1 := b7.c1
    have P0 := p7.c0
    have P1 := p7.c1
    have Q0 := q7.c0
    have Q1 := q7.c1
    go_wp2_with fail
    refine (c2 W7).mono ?_
    rintro e W8 ⟨rfl, hb8⟩
    have hB8 := hB7.trans (hb8.mono hB7.size)
    have a8 := a7.next hb8
    have b8 := b7.next hb8
    have p8 := p7.next hb8
    have q8 := q7.next hb8
    clear hB7 hb8 a7 b7 p7 q7 A0 A1 B0 B1 P0 P1 Q0 Q1
    have A0 := a8.c0
    have A1 := a8.c1
    have B0 := b8.c0
    have B1 := b8.c1
    have P0 := p8.c0
    have P1 := p8.c1
    have Q0 := q8.c0
    have Q1 := q8.c1
    go_wp2_with fail
    refine (c3 W8).mono ?_
    rintro e W9 ⟨rfl, hb9⟩
    have hB9 := hB8.trans (hb9.mono hB8.size)
    have a9 := a8.next hb9
    have b9 := b8.next hb9
    have p9 := p8.next hb9
    have q9 := q8.next hb9
    clear hB8 hb9 a8 b8 p8 q8 A0 A1 B0 B1 P0 P1 Q0 Q1
    have A0 := a9.c0
    have A1 := a9.c1
    have B0 := b9.c0
    have B1 := b9.c1
    have P0 := p9.c0
    have P1 := p9.c1
    have Q0 := q9.c0
    have Q1 := q9.c1
    go_wp2_with fail
    refine (l2 W9).mono ?_
    rintro e W10 ⟨rfl, hb10⟩
    have hB10 := hB9.trans (hb10.mono hB9.size)
    have a10 := a9.next hb10
    have b10 := b9.next hb10
    have p10 := p9.next hb10
    have q10 := q9.next hb10
    clear hB9 hb10 a9 b9 p9 q9 A0 A1 B0 B1 P0 P1 Q0 Q1
    have A0 := a10.c0
    have A1 := a10.c1
    have B0 := b10.c0
    have B1 := b10.c1
    have P0 := p10.c0
    have P1 := p10.c1
    have Q0 := q10.c0
    have Q1 := q10.c1
    go_wp2_with fail
    refine (alive_any W10).mono ?_
    rintro e W11 ⟨rfl, hb11⟩
    have hB11 := hB10.trans (hb11.mono hB10.size)
    have a11 := a10.next hb11
    have b11 := b10.next hb11
    have p11 := p10.next hb11
    have q11 := q10.next hb11
    clear hB10 hb11 a10 b10 p10 q10 A0 A1 B0 B1 P0 P1 Q0 Q1
    have A0 := a11.c0
    have A1 := a11.c1
    have B0 := b11.c0
    have B1 := b11.c1
    have P0 := p11.c0
    have P1 := p11.c1
    have Q0 := q11.c0
    have Q1 := q11.c1
    go_wp2_with fail
    refine (l3 W11).mono ?_
    rintro e W12 ⟨rfl, hb12⟩
    have hB12 := hB11.trans (hb12.mono hB11.size)
    have a12 := a11.next hb12
    have b12 := b11.next hb12
    have p12 := p11.next hb12
    have q12 := q11.next hb12
    clear hB11 hb12 a11 b11 p11 q11 A0 A1 B0 B1 P0 P1 Q0 Q1
    have A0 := a12.c0
    have A1 := a12.c1
    have B0 := b12.c0
    have B1 := b12.c1
    have P0 := p12.c0
    have P1 := p12.c1
    have Q0 := q12.c0
    have Q1 := q12.c1
    go_wp2
    go_ret
    exact ⟨rfl, hB12⟩
  · go_enter Try.func3, Try.ntmps3
    go_wp2_with fail
    generalize ((w.alloc (.cells #[.int .u32 s, .int .u32 n] 24)).alloc (.cells #[.int .u32 t, .int .u32 o] 24)) = W1 at *
    refine (d1 W1).mono ?_
    rintro e W2 ⟨rfl, hb2⟩
    have hB2 := hB1.trans (hb2.mono hB1.size)
    have a2 := a1.next hb2
    have b2 := b1.next hb2
    clear hB1 hb2 a1 b1
    have a3 := a2.alloc (.cells #[.int .u32 S, .int .u32 N] 24)
    have b3 := b2.alloc (.cells #[.int .u32 S, .int .u32 N] 24)
    have p3 := Tp.new W2 S N
    have hB3 := hB2.alloc hB2.size (.cells #[.int .u32 S, .int .u32 N] 24)
    clear hB2 a2 b2
    have A0 := a3.c0
    have A1 := a3.c1
    have B0 := b3.c0
    have B1 := b3.c1
    have P0 := p3.c0
    have P1 := p3.c1
    go_wp2_with fail
    generalize (W2.alloc (.cells #[.int .u32 S, .int .u32 N] 24)) = W3 at *
    generalize W2.heap.size = h at *
    refine (d2 W3).mono ?_
    rintro e W4 ⟨rfl, hb4⟩
    have hB4 := hB3.trans (hb4.mono hB3.size)
    have a4 := a3.next hb4
    have b4 := b3.next hb4
    have p4 := p3.next hb4
    clear hB3 hb4 a3 b3 p3 A0 A1 B0 B1 P0 P1
    have a5 := a4.alloc (.cells #[.int .u32 T, .int .u32 O] 24)
    have b5 := b4.alloc (.cells #[.int .u32 T, .int .u32 O] 24)
    have p5 := p4.alloc (.cells #[.int .u32 T, .int .u32 O] 24)
    have q5 := Tp.new W4 T O
    have hB5 := hB4.alloc hB4.size (.cells #[.int .u32 T, .int .u32 O] 24)
    clear hB4 a4 b4 p4
    have A0 := a5.c0
    have A1 := a5.c1
    have B0 := b5.c0
    have B1 := b5.c1
    have P0 := p5.c0
    have P1 := p5.c1
    have Q0 := q5.c0
    have Q1 := q5.c1
    go_wp2_with fail
    generalize (W4.alloc (.cells #[.int .u32 T, .int .u32 O] 24)) = W5 at *
    generalize W4.heap.size = h' at *
    refine (c2 W5).mono ?_
    rintro e W6 ⟨rfl, hb6⟩
    have hB6 := hB5.trans (hb6.mono hB5.size)
    have a6 := a5.next hb6
    have b6 := b5.next hb6
    have p6 := p5.next hb6
    have q6 := q5.next hb6
    clear hB5 hb6 a5 b5 p5 q5 A0 A1 B0 B1 P0 P1 Q0 Q1
    have A0 := a6.c0
    have A1 := a6.c1
    have B0 := b6.c0
    have B1 := b6.c1
    have P0 := p6.c0
    have P1 := p6.c1
    have Q0 := q6.c0
    have Q1 := q6.c1
    go_wp2_with fail
    refine (c3 W6).mono ?_
    rintro e W7 ⟨rfl, hb7⟩
    have hB7 := hB6.trans (hb7.mono hB6.size)
    have a7 := a6.next hb7
    have b7 := b6.next hb7
    have p7 := p6.next hb7
    have q7 := q6.next hb7
    clear hB6 hb7 a6 b6 p6 q6 A0 A1 B0 B1 P0 P1 Q0 Q1
    have A0 := a7.c0
    have A1 := a7.c1
    have B0 := b7.c0
    have B1 := b7.c1
    have P0 := p7.c0
    have P1 := p7.c1
    have Q0 := q7.c0
    have Q1 := q7.c1
    go_wp2_with fail
    refine (alive_any W7).mono ?_
    rintro e W8 ⟨rfl, hb8⟩
    have hB8 := hB7.trans (hb8.mono hB7.size)
    have a8 := a7.next hb8
    have b8 := b7.next hb8
    have p8 := p7.next hb8
    have q8 := q7.next hb8
    clear hB7 hb8 a7 b7 p7 q7 A0 A1 B0 B1 P0 P1 Q0 Q1
    have A0 := a8.c0
    have A1 := a8.c1
    have B0 := b8.c0
    have B1 := b8.c1
    have P0 := p8.c0
    have P1 := p8.c1
    have Q0 := q8.c0
    have Q1 := q8.c1
    go_wp2
    go_ret
    exact ⟨rfl, hB8⟩
  · go_enter Try.func3, Try.ntmps3
    go_wp2_with fail
    generalize ((w.alloc (.cells #[.int .u32 s, .int .u32 n] 24)).alloc (.cells #[.int .u32 t, .int .u32 o] 24)) = W1 at *
    refine (d1 W1).mono ?_
    rintro e W2 ⟨rfl, hb2⟩
    have hB2 := hB1.trans (hb2.mono hB1.size)
    have a2 := a1.next hb2
    have b2 := b1.next hb2
    clear hB1 hb2 a1 b1
    have a3 := a2.alloc (.cells #[.int .u32 S, .int .u32 N] 24)
    have b3 := b2.alloc (.cells #[.int .u32 S, .int .u32 N] 24)
    have p3 := Tp.new W2 S N
    have hB3 := hB2.alloc hB2.size (.cells #[.int .u32 S, .int .u32 N] 24)
    clear hB2 a2 b2
    have A0 := a3.c0
    have A1 := a3.c1
    have B0 := b3.c0
    have B1 := b3.c1
    have P0 := p3.c0
    have P1 := p3.c1
    go_wp2_with fail
    generalize (W2.alloc (.cells #[.int .u32 S, .int .u32 N] 24)) = W3 at *
    generalize W2.heap.size = h at *
    refine (d2 W3).mono ?_
    rintro e W4 ⟨rfl, hb4⟩
    have hB4 := hB3.trans (hb4.mono hB3.size)
    have a4 := a3.next hb4
    have b4 := b3.next hb4
    have p4 := p3.next hb4
    clear hB3 hb4 a3 b3 p3 A0 A1 B0 B1 P0 P1
    have a5 := a4.alloc (.cells #[.int .u32 T, .int .u32 O] 24)
    have b5 := b4.alloc (.cells #[.int .u32 T, .int .u32 O] 24)
    have p5 := p4.alloc (.cells #[.int .u32 T, .int .u32 O] 24)
    have q5 := Tp.new W4 T O
    have hB5 := hB4.alloc hB4.size (.cells #[.int .u32 T, .int .u32 O] 24)
    clear hB4 a4 b4 p4
    have A0 := a5.c0
    have A1 := a5.c1
    have B0 := b5.c0
    have B1 := b5.c1
    have P0 := p5.c0
    have P1 := p5.c1
    have Q0 := q5.c0
    have Q1 := q5.c1
    go_wp2_with fail
    generalize (W4.alloc (.cells #[.int .u32 T, .int .u32 O] 24)) = W5 at *
    generalize W4.heap.size = h' at *
    refine (c2 W5).mono ?_
    rintro e W6 ⟨rfl, hb6⟩
    have hB6 := hB5.trans (hb6.mono hB5.size)
    have a6 := a5.next hb6
    have b6 := b5.next hb6
    have p6 := p5.next hb6
    have q6 := q5.next hb6
    clear hB5 hb6 a5 b5 p5 q5 A0 A1 B0 B1 P0 P1 Q0 Q1
    have A0 := a6.c0
    have A1 := a6.c1
    have B0 := b6.c0
    have B1 := b6.c1
    have P0 := p6.c0
    have P1 := p6.c1
    have Q0 := q6.c0
    have Q1 := q6.c1
    go_wp2_with fail
    refine (c3 W6).mono ?_
    rintro e W7 ⟨rfl, hb7⟩
    have hB7 := hB6.trans (hb7.mono hB6.size)
    have a7 := a6.next hb7
    have b7 := b6.next hb7
    have p7 := p6.next hb7
    have q7 := q6.next hb7
    clear hB6 hb7 a6 b6 p6 q6 A0 A1 B0 B1 P0 P1 Q0 Q1
    have A0 := a7.c0
    have A1 := a7.c1
    have B0 := b7.c0
    have B1 := b7.c1
    have P0 := p7.c0
    have P1 := p7.c1
    have Q0 := q7.c0
    have Q1 := q7.c1
    go_wp2_with fail
    refine (l2 W7).mono ?_
    rintro e W8 ⟨rfl, hb8⟩
    have hB8 := hB7.trans (hb8.mono hB7.size)
    have a8 := a7.next hb8
    have b8 := b7.next hb8
    have p8 := p7.next hb8
    have q8 := q7.next hb8
    clear hB7 hb8 a7 b7 p7 q7 A0 A1 B0 B1 P0 P1 Q0 Q1
    have A0 := a8.c0
    have A1 := a8.c1
    have B0 := b8.c0
    have B1 := b8.c1
    have P0 := p8.c0
    have P1 := p8.c1
    have Q0 := q8.c0
    have Q1 := q8.c1
    go_wp2_with fail
    refine (alive_any W8).mono ?_
    rintro e W9 ⟨rfl, hb9⟩
    have hB9 := hB8.trans (hb9.mono hB8.size)
    have a9 := a8.next hb9
    have b9 := b8.next hb9
    have p9 := p8.next hb9
    have q9 := q8.next hb9
    clear hB8 hb9 a8 b8 p8 q8 A0 A1 B0 B1 P0 P1 Q0 Q1
    have A0 := a9.c0
    have A1 := a9.c1
    have B0 := b9.c0
    have B1 := b9.c1
    have P0 := p9.c0
    have P1 := p9.c1
    have Q0 := q9.c0
    have Q1 := q9.c1
    go_wp2
    go_ret
    exact ⟨rfl, hB9⟩
  · go_enter Try.func3, Try.ntmps3
    go_wp2_with fail
    generalize ((w.alloc (.cells #[.int .u32 s, .int .u32 n] 24)).alloc (.cells #[.int .u32 t, .int .u32 o] 24)) = W1 at *
    refine (d1 W1).mono ?_
    rintro e W2 ⟨rfl, hb2⟩
    have hB2 := hB1.trans (hb2.mono hB1.size)
    have a2 := a1.next hb2
    have b2 := b1.next hb2
    clear hB1 hb2 a1 b1
    have a3 := a2.alloc (.cells #[.int .u32 S, .int .u32 N] 24)
    have b3 := b2.alloc (.cells #[.int .u32 S, .int .u32 N] 24)
    have p3 := Tp.new W2 S N
    have hB3 := hB2.alloc hB2.size (.cells #[.int .u32 S, .int .u32 N] 24)
    clear hB2 a2 b2
    have A0 := a3.c0
    have A1 := a3.c1
    have B0 := b3.c0
    have B1 := b3.c1
    have P0 := p3.c0
    have P1 := p3.c1
    go_wp2_with fail
    generalize (W2.alloc (.cells #[.int .u32 S, .int .u32 N] 24)) = W3 at *
    generalize W2.heap.size = h at *
    refine (d2 W3).mono ?_
    rintro e W4 ⟨rfl, hb4⟩
    have hB4 := hB3.trans (hb4.mono hB3.size)
    have a4 := a3.next hb4
    have b4 := b3.next hb4
    have p4 := p3.next hb4
    clear hB3 hb4 a3 b3 p3 A0 A1 B0 B1 P0 P1
    have a5 := a4.alloc (.cells #[.int .u32 T, .int .u32 O] 24)
    have b5 := b4.alloc (.cells #[.int .u32 T, .int .u32 O] 24)
    have p5 := p4.alloc (.cells #[.int .u32 T, .int .u32 O] 24)
    have q5 := Tp.new W4 T O
    have hB5 := hB4.alloc hB4.size (.cells #[.int .u32 T, .int .u32 O] 24)
    clear hB4 a4 b4 p4
    have A0 := a5.c0
    have A1 := a5.c1
    have B0 := b5.c0
    have B1 := b5.c1
    have P0 := p5.c0
    have P1 := p5.c1
    have Q0 := q5.c0
    have Q1 := q5.c1
    go_wp2_with fail
    generalize (W4.alloc (.cells #[.int .u32 T, .int .u32 O] 24)) = W5 at *
    generalize W4.heap.size = h' at *
    refine (c2 W5).mono ?_
    rintro e W6 ⟨rfl, hb6⟩
    have hB6 := hB5.trans (hb6.mono hB5.size)
    have a6 := a5.next hb6
    have b6 := b5.next hb6
    have p6 := p5.next hb6
    have q6 := q5.next hb6
    clear hB5 hb6 a5 b5 p5 q5 A0 A1 B0 B1 P0 P1 Q0 Q1
    have A0 := a6.c0
    have A1 := a6.c1
    have B0 := b6.c0
    have B1 := b6.c1
    have P0 := p6.c0
    have P1 := p6.c1
    have Q0 := q6.c0
    have Q1 := q6.c1
    go_wp2_with fail
    refine (c3 W6).mono ?_
    rintro e W7 ⟨rfl, hb7⟩
    have hB7 := hB6.trans (hb7.mono hB6.size)
    have a7 := a6.next hb7
    have b7 := b6.next hb7
    have p7 := p6.next hb7
    have q7 := q6.next hb7
    clear hB6 hb7 a6 b6 p6 q6 A0 A1 B0 B1 P0 P1 Q0 Q1
    have A0 := a7.c0
    have A1 := a7.c1
    have B0 := b7.c0
    have B1 := b7.c1
    have P0 := p7.c0
    have P1 := p7.c1
    have Q0 := q7.c0
    have Q1 := q7.c1
    go_wp2_with fail
    refine (l2 W7).mono ?_
    rintro e W8 ⟨rfl, hb8⟩
    have hB8 := hB7.trans (hb8.mono hB7.size)
    have a8 := a7.next hb8
    have b8 := b7.next hb8
    have p8 := p7.next hb8
    have q8 := q7.next hb8
    clear hB7 hb8 a7 b7 p7 q7 A0 A1 B0 B1 P0 P1 Q0 Q1
    have A0 := a8.c0
    have A1 := a8.c1
    have B0 := b8.c0
    have B1 := b8.c1
    have P0 := p8.c0
    have P1 := p8.c1
    have Q0 := q8.c0
    have Q1 := q8.c1
    go_wp2_with fail
    refine (alive_any W8).mono ?_
    rintro e W9 ⟨rfl, hb9⟩
    have hB9 := hB8.trans (hb9.mono hB8.size)
    have a9 := a8.next hb9
    have b9 := b8.next hb9
    have p9 := p8.next hb9
    have q9 := q8.next hb9
    clear hB8 hb9 a8 b8 p8 q8 A0 A1 B0 B1 P0 P1 Q0 Q1
    have A0 := a9.c0
    have A1 := a9.c1
    have B0 := b9.c0
    have B1 := b9.c1
    have P0 := p9.c0
    have P1 := p9.c1
    have Q0 := q9.c0
    have Q1 := q9.c1
    go_wp2
    go_ret
    exact ⟨rfl, hB9⟩
  · omega
end Go.Proofs.Ytjognjggampejab
