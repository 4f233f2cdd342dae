/- The walk of 'TimesOrder': true for any three points of time; nothing that was there turns. -/
import Derived.Test.YtjognjggampejaaTAlive
namespace Go.Proofs.Ytjognjggampejaa
set_option linter.unusedVariables false
open Go.RowKit

theorem order_says (s n t o u p : Int) : (tls s n t o = false ∧ tls t o s n = false ∧ (!((s == t) && (n == o))) = false) ∨ (tls s n t o = false ∧ tls t o s n = true ∧ (!((s == t) && (n == o))) = true) ∨
    (tls s n t o = true ∧ tls t o s n = false ∧ (!((s == t) && (n == o))) = true ∧ tls t o u p = false) ∨ (tls s n t o = true ∧ tls t o s n = false ∧ (!((s == t) && (n == o))) = true ∧ tls t o u p = true ∧ tls s n u p = true) := by
  have f : ∀ a b c d : Int, tls a b c d = false ↔ ¬ (a < c ∨ (a = c ∧ b < d)) := fun a b c d => by rw [← tls_iff]; simp
  have g : (!((s == t) && (n == o))) = true ↔ ¬ (s = t ∧ n = o) := by by_cases h1 : s = t <;> by_cases h2 : n = o <;> simp [h1, h2]
  have g' : (!((s == t) && (n == o))) = false ↔ (s = t ∧ n = o) := by simp
  rw [g, g', f, f, f, tls_iff, tls_iff, tls_iff, tls_iff]
  omega

theorem tls_self (s n : Int) : tls s n s n = false := by simp [tls]

set_option maxRecDepth 100000 in
set_option maxHeartbeats 2000000 in
theorem torder_walk (s n t o u p : Int) (w : World) :
    Calls Try.prog 6 #[.agg #[.int .u32 s, .int .u32 n], .agg #[.int .u32 t, .int .u32 o], .agg #[.int .u32 u, .int .u32 p]] w fun e w' => e = .returned (.bool true) ∧ Below w.heap.size w w' := by
  have a1 := ((Tp.new w s n).alloc (.cells #[.int .u32 t, .int .u32 o] 24)).alloc (.cells #[.int .u32 u, .int .u32 p] 24)
  have b1 := (Tp.new (w.alloc (.cells #[.int .u32 s, .int .u32 n] 24)) t o).alloc (.cells #[.int .u32 u, .int .u32 p] 24)
  have c1 := Tp.new ((w.alloc (.cells #[.int .u32 s, .int .u32 n] 24)).alloc (.cells #[.int .u32 t, .int .u32 o] 24)) u p
  rw [show (w.alloc (.cells #[.int .u32 s, .int .u32 n] 24)).heap.size = w.heap.size + 1 by simp] at b1
  rw [show ((w.alloc (.cells #[.int .u32 s, .int .u32 n] 24)).alloc (.cells #[.int .u32 t, .int .u32 o] 24)).heap.size = w.heap.size + 1 + 1 by simp] at c1
  have hB1 : Below w.heap.size w (((w.alloc (.cells #[.int .u32 s, .int .u32 n] 24)).alloc (.cells #[.int .u32 t, .int .u32 o] 24)).alloc (.cells #[.int .u32 u, .int .u32 p] 24)) := (((Below.refl _ _).alloc (Nat.le_refl _) _).alloc (by simp) _).alloc (by simp; omega) _
  have l1 := fun w => tless_any s n t o w
  have l2 := fun w => tless_any t o s n w
  have l3 := fun w => tless_any s n s n w
  have l4 := fun w => tless_any t o u p w
  have l5 := fun w => tless_any s n u p w
  have hne := fun w => time_neq s n t o w
  rw [tls_self] at l3
  have hc := order_says s n t o u p
  generalize tls s n t o = x at *
  generalize tls t o s n = y at *
  generalize tls t o u p = z at *
  generalize tls s n u p = v at *
  generalize (!((s == t) && (n == o))) = q at *
  rcases hc with ⟨rfl, rfl, rfl⟩ | ⟨rfl, rfl, rfl⟩ | ⟨rfl, rfl, rfl, rfl⟩ | ⟨rfl, rfl, rfl, rfl, rfl⟩
  · go_enter Try.func6, Try.ntmps6
    go_wp2_with fail
    generalize (((w.alloc (.cells #[.int .u32 s, .int .u32 n] 24)).alloc (.cells #[.int .u32 t, .int .u32 o] 24)).alloc (.cells #[.int .u32 u, .int .u32 p] 24)) = W1 at *
    refine (l1 W1).mono ?_
    rintro e W2 ⟨rfl, hb2⟩
    have hB2 := hB1.trans (hb2.mono hB1.size)
    have a2 := a1.next hb2
    have b2 := b1.next hb2
    have c2 := c1.next hb2
    clear hB1 hb2 a1 b1 c1
    have A0 := a2.c0
    have A1 := a2.c1
    have B0 := b2.c0
    have B1 := b2.c1
    have C0 := c2.c0
    have C1 := c2.c1
    go_wp2_with fail
    refine (l2 W2).mono ?_
    rintro e W3 ⟨rfl, hb3⟩
    have hB3 := hB2.trans (hb3.mono hB2.size)
    have a3 := a2.next hb3
    have b3 := b2.next hb3
    have c3 := c2.next hb3
    clear hB2 hb3 a2 b2 c2 A0 A1 B0 B1 C0 C1
    have A0 := a3.c0
    have A1 := a3.c1
    have B0 := b3.c0
    have B1 := b3.c1
    have C0 := c3.c0
    have C1 := c3.c1
    go_wp2_with fail
    refine (alive_any W3).mono ?_
    rintro e W4 ⟨rfl, hb4⟩
    have hB4 := hB3.trans (hb4.mono hB3.size)
    have a4 := a3.next hb4
    have b4 := b3.next hb4
    have c4 := c3.next hb4
    clear hB3 hb4 a3 b3 c3 A0 A1 B0 B1 C0 C1
    have A0 := a4.c0
    have A1 := a4.c1
    have B0 := b4.c0
    have B1 := b4.c1
    have C0 := c4.c0
    have C1 := c4.c1
    go_wp2_with fail
    refine (l3 W4).mono ?_
    rintro e W5 ⟨rfl, hb5⟩
    have hB5 := hB4.trans (hb5.mono hB4.size)
    have a5 := a4.next hb5
    have b5 := b4.next hb5
    have c5 := c4.next hb5
    clear hB4 hb5 a4 b4 c4 A0 A1 B0 B1 C0 C1
    have A0 := a5.c0
    have A1 := a5.c1
    have B0 := b5.c0
    have B1 := b5.c1
    have C0 := c5.c0
    have C1 := c5.c1
    go_wp2
    go_ret
    exact ⟨rfl, hB5⟩
  · go_enter Try.func6, Try.ntmps6
    go_wp2_with fail
    generalize (((w.alloc (.cells #[.int .u32 s, .int .u32 n] 24)).alloc (.cells #[.int .u32 t, .int .u32 o] 24)).alloc (.cells #[.int .u32 u, .int .u32 p] 24)) = W1 at *
    refine (l1 W1).mono ?_
    rintro e W2 ⟨rfl, hb2⟩
    have hB2 := hB1.trans (hb2.mono hB1.size)
    have a2 := a1.next hb2
    have b2 := b1.next hb2
    have c2 := c1.next hb2
    clear hB1 hb2 a1 b1 c1
    have A0 := a2.c0
    have A1 := a2.c1
    have B0 := b2.c0
    have B1 := b2.c1
    have C0 := c2.c0
    have C1 := c2.c1
    go_wp2_with fail
    refine (l2 W2).mono ?_
    rintro e W3 ⟨rfl, hb3⟩
    have hB3 := hB2.trans (hb3.mono hB2.size)
    have a3 := a2.next hb3
    have b3 := b2.next hb3
    have c3 := c2.next hb3
    clear hB2 hb3 a2 b2 c2 A0 A1 B0 B1 C0 C1
    have A0 := a3.c0
    have A1 := a3.c1
    have B0 := b3.c0
    have B1 := b3.c1
    have C0 := c3.c0
    have C1 := c3.c1
    go_wp2_with fail
    refine (alive_any W3).mono ?_
    rintro e W4 ⟨rfl, hb4⟩
    have hB4 := hB3.trans (hb4.mono hB3.size)
    have a4 := a3.next hb4
    have b4 := b3.next hb4
    have c4 := c3.next hb4
    clear hB3 hb4 a3 b3 c3 A0 A1 B0 B1 C0 C1
    have A0 := a4.c0
    have A1 := a4.c1
    have B0 := b4.c0
    have B1 := b4.c1
    have C0 := c4.c0
    have C1 := c4.c1
    go_wp2_with fail
    refine (l3 W4).mono ?_
    rintro e W5 ⟨rfl, hb5⟩
    have hB5 := hB4.trans (hb5.mono hB4.size)
    have a5 := a4.next hb5
    have b5 := b4.next hb5
    have c5 := c4.next hb5
    clear hB4 hb5 a4 b4 c4 A0 A1 B0 B1 C0 C1
    have A0 := a5.c0
    have A1 := a5.c1
    have B0 := b5.c0
    have B1 := b5.c1
    have C0 := c5.c0
    have C1 := c5.c1
    go_wp2
    go_ret
    exact ⟨rfl, hB5⟩
  · go_enter Try.func6, Try.ntmps6
    go_wp2_with fail
    generalize (((w.alloc (.cells #[.int .u32 s, .int .u32 n] 24)).alloc (.cells #[.int .u32 t, .int .u32 o] 24)).alloc (.cells #[.int .u32 u, .int .u32 p] 24)) = W1 at *
    refine (l1 W1).mono ?_
    rintro e W2 ⟨rfl, hb2⟩
    have hB2 := hB1.trans (hb2.mono hB1.size)
    have a2 := a1.next hb2
    have b2 := b1.next hb2
    have c2 := c1.next hb2
    clear hB1 hb2 a1 b1 c1
    have A0 := a2.c0
    have A1 := a2.c1
    have B0 := b2.c0
    have B1 := b2.c1
    have C0 := c2.c0
    have C1 := c2.c1
    go_wp2_with fail
    refine (l2 W2).mono ?_
    rintro e W3 ⟨rfl, hb3⟩
    have hB3 := hB2.trans (hb3.mono hB2.size)
    have a3 := a2.next hb3
    have b3 := b2.next hb3
    have c3 := c2.next hb3
    clear hB2 hb3 a2 b2 c2 A0 A1 B0 B1 C0 C1
    have A0 := a3.c0
    have A1 := a3.c1
    have B0 := b3.c0
    have B1 := b3.c1
    have C0 := c3.c0
    have C1 := c3.c1
    go_wp2_with fail
    refine (alive_any W3).mono ?_
    rintro e W4 ⟨rfl, hb4⟩
    have hB4 := hB3.trans (hb4.mono hB3.size)
    have a4 := a3.next hb4
    have b4 := b3.next hb4
    have c4 := c3.next hb4
    clear hB3 hb4 a3 b3 c3 A0 A1 B0 B1 C0 C1
    have A0 := a4.c0
    have A1 := a4.c1
    have B0 := b4.c0
    have B1 := b4.c1
    have C0 := c4.c0
    have C1 := c4.c1
    go_wp2_with fail
    refine (l3 W4).mono ?_
    rintro e W5 ⟨rfl, hb5⟩
    have hB5 := hB4.trans (hb5.mono hB4.size)
    have a5 := a4.next hb5
    have b5 := b4.next hb5
    have c5 := c4.next hb5
    clear hB4 hb5 a4 b4 c4 A0 A1 B0 B1 C0 C1
    have A0 := a5.c0
    have A1 := a5.c1
    have B0 := b5.c0
    have B1 := b5.c1
    have C0 := c5.c0
    have C1 := c5.c1
    go_wp2_with fail
    refine (l4 W5).mono ?_
    rintro e W6 ⟨rfl, hb6⟩
    have hB6 := hB5.trans (hb6.mono hB5.size)
    have a6 := a5.next hb6
    have b6 := b5.next hb6
    have c6 := c5.next hb6
    clear hB5 hb6 a5 b5 c5 A0 A1 B0 B1 C0 C1
    have A0 := a6.c0
    have A1 := a6.c1
    have B0 := b6.c0
    have B1 := b6.c1
    have C0 := c6.c0
    have C1 := c6.c1
    go_wp2
    go_ret
    exact ⟨rfl, hB6⟩
  · go_enter Try.func6, Try.ntmps6
    go_wp2_with fail
    generalize (((w.alloc (.cells #[.int .u32 s, .int .u32 n] 24)).alloc (.cells #[.int .u32 t, .int .u32 o] 24)).alloc (.cells #[.int .u32 u, .int .u32 p] 24)) = W1 at *
    refine (l1 W1).mono ?_
    rintro e W2 ⟨rfl, hb2⟩
    have hB2 := hB1.trans (hb2.mono hB1.size)
    have a2 := a1.next hb2
    have b2 := b1.next hb2
    have c2 := c1.next hb2
    clear hB1 hb2 a1 b1 c1
    have A0 := a2.c0
    have A1 := a2.c1
    have B0 := b2.c0
    have B1 := b2.c1
    have C0 := c2.c0
    have C1 := c2.c1
    go_wp2_with fail
    refine (l2 W2).mono ?_
    rintro e W3 ⟨rfl, hb3⟩
    have hB3 := hB2.trans (hb3.mono hB2.size)
    have a3 := a2.next hb3
    have b3 := b2.next hb3
    have c3 := c2.next hb3
    clear hB2 hb3 a2 b2 c2 A0 A1 B0 B1 C0 C1
    have A0 := a3.c0
    have A1 := a3.c1
    have B0 := b3.c0
    have B1 := b3.c1
    have C0 := c3.c0
    have C1 := c3.c1
    go_wp2_with fail
    refine (alive_any W3).mono ?_
    rintro e W4 ⟨rfl, hb4⟩
    have hB4 := hB3.trans (hb4.mono hB3.size)
    have a4 := a3.next hb4
    have b4 := b3.next hb4
    have c4 := c3.next hb4
    clear hB3 hb4 a3 b3 c3 A0 A1 B0 B1 C0 C1
    have A0 := a4.c0
    have A1 := a4.c1
    have B0 := b4.c0
    have B1 := b4.c1
    have C0 := c4.c0
    have C1 := c4.c1
    go_wp2_with fail
    refine (l3 W4).mono ?_
    rintro e W5 ⟨rfl, hb5⟩
    have hB5 := hB4.trans (hb5.mono hB4.size)
    have a5 := a4.next hb5
    have b5 := b4.next hb5
    have c5 := c4.next hb5
    clear hB4 hb5 a4 b4 c4 A0 A1 B0 B1 C0 C1
    have A0 := a5.c0
    have A1 := a5.c1
    have B0 := b5.c0
    have B1 := b5.c1
    have C0 := c5.c0
    have C1 := c5.c1
    go_wp2_with fail
    refine (l4 W5).mono ?_
    rintro e W6 ⟨rfl, hb6⟩
    have hB6 := hB5.trans (hb6.mono hB5.size)
    have a6 := a5.next hb6
    have b6 := b5.next hb6
    have c6 := c5.next hb6
    clear hB5 hb6 a5 b5 c5 A0 A1 B0 B1 C0 C1
    have A0 := a6.c0
    have A1 := a6.c1
    have B0 := b6.c0
    have B1 := b6.c1
    have C0 := c6.c0
    have C1 := c6.c1
    go_wp2_with fail
    refine (l5 W6).mono ?_
    rintro e W7 ⟨rfl, hb7⟩
    have hB7 := hB6.trans (hb7.mono hB6.size)
    have a7 := a6.next hb7
    have b7 := b6.next hb7
    have c7 := c6.next hb7
    clear hB6 hb7 a6 b6 c6 A0 A1 B0 B1 C0 C1
    have A0 := a7.c0
    have A1 := a7.c1
    have B0 := b7.c0
    have B1 := b7.c1
    have C0 := c7.c0
    have C1 := c7.c1
    go_wp2
    go_ret
    exact ⟨rfl, hB7⟩
end Go.Proofs.Ytjognjggampejaa
