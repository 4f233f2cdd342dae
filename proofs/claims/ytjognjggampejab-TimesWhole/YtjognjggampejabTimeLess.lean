/- 'begun', 'Less' of the program: points of time; nothing that was there turns. -/
import Derived.Test.YtjognjggampejabTimeEq
namespace Go.Proofs.Ytjognjggampejab
set_option linter.unusedVariables false
open Go.RowKit

set_option maxRecDepth 100000 in
set_option maxHeartbeats 400000 in
theorem begun_any (s n : Int) (w : World) : Calls Try.prog 15 #[.agg #[.int .u32 s, .int .u32 n]] w fun e w' => e = .returned (.agg #[.int .u32 s, .int .u32 0]) ∧ Below w.heap.size w w' := by
  have hB0 : Below w.heap.size w (w.alloc (.cells #[.int .u32 s, .int .u32 n] 24)) := (Below.refl _ _).alloc (Nat.le_refl _) _
  go_enter Try.func15, Try.ntmps15
  have hB1 := hB0.alloc hB0.size (.cells #[.int .u32 s, .int .u32 0] 24)
  have hh1 := World.alloc_heap_new (w.alloc (.cells #[.int .u32 s, .int .u32 n] 24)) (.cells #[.int .u32 s, .int .u32 0] 24)
  rw [show (w.alloc (.cells #[.int .u32 s, .int .u32 n] 24)).heap.size = w.heap.size + 1 by simp] at hh1
  go_wp2
  exact bodyPost_ret (results_cell_row (p := 2) (ty := 24) rfl _ _ (w.heap.size + 1) 24 _ (0, 0) _ (by rfl) hh1 Try.underlying24 rfl (by kernel_rfl)) rfl ⟨rfl, hB1⟩

set_option maxRecDepth 100000 in
set_option maxHeartbeats 1000000 in
theorem tless_any (s n t o : Int) (w : World) : Calls Try.prog 7 #[.agg #[.int .u32 s, .int .u32 n], .agg #[.int .u32 t, .int .u32 o]] w fun e w' => e = .returned (.bool (tls s n t o)) ∧ Below w.heap.size w w' := by
  have a0 := Tp.new w s n
  have hB0 : Below w.heap.size w (w.alloc (.cells #[.int .u32 s, .int .u32 n] 24)) := (Below.refl _ _).alloc (Nat.le_refl _) _
  have a1 := a0.alloc (.cells #[.int .u32 t, .int .u32 o] 24)
  have b1 := Tp.new (w.alloc (.cells #[.int .u32 s, .int .u32 n] 24)) t o
  rw [show (w.alloc (.cells #[.int .u32 s, .int .u32 n] 24)).heap.size = w.heap.size + 1 by simp] at b1
  have hB1 := hB0.alloc hB0.size (.cells #[.int .u32 t, .int .u32 o] 24)
  have heq : ∀ w, (binOp .eql 24 (.agg #[.int .u32 s, .int .u32 0]) (.agg #[.int .u32 t, .int .u32 0])).run Try.prog w = .ok (.bool (s == t)) w := fun w => by rw [time_eql]; simp
  go_enter Try.func7, Try.ntmps7
  go_wp2_with fail
  have a2 := a1.next (below_draw _)
  have b2 := b1.next (below_draw _)
  have hB2 := hB1.trans ((below_draw _).mono hB1.size)
  clear a0 hB0 a1 b1 hB1
  have S1 := And.intro a2.c0 (And.intro a2.c1 (And.intro b2.c0 b2.c1))
  go_region_held3 (fun w' => w'.cell? ⟨w.heap.size, 0, none⟩ = some (.int .u32 s) ∧ w'.cell? ⟨w.heap.size, 1, none⟩ = some (.int .u32 n) ∧ w'.cell? ⟨w.heap.size + 1, 0, none⟩ = some (.int .u32 t) ∧ w'.cell? ⟨w.heap.size + 1, 1, none⟩ = some (.int .u32 o)) (first | with_reducible exact S3 | with_reducible exact S2 | with_reducible exact S1) (first
    | (go_at_call 15; refine (begun_any s n _).mono ?_; rintro e W2 ⟨rfl, hb2⟩; have a3 := a2.next hb2; have b3 := b2.next hb2; have hB3 := hB2.trans (hb2.mono hB2.size); have S2 := And.intro a3.c0 (And.intro a3.c1 (And.intro b3.c0 b3.c1)))
    | (go_at_call 15; refine (begun_any t o _).mono ?_; rintro e W3 ⟨rfl, hb3⟩; have a4 := a3.next hb3; have b4 := b3.next hb3; have hB4 := hB3.trans (hb3.mono hB3.size); have S3 := And.intro a4.c0 (And.intro a4.c1 (And.intro b4.c0 b4.c1))))
  all_goals
    clear S1 S2 S3 a2 b2 hB2 a3 b3 hB3 hb2 hb3
    have A0 := a4.c0
    have A1 := a4.c1
    have B0 := b4.c0
    have B1 := b4.c1
    clear a4 b4
    cases hst : (s == t) with
    | true =>
      rw [hst] at heq
      obtain rfl : s = t := by simpa using hst
      have hl : tls s n s o = decide (n < o) := by simp [tls]
      go_wp2
      go_ret
      exact ⟨by rw [hl]; rfl, hB4⟩
    | false =>
      rw [hst] at heq
      have hl : tls s n t o = decide (s < t) := by
        have : ¬ s = t := by simpa using hst
        simp [tls, this]
      go_wp2
      go_ret
      exact ⟨by rw [hl]; rfl, hB4⟩
end Go.Proofs.Ytjognjggampejab
