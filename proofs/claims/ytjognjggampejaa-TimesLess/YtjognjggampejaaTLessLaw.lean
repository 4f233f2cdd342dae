/- The walk of 'TimesLess': true for any two points of time; nothing that was there turns. -/
import Derived.Test.YtjognjggampejaaTimeLess
import Derived.Test.YtjognjggampejaaRefTChk
import Derived.Test.YtjognjggampejaaRefTLess
namespace Go.Proofs.Ytjognjggampejaa
set_option linter.unusedVariables false
open Go.RowKit

set_option maxRecDepth 100000 in
set_option maxHeartbeats 1000000 in
theorem tless_walk (s n t o : Int) (w : World) :
    Calls Try.prog 3 #[.agg #[.int .u32 s, .int .u32 n], .agg #[.int .u32 t, .int .u32 o]] w fun e w' => e = .returned (.bool true) ∧ Below w.heap.size w w' := by
  have a0 := Tp.new w s n
  have hB0 : Below w.heap.size w (w.alloc (.cells #[.int .u32 s, .int .u32 n] 24)) := (Below.refl _ _).alloc (Nat.le_refl _) _
  have a1 := a0.alloc (.cells #[.int .u32 t, .int .u32 o] 24)
  have b1 := Tp.new (w.alloc (.cells #[.int .u32 s, .int .u32 n] 24)) t o
  rw [show (w.alloc (.cells #[.int .u32 s, .int .u32 n] 24)).heap.size = w.heap.size + 1 by simp] at b1
  have hB1 := hB0.alloc hB0.size (.cells #[.int .u32 t, .int .u32 o] 24)
  have h1 := fun w => tcheck_any s n w
  have h2 := fun w => reftcheck_any s n w
  have h3 := fun w => tless_any s n t o w
  have h4 := fun w => reftless_any s n t o w
  generalize tok n = q at *
  generalize tls s n t o = r at *
  have hq : (q == q) = true := by simp
  have hr : (r == r) = true := by simp
  go_enter Try.func3, Try.ntmps3
  go_wp2_with fail
  have a2 := a1.next (below_draw _)
  have b2 := b1.next (below_draw _)
  have hB2 := hB1.trans ((below_draw _).mono hB1.size)
  clear a0 hB0 a1 b1 hB1
  have S2 := And.intro a2.c0 (And.intro a2.c1 (And.intro b2.c0 b2.c1))
  go_region_held3 (fun w' => w'.cell? ⟨w.heap.size, 0, none⟩ = some (.int .u32 s) ∧ w'.cell? ⟨w.heap.size, 1, none⟩ = some (.int .u32 n) ∧ w'.cell? ⟨w.heap.size + 1, 0, none⟩ = some (.int .u32 t) ∧ w'.cell? ⟨w.heap.size + 1, 1, none⟩ = some (.int .u32 o)) (first | with_reducible exact S6 | with_reducible exact S5 | with_reducible exact S4 | with_reducible exact S3 | with_reducible exact S2) (first
    | (go_at_call 11; refine (h4 _).mono ?_; rintro e W6 ⟨rfl, hb6⟩; have a6 := a5.next hb6; have b6 := b5.next hb6; have hB6 := hB5.trans (hb6.mono hB5.size); have S6 := And.intro a6.c0 (And.intro a6.c1 (And.intro b6.c0 b6.c1)))
    | (go_at_call 10; refine (h3 _).mono ?_; rintro e W5 ⟨rfl, hb5⟩; have a5 := a4.next hb5; have b5 := b4.next hb5; have hB5 := hB4.trans (hb5.mono hB4.size); have S5 := And.intro a5.c0 (And.intro a5.c1 (And.intro b5.c0 b5.c1)))
    | (go_at_call 9; refine (h2 _).mono ?_; rintro e W4 ⟨rfl, hb4⟩; have a4 := a3.next hb4; have b4 := b3.next hb4; have hB4 := hB3.trans (hb4.mono hB3.size); have S4 := And.intro a4.c0 (And.intro a4.c1 (And.intro b4.c0 b4.c1)))
    | (go_at_call 8; refine (h1 _).mono ?_; rintro e W3 ⟨rfl, hb3⟩; have a3 := a2.next hb3; have b3 := b2.next hb3; have hB3 := hB2.trans (hb3.mono hB2.size); have S3 := And.intro a3.c0 (And.intro a3.c1 (And.intro b3.c0 b3.c1))))
  all_goals
    clear S2 S3 S4 S5 S6 a2 b2 a3 b3 a4 b4 a5 b5 a6 b6 hB2 hB3 hB4 hB5 hb3 hb4 hb5 hb6 h1 h2 h3 h4
    go_wp2
    go_ret
    exact ⟨rfl, hB6⟩
end Go.Proofs.Ytjognjggampejaa
