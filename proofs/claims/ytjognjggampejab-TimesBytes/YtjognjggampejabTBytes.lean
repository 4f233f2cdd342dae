/- The walk of 'TimesBytes': true for any two points of time; nothing that was there turns. -/
import Derived.Test.YtjognjggampejabTAlive
import Derived.Test.YtjognjggampejabLits
import Derived.Laws.BytesArg
namespace Go.Proofs.Ytjognjggampejab
set_option linter.unusedVariables false
open Go.RowKit

set_option maxRecDepth 100000 in
set_option maxHeartbeats 4000000 in
theorem tbytes_walk (s n t o : Int) (w : World) (s0 : 0 ≤ s) (s1 : s ≤ 4294967295) (n0 : 0 ≤ n) (n1 : n ≤ 4294967295) (t0 : 0 ≤ t) (t1 : t ≤ 4294967295) (o0 : 0 ≤ o) (o1 : o ≤ 4294967295) :
    Calls Try.prog 5 #[.agg #[.int .u32 s, .int .u32 n], .agg #[.int .u32 t, .int .u32 o]] w fun e w' => e = .returned (.bool true) ∧ Below w.heap.size w w' := by
  have a0 := Tp.new w s n
  have hB0 : Below w.heap.size w (w.alloc (.cells #[.int .u32 s, .int .u32 n] 24)) := (Below.refl _ _).alloc (Nat.le_refl _) _
  have a1 := a0.alloc (.cells #[.int .u32 t, .int .u32 o] 24)
  have b1 := Tp.new (w.alloc (.cells #[.int .u32 s, .int .u32 n] 24)) t o
  rw [show (w.alloc (.cells #[.int .u32 s, .int .u32 n] 24)).heap.size = w.heap.size + 1 by simp] at b1
  have hB1 := hB0.alloc hB0.size (.cells #[.int .u32 t, .int .u32 o] 24)
  have p1 := fun w => tput_any s n w s0 s1 n0 n1
  have p2 := fun w => tput_any t o w t0 t1 o0 o1
  have h3 := fun w => tless_any s n t o w
  have hlb := less_tB s0 s1 n0 n1 t0 t1 o0 o1
  have hx8 := tB_length s n
  have hy8 := tB_length t o
  generalize tls s n t o = r at *
  generalize tB s n = xs at *
  generalize tB t o = ys at *
  have hr : (r == r) = true := by simp
  go_enter Try.func5, Try.ntmps5
  go_wp2_with fail
  have a2 := a1.next (below_draw _)
  have b2 := b1.next (below_draw _)
  have hB2 := hB1.trans ((below_draw _).mono hB1.size)
  clear a0 hB0 a1 b1 hB1
  have S2 := And.intro a2.c0 (And.intro a2.c1 (And.intro b2.c0 b2.c1))
  go_region_held (fun w' => w'.cell? ⟨w.heap.size, 0, none⟩ = some (.int .u32 s) ∧ w'.cell? ⟨w.heap.size, 1, none⟩ = some (.int .u32 n) ∧ w'.cell? ⟨w.heap.size + 1, 0, none⟩ = some (.int .u32 t) ∧ w'.cell? ⟨w.heap.size + 1, 1, none⟩ = some (.int .u32 o)) (first | with_reducible exact S6 | with_reducible exact S5 | with_reducible exact S4 | with_reducible exact S3 | with_reducible exact S2) (first
    | (go_at_call 7; refine (h3 _).mono ?_; rintro e W6 ⟨rfl, hb6⟩; have a6 := a5.next hb6; have b6 := b5.next hb6; have hB6 := hB5.trans (hb6.mono hB5.size); have S6 := And.intro a6.c0 (And.intro a6.c1 (And.intro b6.c0 b6.c1)); have ka6 := seg_text (cap := c) ((sa.below hb5).below hb6) hx8 (by decide); have kb6 := seg_text (cap := c') (sb.below hb6) hy8 (by decide))
    | (go_at_call 10; have _g := hb4; refine (p2 _).mono ?_; rintro e W5 ⟨G', c', rfl, -, -, ho5, hb5⟩; have sb := seg_own ho5 hy8; have a5 := a4.next hb5; have b5 := b4.next hb5; have hB5 := hB4.trans (hb5.mono hB4.size); have S5 := And.intro a5.c0 (And.intro a5.c1 (And.intro b5.c0 b5.c1)); have ka5 := seg_text (cap := c) (sa.below hb5) hx8 (by decide); have kb5 := seg_text (cap := c') sb hy8 (by decide))
    | (go_at_call 10; refine (p1 _).mono ?_; rintro e W4 ⟨G, c, rfl, -, -, ho4, hb4⟩; have sa := seg_own ho4 hx8; have a4 := a3.next hb4; have b4 := b3.next hb4; have hB4 := hB3.trans (hb4.mono hB3.size); have S4 := And.intro a4.c0 (And.intro a4.c1 (And.intro b4.c0 b4.c1)); have ka4 := seg_text (cap := c) sa hx8 (by decide))
    | (go_at_call 9; refine (alive_any _).mono ?_; rintro e W3 ⟨rfl, hb3⟩; have a3 := a2.next hb3; have b3 := b2.next hb3; have hB3 := hB2.trans (hb3.mono hB2.size); have S3 := And.intro a3.c0 (And.intro a3.c1 (And.intro b3.c0 b3.c1))))
  all_goals
    go_wp2
    go_ret
    exact ⟨rfl, hB6⟩
end Go.Proofs.Ytjognjggampejab
