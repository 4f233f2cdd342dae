/- The walk of 'TimesAdds': true for any point of time, any number; nothing that was there turns. -/
import Derived.Test.YtjognjggampejaaTimeAdd
import Derived.Test.YtjognjggampejaaRefTAdd
namespace Go.Proofs.Ytjognjggampejaa
set_option linter.unusedVariables false
open Go.RowKit

set_option maxRecDepth 100000 in
set_option maxHeartbeats 1000000 in
theorem tadds_walk (s n k : Int) (w : World) (s0 : 0 ≤ s) (s1 : s ≤ 4294967295) (n0 : 0 ≤ n) (n1 : n ≤ 4294967295) (k0 : 0 ≤ k) (k1 : k ≤ 18446744073709551615) :
    Calls Try.prog 4 #[.agg #[.int .u32 s, .int .u32 n], .int .u64 k] w fun e w' => e = .returned (.bool true) ∧ Below w.heap.size w w' := by
  have a1 := Tp.new w s n
  have hB1 : Below w.heap.size w (w.alloc (.cells #[.int .u32 s, .int .u32 n] 24)) := (Below.refl _ _).alloc (Nat.le_refl _) _
  have had := fun w => tadd_any s n k w s0 s1 n0 n1 k0 k1
  have hrf := fun w => reftadd_any s n k w s0 s1 n0 n1 k0 k1
  generalize tE s n k = E at *
  generalize tS s n k = S at *
  generalize tN s n k = N at *
  have heq : ∀ w, (binOp .eql 24 (.agg #[.int .u32 S, .int .u32 N]) (.agg #[.int .u32 S, .int .u32 N])).run Try.prog w = .ok (.bool true) w := fun w => by rw [time_eql]; simp
  go_enter Try.func4, Try.ntmps4
  go_wp2_with fail
  generalize (w.alloc (.cells #[.int .u32 s, .int .u32 n] 24)) = W1 at *
  refine (had W1).mono ?_
  rintro e W2 ⟨rfl, hb2⟩
  have hB2 := hB1.trans (hb2.mono hB1.size)
  have a2 := a1.next hb2
  have a3 := a2.alloc (.cells #[.int .u32 S, .int .u32 N] 24)
  have t3 := Tp.new W2 S N
  have hB3 := hB2.alloc hB2.size (.cells #[.int .u32 S, .int .u32 N] 24)
  have c0 := a3.c0
  have c1 := a3.c1
  clear had a1 hB1 hb2 a2 hB2
  go_wp2_with fail
  generalize (W2.alloc (.cells #[.int .u32 S, .int .u32 N] 24)) = W3 at *
  generalize W2.heap.size = h at *
  refine (hrf W3).mono ?_
  rintro e W4 ⟨rfl, hb4⟩
  have hB4 := hB3.trans (hb4.mono hB3.size)
  have t4 := t3.next hb4
  have t5 := t4.alloc (.cells #[.int .u32 S, .int .u32 N] 24)
  have d0 := t5.c0
  have d1 := t5.c1
  have hB5 := hB4.alloc hB4.size (.cells #[.int .u32 S, .int .u32 N] 24)
  have hEE : (E == E) = true := by simp
  clear hrf a3 c0 c1 hB3 hb4 t3 hB4 t4 t5
  go_wp2
  go_ret
  exact ⟨rfl, hB5⟩
end Go.Proofs.Ytjognjggampejaa
