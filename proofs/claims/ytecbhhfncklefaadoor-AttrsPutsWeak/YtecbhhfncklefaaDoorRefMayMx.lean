/- 'may' of the document: may what is told of a node be told? Nothing that was there turns. -/
import Derived.Test.YtecbhhfncklefaaDoorACell
import Derived.Test.YtecbhhfncklefaaDoorTimeEqKokMathPNeedPiecesMx
import Derived.Test.YtecbhhfncklefaaDoorRefTChkMx
import Derived.WalkSmall
namespace Go.Proofs.YtecbhhfncklefaaDoor
set_option linter.unusedVariables false
open Go.RowKit

set_option maxRecDepth 100000 in
set_option maxHeartbeats 2000000 in
theorem refmay_any (x : Atr) (w : World) : Calls Tryd.prog 15 #[.agg #[.int .u32 x.kind, .int .u32 x.mode, .int .u32 x.links, .int .u32 x.user, .int .u32 x.group, .int .u64 x.size, .int .u64 x.used, .int .u64 x.id, .int .u32 x.rs, .int .u32 x.rn, .int .u32 x.ws, .int .u32 x.wn, .int .u32 x.ts, .int .u32 x.tn]] w fun e w' => e = .returned (.bool (amay x)) ∧ Below w.heap.size w w' := by
  have a0 := Ap.new w x
  have hB0 : Below w.heap.size w (w.alloc (.cells #[.int .u32 x.kind, .int .u32 x.mode, .int .u32 x.links, .int .u32 x.user, .int .u32 x.group, .int .u64 x.size, .int .u64 x.used, .int .u64 x.id, .int .u32 x.rs, .int .u32 x.rn, .int .u32 x.ws, .int .u32 x.wn, .int .u32 x.ts, .int .u32 x.tn] 28)) := (Below.refl _ _).alloc (Nat.le_refl _) _
  have k1 := fun W => reftcheck_any x.rs x.rn W
  have k2 := fun W => reftcheck_any x.ws x.wn W
  have k3 := fun W => reftcheck_any x.ts x.tn W
  have hm : amay x = (kok x.kind && decide (x.mode ≤ 4095) && tok x.rn && tok x.wn && tok x.tn) := rfl
  rw [hm]
  clear hm
  obtain ⟨c0, c1, c2, c3, c4, c5, c6, c7, c8, c9, c10, c11, c12, c13⟩ := a0.c
  have hkk := kok_cases (k := x.kind)
  generalize kok x.kind = K at *
  generalize tok x.rn = R at *
  generalize tok x.wn = V at *
  generalize tok x.tn = T at *
  rcases hkk with ⟨q1, rfl⟩ | ⟨q1, q2, rfl⟩ | ⟨q1, q2, q5, rfl⟩ | ⟨q1, q2, q5, rfl⟩
  · by_cases hm : x.mode ≤ 4095
    · have hmd : decide (x.mode ≤ 4095) = true := by simpa using hm
      rw [hmd]
      cases R
      · go_enter Tryd.func15, Tryd.ntmps15
        go_wp2_with fail
        generalize (w.alloc (.cells #[.int .u32 x.kind, .int .u32 x.mode, .int .u32 x.links, .int .u32 x.user, .int .u32 x.group, .int .u64 x.size, .int .u64 x.used, .int .u64 x.id, .int .u32 x.rs, .int .u32 x.rn, .int .u32 x.ws, .int .u32 x.wn, .int .u32 x.ts, .int .u32 x.tn] 28)) = W0 at *
        refine (k1 W0).mono ?_
        rintro e W1 ⟨rfl, hb1⟩
        have hB1 := hB0.trans (hb1.mono hB0.size)
        have a1 := a0.next hb1
        clear c0 c1 c2 c3 c4 c5 c6 c7 c8 c9 c10 c11 c12 c13 hB0 hb1 a0
        obtain ⟨c0, c1, c2, c3, c4, c5, c6, c7, c8, c9, c10, c11, c12, c13⟩ := a1.c
        go_wp2
        go_ret
        exact ⟨rfl, hB1⟩
      · cases V
        · go_enter Tryd.func15, Tryd.ntmps15
          go_wp2_with fail
          generalize (w.alloc (.cells #[.int .u32 x.kind, .int .u32 x.mode, .int .u32 x.links, .int .u32 x.user, .int .u32 x.group, .int .u64 x.size, .int .u64 x.used, .int .u64 x.id, .int .u32 x.rs, .int .u32 x.rn, .int .u32 x.ws, .int .u32 x.wn, .int .u32 x.ts, .int .u32 x.tn] 28)) = W0 at *
          refine (k1 W0).mono ?_
          rintro e W1 ⟨rfl, hb1⟩
          have hB1 := hB0.trans (hb1.mono hB0.size)
          have a1 := a0.next hb1
          clear c0 c1 c2 c3 c4 c5 c6 c7 c8 c9 c10 c11 c12 c13 hB0 hb1 a0
          obtain ⟨c0, c1, c2, c3, c4, c5, c6, c7, c8, c9, c10, c11, c12, c13⟩ := a1.c
          go_wp2_with fail
          refine (k2 W1).mono ?_
          rintro e W2 ⟨rfl, hb2⟩
          have hB2 := hB1.trans (hb2.mono hB1.size)
          have a2 := a1.next hb2
          clear c0 c1 c2 c3 c4 c5 c6 c7 c8 c9 c10 c11 c12 c13 hB1 hb2 a1
          obtain ⟨c0, c1, c2, c3, c4, c5, c6, c7, c8, c9, c10, c11, c12, c13⟩ := a2.c
          go_wp2
          go_ret
          exact ⟨rfl, hB2⟩
        · go_enter Tryd.func15, Tryd.ntmps15
          go_wp2_with fail
          generalize (w.alloc (.cells #[.int .u32 x.kind, .int .u32 x.mode, .int .u32 x.links, .int .u32 x.user, .int .u32 x.group, .int .u64 x.size, .int .u64 x.used, .int .u64 x.id, .int .u32 x.rs, .int .u32 x.rn, .int .u32 x.ws, .int .u32 x.wn, .int .u32 x.ts, .int .u32 x.tn] 28)) = W0 at *
          refine (k1 W0).mono ?_
          rintro e W1 ⟨rfl, hb1⟩
          have hB1 := hB0.trans (hb1.mono hB0.size)
          have a1 := a0.next hb1
          clear c0 c1 c2 c3 c4 c5 c6 c7 c8 c9 c10 c11 c12 c13 hB0 hb1 a0
          obtain ⟨c0, c1, c2, c3, c4, c5, c6, c7, c8, c9, c10, c11, c12, c13⟩ := a1.c
          go_wp2_with fail
          refine (k2 W1).mono ?_
          rintro e W2 ⟨rfl, hb2⟩
          have hB2 := hB1.trans (hb2.mono hB1.size)
          have a2 := a1.next hb2
          clear c0 c1 c2 c3 c4 c5 c6 c7 c8 c9 c10 c11 c12 c13 hB1 hb2 a1
          obtain ⟨c0, c1, c2, c3, c4, c5, c6, c7, c8, c9, c10, c11, c12, c13⟩ := a2.c
          go_wp2_with fail
          refine (k3 W2).mono ?_
          rintro e W3 ⟨rfl, hb3⟩
          have hB3 := hB2.trans (hb3.mono hB2.size)
          have a3 := a2.next hb3
          clear c0 c1 c2 c3 c4 c5 c6 c7 c8 c9 c10 c11 c12 c13 hB2 hb3 a2
          obtain ⟨c0, c1, c2, c3, c4, c5, c6, c7, c8, c9, c10, c11, c12, c13⟩ := a3.c
          go_wp2
          go_ret
          exact ⟨rfl, hB3⟩
    · have hmd : decide (x.mode ≤ 4095) = false := by simpa using hm
      rw [hmd]
      go_enter Tryd.func15, Tryd.ntmps15
      go_wp2
      go_ret
      exact ⟨rfl, hB0⟩
  · by_cases hm : x.mode ≤ 4095
    · have hmd : decide (x.mode ≤ 4095) = true := by simpa using hm
      rw [hmd]
      cases R
      · go_enter Tryd.func15, Tryd.ntmps15
        go_wp2_with fail
        generalize (w.alloc (.cells #[.int .u32 x.kind, .int .u32 x.mode, .int .u32 x.links, .int .u32 x.user, .int .u32 x.group, .int .u64 x.size, .int .u64 x.used, .int .u64 x.id, .int .u32 x.rs, .int .u32 x.rn, .int .u32 x.ws, .int .u32 x.wn, .int .u32 x.ts, .int .u32 x.tn] 28)) = W0 at *
        refine (k1 W0).mono ?_
        rintro e W1 ⟨rfl, hb1⟩
        have hB1 := hB0.trans (hb1.mono hB0.size)
        have a1 := a0.next hb1
        clear c0 c1 c2 c3 c4 c5 c6 c7 c8 c9 c10 c11 c12 c13 hB0 hb1 a0
        obtain ⟨c0, c1, c2, c3, c4, c5, c6, c7, c8, c9, c10, c11, c12, c13⟩ := a1.c
        go_wp2
        go_ret
        exact ⟨rfl, hB1⟩
      · cases V
        · go_enter Tryd.func15, Tryd.ntmps15
          go_wp2_with fail
          generalize (w.alloc (.cells #[.int .u32 x.kind, .int .u32 x.mode, .int .u32 x.links, .int .u32 x.user, .int .u32 x.group, .int .u64 x.size, .int .u64 x.used, .int .u64 x.id, .int .u32 x.rs, .int .u32 x.rn, .int .u32 x.ws, .int .u32 x.wn, .int .u32 x.ts, .int .u32 x.tn] 28)) = W0 at *
          refine (k1 W0).mono ?_
          rintro e W1 ⟨rfl, hb1⟩
          have hB1 := hB0.trans (hb1.mono hB0.size)
          have a1 := a0.next hb1
          clear c0 c1 c2 c3 c4 c5 c6 c7 c8 c9 c10 c11 c12 c13 hB0 hb1 a0
          obtain ⟨c0, c1, c2, c3, c4, c5, c6, c7, c8, c9, c10, c11, c12, c13⟩ := a1.c
          go_wp2_with fail
          refine (k2 W1).mono ?_
          rintro e W2 ⟨rfl, hb2⟩
          have hB2 := hB1.trans (hb2.mono hB1.size)
          have a2 := a1.next hb2
          clear c0 c1 c2 c3 c4 c5 c6 c7 c8 c9 c10 c11 c12 c13 hB1 hb2 a1
          obtain ⟨c0, c1, c2, c3, c4, c5, c6, c7, c8, c9, c10, c11, c12, c13⟩ := a2.c
          go_wp2
          go_ret
          exact ⟨rfl, hB2⟩
        · go_enter Tryd.func15, Tryd.ntmps15
          go_wp2_with fail
          generalize (w.alloc (.cells #[.int .u32 x.kind, .int .u32 x.mode, .int .u32 x.links, .int .u32 x.user, .int .u32 x.group, .int .u64 x.size, .int .u64 x.used, .int .u64 x.id, .int .u32 x.rs, .int .u32 x.rn, .int .u32 x.ws, .int .u32 x.wn, .int .u32 x.ts, .int .u32 x.tn] 28)) = W0 at *
          refine (k1 W0).mono ?_
          rintro e W1 ⟨rfl, hb1⟩
          have hB1 := hB0.trans (hb1.mono hB0.size)
          have a1 := a0.next hb1
          clear c0 c1 c2 c3 c4 c5 c6 c7 c8 c9 c10 c11 c12 c13 hB0 hb1 a0
          obtain ⟨c0, c1, c2, c3, c4, c5, c6, c7, c8, c9, c10, c11, c12, c13⟩ := a1.c
          go_wp2_with fail
          refine (k2 W1).mono ?_
          rintro e W2 ⟨rfl, hb2⟩
          have hB2 := hB1.trans (hb2.mono hB1.size)
          have a2 := a1.next hb2
          clear c0 c1 c2 c3 c4 c5 c6 c7 c8 c9 c10 c11 c12 c13 hB1 hb2 a1
          obtain ⟨c0, c1, c2, c3, c4, c5, c6, c7, c8, c9, c10, c11, c12, c13⟩ := a2.c
          go_wp2_with fail
          refine (k3 W2).mono ?_
          rintro e W3 ⟨rfl, hb3⟩
          have hB3 := hB2.trans (hb3.mono hB2.size)
          have a3 := a2.next hb3
          clear c0 c1 c2 c3 c4 c5 c6 c7 c8 c9 c10 c11 c12 c13 hB2 hb3 a2
          obtain ⟨c0, c1, c2, c3, c4, c5, c6, c7, c8, c9, c10, c11, c12, c13⟩ := a3.c
          go_wp2
          go_ret
          exact ⟨rfl, hB3⟩
    · have hmd : decide (x.mode ≤ 4095) = false := by simpa using hm
      rw [hmd]
      go_enter Tryd.func15, Tryd.ntmps15
      go_wp2
      go_ret
      exact ⟨rfl, hB0⟩
  · by_cases hm : x.mode ≤ 4095
    · have hmd : decide (x.mode ≤ 4095) = true := by simpa using hm
      rw [hmd]
      cases R
      · go_enter Tryd.func15, Tryd.ntmps15
        go_wp2_with fail
        generalize (w.alloc (.cells #[.int .u32 x.kind, .int .u32 x.mode, .int .u32 x.links, .int .u32 x.user, .int .u32 x.group, .int .u64 x.size, .int .u64 x.used, .int .u64 x.id, .int .u32 x.rs, .int .u32 x.rn, .int .u32 x.ws, .int .u32 x.wn, .int .u32 x.ts, .int .u32 x.tn] 28)) = W0 at *
        refine (k1 W0).mono ?_
        rintro e W1 ⟨rfl, hb1⟩
        have hB1 := hB0.trans (hb1.mono hB0.size)
        have a1 := a0.next hb1
        clear c0 c1 c2 c3 c4 c5 c6 c7 c8 c9 c10 c11 c12 c13 hB0 hb1 a0
        obtain ⟨c0, c1, c2, c3, c4, c5, c6, c7, c8, c9, c10, c11, c12, c13⟩ := a1.c
        go_wp2
        go_ret
        exact ⟨rfl, hB1⟩
      · cases V
        · go_enter Tryd.func15, Tryd.ntmps15
          go_wp2_with fail
          generalize (w.alloc (.cells #[.int .u32 x.kind, .int .u32 x.mode, .int .u32 x.links, .int .u32 x.user, .int .u32 x.group, .int .u64 x.size, .int .u64 x.used, .int .u64 x.id, .int .u32 x.rs, .int .u32 x.rn, .int .u32 x.ws, .int .u32 x.wn, .int .u32 x.ts, .int .u32 x.tn] 28)) = W0 at *
          refine (k1 W0).mono ?_
          rintro e W1 ⟨rfl, hb1⟩
          have hB1 := hB0.trans (hb1.mono hB0.size)
          have a1 := a0.next hb1
          clear c0 c1 c2 c3 c4 c5 c6 c7 c8 c9 c10 c11 c12 c13 hB0 hb1 a0
          obtain ⟨c0, c1, c2, c3, c4, c5, c6, c7, c8, c9, c10, c11, c12, c13⟩ := a1.c
          go_wp2_with fail
          refine (k2 W1).mono ?_
          rintro e W2 ⟨rfl, hb2⟩
          have hB2 := hB1.trans (hb2.mono hB1.size)
          have a2 := a1.next hb2
          clear c0 c1 c2 c3 c4 c5 c6 c7 c8 c9 c10 c11 c12 c13 hB1 hb2 a1
          obtain ⟨c0, c1, c2, c3, c4, c5, c6, c7, c8, c9, c10, c11, c12, c13⟩ := a2.c
          go_wp2
          go_ret
          exact ⟨rfl, hB2⟩
        · go_enter Tryd.func15, Tryd.ntmps15
          go_wp2_with fail
          generalize (w.alloc (.cells #[.int .u32 x.kind, .int .u32 x.mode, .int .u32 x.links, .int .u32 x.user, .int .u32 x.group, .int .u64 x.size, .int .u64 x.used, .int .u64 x.id, .int .u32 x.rs, .int .u32 x.rn, .int .u32 x.ws, .int .u32 x.wn, .int .u32 x.ts, .int .u32 x.tn] 28)) = W0 at *
          refine (k1 W0).mono ?_
          rintro e W1 ⟨rfl, hb1⟩
          have hB1 := hB0.trans (hb1.mono hB0.size)
          have a1 := a0.next hb1
          clear c0 c1 c2 c3 c4 c5 c6 c7 c8 c9 c10 c11 c12 c13 hB0 hb1 a0
          obtain ⟨c0, c1, c2, c3, c4, c5, c6, c7, c8, c9, c10, c11, c12, c13⟩ := a1.c
          go_wp2_with fail
          refine (k2 W1).mono ?_
          rintro e W2 ⟨rfl, hb2⟩
          have hB2 := hB1.trans (hb2.mono hB1.size)
          have a2 := a1.next hb2
          clear c0 c1 c2 c3 c4 c5 c6 c7 c8 c9 c10 c11 c12 c13 hB1 hb2 a1
          obtain ⟨c0, c1, c2, c3, c4, c5, c6, c7, c8, c9, c10, c11, c12, c13⟩ := a2.c
          go_wp2_with fail
          refine (k3 W2).mono ?_
          rintro e W3 ⟨rfl, hb3⟩
          have hB3 := hB2.trans (hb3.mono hB2.size)
          have a3 := a2.next hb3
          clear c0 c1 c2 c3 c4 c5 c6 c7 c8 c9 c10 c11 c12 c13 hB2 hb3 a2
          obtain ⟨c0, c1, c2, c3, c4, c5, c6, c7, c8, c9, c10, c11, c12, c13⟩ := a3.c
          go_wp2
          go_ret
          exact ⟨rfl, hB3⟩
    · have hmd : decide (x.mode ≤ 4095) = false := by simpa using hm
      rw [hmd]
      go_enter Tryd.func15, Tryd.ntmps15
      go_wp2
      go_ret
      exact ⟨rfl, hB0⟩
  · go_enter Tryd.func15, Tryd.ntmps15
    go_wp2
    go_ret
    exact ⟨rfl, hB0⟩
end Go.Proofs.YtecbhhfncklefaaDoor
