/- The walk of 'AttrsMay', from what the program's Put answers (a hypothesis): true for anything that is told; nothing that was there turns. -/
import Derived.Test.YtecbhhfncklefabAForms
import Derived.Test.YtecbhhfncklefabACell
import Derived.Test.YtecbhhfncklefabTimeEq
namespace Go.Proofs.Ytecbhhfncklefab
set_option linter.unusedVariables false
set_option linter.unusedSimpArgs false
open Go.RowKit

theorem kind_cases {k : Int} : ((k == 1) = true ∧ kok k = true) ∨ ((k == 1) = false ∧ (k == 2) = true ∧ kok k = true) ∨ ((k == 1) = false ∧ (k == 2) = false ∧ (k == 5) = true ∧ kok k = true) ∨ ((k == 1) = false ∧ (k == 2) = false ∧ (k == 5) = false ∧ kok k = false) := by
  by_cases h1 : k = 1
  · exact .inl ⟨by simp [h1], by simp [kok, h1]⟩
  · by_cases h2 : k = 2
    · exact .inr (.inl ⟨by simp [h1], by simp [h2], by simp [kok, h2]⟩)
    · by_cases h5 : k = 5
      · exact .inr (.inr (.inl ⟨by simp [h1], by simp [h2], by simp [h5], by simp [kok, h5]⟩))
      · exact .inr (.inr (.inr ⟨by simp [h1], by simp [h2], by simp [h5], by simp [kok, h1, h2, h5]⟩))

set_option maxRecDepth 100000 in
set_option maxHeartbeats 8000000 in
theorem amay_walk (hal : ∀ W, Calls Try.prog 9 #[] W fun e W' => e = .returned (.bool true) ∧ Below W.heap.size W W') (hput : APut 11)
    (x : Atr) (w : World) (hx : x.In) : Calls Try.prog 7 #[.agg #[.int .u32 x.kind, .int .u32 x.mode, .int .u32 x.links, .int .u32 x.user, .int .u32 x.group, .int .u64 x.size, .int .u64 x.used, .int .u64 x.id, .int .u32 x.rs, .int .u32 x.rn, .int .u32 x.ws, .int .u32 x.wn, .int .u32 x.ts, .int .u32 x.tn]] w fun e w' => e = .returned (.bool true) ∧ Below w.heap.size w w' := by
  have a0 := Ap.new w x
  have hB0 : Below w.heap.size w (w.alloc (.cells #[.int .u32 x.kind, .int .u32 x.mode, .int .u32 x.links, .int .u32 x.user, .int .u32 x.group, .int .u64 x.size, .int .u64 x.used, .int .u64 x.id, .int .u32 x.rs, .int .u32 x.rn, .int .u32 x.ws, .int .u32 x.wn, .int .u32 x.ts, .int .u32 x.tn] 28)) := (Below.refl _ _).alloc (Nat.le_refl _) _
  have hp := fun W => hput x W hx
  have k1 := fun W => tcheck_any x.rs x.rn W
  have k2 := fun W => tcheck_any x.ws x.wn W
  have k3 := fun W => tcheck_any x.ts x.tn W
  have hm : amay x = (kok x.kind && decide (x.mode ≤ 4095) && tok x.rn && tok x.wn && tok x.tn) := rfl
  rw [hm] at hp
  clear hm
  obtain ⟨c0, c1, c2, c3, c4, c5, c6, c7, c8, c9, c10, c11, c12, c13⟩ := a0.c
  have hkk := kind_cases (k := x.kind)
  generalize kok x.kind = K at *
  generalize tok x.rn = R at *
  generalize tok x.wn = V at *
  generalize tok x.tn = T at *
  rcases hkk with ⟨q1, rfl⟩ | ⟨q1, q2, rfl⟩ | ⟨q1, q2, q5, rfl⟩ | ⟨q1, q2, q5, rfl⟩
  · by_cases hm : x.mode ≤ 4095
    · have hmd : decide (x.mode ≤ 4095) = true := by simpa using hm
      have hme : decide (x.mode < 4096) = true := by simp; omega
      rw [hmd] at hp
      cases R
      · simp only [Bool.true_and, Bool.false_and, Bool.and_false, Bool.and_true] at hp
        rw [show paE false = 1 from rfl] at hp
        go_enter Try.func7, Try.ntmps7
        go_wp2_with fail
        generalize (w.alloc (.cells #[.int .u32 x.kind, .int .u32 x.mode, .int .u32 x.links, .int .u32 x.user, .int .u32 x.group, .int .u64 x.size, .int .u64 x.used, .int .u64 x.id, .int .u32 x.rs, .int .u32 x.rn, .int .u32 x.ws, .int .u32 x.wn, .int .u32 x.ts, .int .u32 x.tn] 28)) = W0 at *
        refine (hp W0).mono ?_
        rintro e W1 ⟨v, rfl, -, hb1⟩
        have hB1 := hB0.trans (hb1.mono hB0.size)
        have a1 := a0.next hb1
        clear c0 c1 c2 c3 c4 c5 c6 c7 c8 c9 c10 c11 c12 c13 hB0 hb1 a0 hp
        obtain ⟨c0, c1, c2, c3, c4, c5, c6, c7, c8, c9, c10, c11, c12, c13⟩ := a1.c
        go_wp2_with fail
        refine (hal W1).mono ?_
        rintro e W2 ⟨rfl, hb2⟩
        have hB2 := hB1.trans (hb2.mono hB1.size)
        have a2 := a1.next hb2
        clear c0 c1 c2 c3 c4 c5 c6 c7 c8 c9 c10 c11 c12 c13 hB1 hb2 a1
        obtain ⟨c0, c1, c2, c3, c4, c5, c6, c7, c8, c9, c10, c11, c12, c13⟩ := a2.c
        go_wp2_with fail
        refine (k1 W2).mono ?_
        rintro e W3 ⟨rfl, hb3⟩
        have hB3 := hB2.trans (hb3.mono hB2.size)
        have a3 := a2.next hb3
        clear c0 c1 c2 c3 c4 c5 c6 c7 c8 c9 c10 c11 c12 c13 hB2 hb3 a2
        obtain ⟨c0, c1, c2, c3, c4, c5, c6, c7, c8, c9, c10, c11, c12, c13⟩ := a3.c
        go_wp2
        go_ret
        exact ⟨rfl, hB3⟩
      · cases V
        · simp only [Bool.true_and, Bool.false_and, Bool.and_false, Bool.and_true] at hp
          rw [show paE false = 1 from rfl] at hp
          go_enter Try.func7, Try.ntmps7
          go_wp2_with fail
          generalize (w.alloc (.cells #[.int .u32 x.kind, .int .u32 x.mode, .int .u32 x.links, .int .u32 x.user, .int .u32 x.group, .int .u64 x.size, .int .u64 x.used, .int .u64 x.id, .int .u32 x.rs, .int .u32 x.rn, .int .u32 x.ws, .int .u32 x.wn, .int .u32 x.ts, .int .u32 x.tn] 28)) = W0 at *
          refine (hp W0).mono ?_
          rintro e W1 ⟨v, rfl, -, hb1⟩
          have hB1 := hB0.trans (hb1.mono hB0.size)
          have a1 := a0.next hb1
          clear c0 c1 c2 c3 c4 c5 c6 c7 c8 c9 c10 c11 c12 c13 hB0 hb1 a0 hp
          obtain ⟨c0, c1, c2, c3, c4, c5, c6, c7, c8, c9, c10, c11, c12, c13⟩ := a1.c
          go_wp2_with fail
          refine (hal W1).mono ?_
          rintro e W2 ⟨rfl, hb2⟩
          have hB2 := hB1.trans (hb2.mono hB1.size)
          have a2 := a1.next hb2
          clear c0 c1 c2 c3 c4 c5 c6 c7 c8 c9 c10 c11 c12 c13 hB1 hb2 a1
          obtain ⟨c0, c1, c2, c3, c4, c5, c6, c7, c8, c9, c10, c11, c12, c13⟩ := a2.c
          go_wp2_with fail
          refine (k1 W2).mono ?_
          rintro e W3 ⟨rfl, hb3⟩
          have hB3 := hB2.trans (hb3.mono hB2.size)
          have a3 := a2.next hb3
          clear c0 c1 c2 c3 c4 c5 c6 c7 c8 c9 c10 c11 c12 c13 hB2 hb3 a2
          obtain ⟨c0, c1, c2, c3, c4, c5, c6, c7, c8, c9, c10, c11, c12, c13⟩ := a3.c
          go_wp2_with fail
          refine (k2 W3).mono ?_
          rintro e W4 ⟨rfl, hb4⟩
          have hB4 := hB3.trans (hb4.mono hB3.size)
          have a4 := a3.next hb4
          clear c0 c1 c2 c3 c4 c5 c6 c7 c8 c9 c10 c11 c12 c13 hB3 hb4 a3
          obtain ⟨c0, c1, c2, c3, c4, c5, c6, c7, c8, c9, c10, c11, c12, c13⟩ := a4.c
          go_wp2
          go_ret
          exact ⟨rfl, hB4⟩
        · cases T
          · simp only [Bool.true_and, Bool.false_and, Bool.and_false, Bool.and_true] at hp
            rw [show paE false = 1 from rfl] at hp
            go_enter Try.func7, Try.ntmps7
            go_wp2_with fail
            generalize (w.alloc (.cells #[.int .u32 x.kind, .int .u32 x.mode, .int .u32 x.links, .int .u32 x.user, .int .u32 x.group, .int .u64 x.size, .int .u64 x.used, .int .u64 x.id, .int .u32 x.rs, .int .u32 x.rn, .int .u32 x.ws, .int .u32 x.wn, .int .u32 x.ts, .int .u32 x.tn] 28)) = W0 at *
            refine (hp W0).mono ?_
            rintro e W1 ⟨v, rfl, -, hb1⟩
            have hB1 := hB0.trans (hb1.mono hB0.size)
            have a1 := a0.next hb1
            clear c0 c1 c2 c3 c4 c5 c6 c7 c8 c9 c10 c11 c12 c13 hB0 hb1 a0 hp
            obtain ⟨c0, c1, c2, c3, c4, c5, c6, c7, c8, c9, c10, c11, c12, c13⟩ := a1.c
            go_wp2_with fail
            refine (hal W1).mono ?_
            rintro e W2 ⟨rfl, hb2⟩
            have hB2 := hB1.trans (hb2.mono hB1.size)
            have a2 := a1.next hb2
            clear c0 c1 c2 c3 c4 c5 c6 c7 c8 c9 c10 c11 c12 c13 hB1 hb2 a1
            obtain ⟨c0, c1, c2, c3, c4, c5, c6, c7, c8, c9, c10, c11, c12, c13⟩ := a2.c
            go_wp2_with fail
            refine (k1 W2).mono ?_
            rintro e W3 ⟨rfl, hb3⟩
            have hB3 := hB2.trans (hb3.mono hB2.size)
            have a3 := a2.next hb3
            clear c0 c1 c2 c3 c4 c5 c6 c7 c8 c9 c10 c11 c12 c13 hB2 hb3 a2
            obtain ⟨c0, c1, c2, c3, c4, c5, c6, c7, c8, c9, c10, c11, c12, c13⟩ := a3.c
            go_wp2_with fail
            refine (k2 W3).mono ?_
            rintro e W4 ⟨rfl, hb4⟩
            have hB4 := hB3.trans (hb4.mono hB3.size)
            have a4 := a3.next hb4
            clear c0 c1 c2 c3 c4 c5 c6 c7 c8 c9 c10 c11 c12 c13 hB3 hb4 a3
            obtain ⟨c0, c1, c2, c3, c4, c5, c6, c7, c8, c9, c10, c11, c12, c13⟩ := a4.c
            go_wp2_with fail
            refine (k3 W4).mono ?_
            rintro e W5 ⟨rfl, hb5⟩
            have hB5 := hB4.trans (hb5.mono hB4.size)
            have a5 := a4.next hb5
            clear c0 c1 c2 c3 c4 c5 c6 c7 c8 c9 c10 c11 c12 c13 hB4 hb5 a4
            obtain ⟨c0, c1, c2, c3, c4, c5, c6, c7, c8, c9, c10, c11, c12, c13⟩ := a5.c
            go_wp2
            go_ret
            exact ⟨rfl, hB5⟩
          · simp only [Bool.true_and, Bool.and_true] at hp
            rw [show paE true = 0 from rfl] at hp
            go_enter Try.func7, Try.ntmps7
            go_wp2_with fail
            generalize (w.alloc (.cells #[.int .u32 x.kind, .int .u32 x.mode, .int .u32 x.links, .int .u32 x.user, .int .u32 x.group, .int .u64 x.size, .int .u64 x.used, .int .u64 x.id, .int .u32 x.rs, .int .u32 x.rn, .int .u32 x.ws, .int .u32 x.wn, .int .u32 x.ts, .int .u32 x.tn] 28)) = W0 at *
            refine (hp W0).mono ?_
            rintro e W1 ⟨v, rfl, -, hb1⟩
            have hB1 := hB0.trans (hb1.mono hB0.size)
            have a1 := a0.next hb1
            clear c0 c1 c2 c3 c4 c5 c6 c7 c8 c9 c10 c11 c12 c13 hB0 hb1 a0 hp
            obtain ⟨c0, c1, c2, c3, c4, c5, c6, c7, c8, c9, c10, c11, c12, c13⟩ := a1.c
            go_wp2_with fail
            refine (hal W1).mono ?_
            rintro e W2 ⟨rfl, hb2⟩
            have hB2 := hB1.trans (hb2.mono hB1.size)
            have a2 := a1.next hb2
            clear c0 c1 c2 c3 c4 c5 c6 c7 c8 c9 c10 c11 c12 c13 hB1 hb2 a1
            obtain ⟨c0, c1, c2, c3, c4, c5, c6, c7, c8, c9, c10, c11, c12, c13⟩ := a2.c
            go_wp2_with fail
            refine (k1 W2).mono ?_
            rintro e W3 ⟨rfl, hb3⟩
            have hB3 := hB2.trans (hb3.mono hB2.size)
            have a3 := a2.next hb3
            clear c0 c1 c2 c3 c4 c5 c6 c7 c8 c9 c10 c11 c12 c13 hB2 hb3 a2
            obtain ⟨c0, c1, c2, c3, c4, c5, c6, c7, c8, c9, c10, c11, c12, c13⟩ := a3.c
            go_wp2_with fail
            refine (k2 W3).mono ?_
            rintro e W4 ⟨rfl, hb4⟩
            have hB4 := hB3.trans (hb4.mono hB3.size)
            have a4 := a3.next hb4
            clear c0 c1 c2 c3 c4 c5 c6 c7 c8 c9 c10 c11 c12 c13 hB3 hb4 a3
            obtain ⟨c0, c1, c2, c3, c4, c5, c6, c7, c8, c9, c10, c11, c12, c13⟩ := a4.c
            go_wp2_with fail
            refine (k3 W4).mono ?_
            rintro e W5 ⟨rfl, hb5⟩
            have hB5 := hB4.trans (hb5.mono hB4.size)
            have a5 := a4.next hb5
            clear c0 c1 c2 c3 c4 c5 c6 c7 c8 c9 c10 c11 c12 c13 hB4 hb5 a4
            obtain ⟨c0, c1, c2, c3, c4, c5, c6, c7, c8, c9, c10, c11, c12, c13⟩ := a5.c
            go_wp2
            go_ret
            exact ⟨rfl, hB5⟩
    · have hmd : decide (x.mode ≤ 4095) = false := by simpa using hm
      have hme : decide (x.mode < 4096) = false := by simp; omega
      rw [hmd] at hp
      simp only [Bool.true_and, Bool.false_and, Bool.and_false, Bool.and_true] at hp
      rw [show paE false = 1 from rfl] at hp
      go_enter Try.func7, Try.ntmps7
      go_wp2_with fail
      generalize (w.alloc (.cells #[.int .u32 x.kind, .int .u32 x.mode, .int .u32 x.links, .int .u32 x.user, .int .u32 x.group, .int .u64 x.size, .int .u64 x.used, .int .u64 x.id, .int .u32 x.rs, .int .u32 x.rn, .int .u32 x.ws, .int .u32 x.wn, .int .u32 x.ts, .int .u32 x.tn] 28)) = W0 at *
      refine (hp W0).mono ?_
      rintro e W1 ⟨v, rfl, -, hb1⟩
      have hB1 := hB0.trans (hb1.mono hB0.size)
      have a1 := a0.next hb1
      clear c0 c1 c2 c3 c4 c5 c6 c7 c8 c9 c10 c11 c12 c13 hB0 hb1 a0 hp
      obtain ⟨c0, c1, c2, c3, c4, c5, c6, c7, c8, c9, c10, c11, c12, c13⟩ := a1.c
      go_wp2_with fail
      refine (hal W1).mono ?_
      rintro e W2 ⟨rfl, hb2⟩
      have hB2 := hB1.trans (hb2.mono hB1.size)
      have a2 := a1.next hb2
      clear c0 c1 c2 c3 c4 c5 c6 c7 c8 c9 c10 c11 c12 c13 hB1 hb2 a1
      obtain ⟨c0, c1, c2, c3, c4, c5, c6, c7, c8, c9, c10, c11, c12, c13⟩ := a2.c
      go_wp2
      go_ret
      exact ⟨rfl, hB2⟩
  · by_cases hm : x.mode ≤ 4095
    · have hmd : decide (x.mode ≤ 4095) = true := by simpa using hm
      have hme : decide (x.mode < 4096) = true := by simp; omega
      rw [hmd] at hp
      cases R
      · simp only [Bool.true_and, Bool.false_and, Bool.and_false, Bool.and_true] at hp
        rw [show paE false = 1 from rfl] at hp
        go_enter Try.func7, Try.ntmps7
        go_wp2_with fail
        generalize (w.alloc (.cells #[.int .u32 x.kind, .int .u32 x.mode, .int .u32 x.links, .int .u32 x.user, .int .u32 x.group, .int .u64 x.size, .int .u64 x.used, .int .u64 x.id, .int .u32 x.rs, .int .u32 x.rn, .int .u32 x.ws, .int .u32 x.wn, .int .u32 x.ts, .int .u32 x.tn] 28)) = W0 at *
        refine (hp W0).mono ?_
        rintro e W1 ⟨v, rfl, -, hb1⟩
        have hB1 := hB0.trans (hb1.mono hB0.size)
        have a1 := a0.next hb1
        clear c0 c1 c2 c3 c4 c5 c6 c7 c8 c9 c10 c11 c12 c13 hB0 hb1 a0 hp
        obtain ⟨c0, c1, c2, c3, c4, c5, c6, c7, c8, c9, c10, c11, c12, c13⟩ := a1.c
        go_wp2_with fail
        refine (hal W1).mono ?_
        rintro e W2 ⟨rfl, hb2⟩
        have hB2 := hB1.trans (hb2.mono hB1.size)
        have a2 := a1.next hb2
        clear c0 c1 c2 c3 c4 c5 c6 c7 c8 c9 c10 c11 c12 c13 hB1 hb2 a1
        obtain ⟨c0, c1, c2, c3, c4, c5, c6, c7, c8, c9, c10, c11, c12, c13⟩ := a2.c
        go_wp2_with fail
        refine (k1 W2).mono ?_
        rintro e W3 ⟨rfl, hb3⟩
        have hB3 := hB2.trans (hb3.mono hB2.size)
        have a3 := a2.next hb3
        clear c0 c1 c2 c3 c4 c5 c6 c7 c8 c9 c10 c11 c12 c13 hB2 hb3 a2
        obtain ⟨c0, c1, c2, c3, c4, c5, c6, c7, c8, c9, c10, c11, c12, c13⟩ := a3.c
        go_wp2
        go_ret
        exact ⟨rfl, hB3⟩
      · cases V
        · simp only [Bool.true_and, Bool.false_and, Bool.and_false, Bool.and_true] at hp
          rw [show paE false = 1 from rfl] at hp
          go_enter Try.func7, Try.ntmps7
          go_wp2_with fail
          generalize (w.alloc (.cells #[.int .u32 x.kind, .int .u32 x.mode, .int .u32 x.links, .int .u32 x.user, .int .u32 x.group, .int .u64 x.size, .int .u64 x.used, .int .u64 x.id, .int .u32 x.rs, .int .u32 x.rn, .int .u32 x.ws, .int .u32 x.wn, .int .u32 x.ts, .int .u32 x.tn] 28)) = W0 at *
          refine (hp W0).mono ?_
          rintro e W1 ⟨v, rfl, -, hb1⟩
          have hB1 := hB0.trans (hb1.mono hB0.size)
          have a1 := a0.next hb1
          clear c0 c1 c2 c3 c4 c5 c6 c7 c8 c9 c10 c11 c12 c13 hB0 hb1 a0 hp
          obtain ⟨c0, c1, c2, c3, c4, c5, c6, c7, c8, c9, c10, c11, c12, c13⟩ := a1.c
          go_wp2_with fail
          refine (hal W1).mono ?_
          rintro e W2 ⟨rfl, hb2⟩
          have hB2 := hB1.trans (hb2.mono hB1.size)
          have a2 := a1.next hb2
          clear c0 c1 c2 c3 c4 c5 c6 c7 c8 c9 c10 c11 c12 c13 hB1 hb2 a1
          obtain ⟨c0, c1, c2, c3, c4, c5, c6, c7, c8, c9, c10, c11, c12, c13⟩ := a2.c
          go_wp2_with fail
          refine (k1 W2).mono ?_
          rintro e W3 ⟨rfl, hb3⟩
          have hB3 := hB2.trans (hb3.mono hB2.size)
          have a3 := a2.next hb3
          clear c0 c1 c2 c3 c4 c5 c6 c7 c8 c9 c10 c11 c12 c13 hB2 hb3 a2
          obtain ⟨c0, c1, c2, c3, c4, c5, c6, c7, c8, c9, c10, c11, c12, c13⟩ := a3.c
          go_wp2_with fail
          refine (k2 W3).mono ?_
          rintro e W4 ⟨rfl, hb4⟩
          have hB4 := hB3.trans (hb4.mono hB3.size)
          have a4 := a3.next hb4
          clear c0 c1 c2 c3 c4 c5 c6 c7 c8 c9 c10 c11 c12 c13 hB3 hb4 a3
          obtain ⟨c0, c1, c2, c3, c4, c5, c6, c7, c8, c9, c10, c11, c12, c13⟩ := a4.c
          go_wp2
          go_ret
          exact ⟨rfl, hB4⟩
        · cases T
          · simp only [Bool.true_and, Bool.false_and, Bool.and_false, Bool.and_true] at hp
            rw [show paE false = 1 from rfl] at hp
            go_enter Try.func7, Try.ntmps7
            go_wp2_with fail
            generalize (w.alloc (.cells #[.int .u32 x.kind, .int .u32 x.mode, .int .u32 x.links, .int .u32 x.user, .int .u32 x.group, .int .u64 x.size, .int .u64 x.used, .int .u64 x.id, .int .u32 x.rs, .int .u32 x.rn, .int .u32 x.ws, .int .u32 x.wn, .int .u32 x.ts, .int .u32 x.tn] 28)) = W0 at *
            refine (hp W0).mono ?_
            rintro e W1 ⟨v, rfl, -, hb1⟩
            have hB1 := hB0.trans (hb1.mono hB0.size)
            have a1 := a0.next hb1
            clear c0 c1 c2 c3 c4 c5 c6 c7 c8 c9 c10 c11 c12 c13 hB0 hb1 a0 hp
            obtain ⟨c0, c1, c2, c3, c4, c5, c6, c7, c8, c9, c10, c11, c12, c13⟩ := a1.c
            go_wp2_with fail
            refine (hal W1).mono ?_
            rintro e W2 ⟨rfl, hb2⟩
            have hB2 := hB1.trans (hb2.mono hB1.size)
            have a2 := a1.next hb2
            clear c0 c1 c2 c3 c4 c5 c6 c7 c8 c9 c10 c11 c12 c13 hB1 hb2 a1
            obtain ⟨c0, c1, c2, c3, c4, c5, c6, c7, c8, c9, c10, c11, c12, c13⟩ := a2.c
            go_wp2_with fail
            refine (k1 W2).mono ?_
            rintro e W3 ⟨rfl, hb3⟩
            have hB3 := hB2.trans (hb3.mono hB2.size)
            have a3 := a2.next hb3
            clear c0 c1 c2 c3 c4 c5 c6 c7 c8 c9 c10 c11 c12 c13 hB2 hb3 a2
            obtain ⟨c0, c1, c2, c3, c4, c5, c6, c7, c8, c9, c10, c11, c12, c13⟩ := a3.c
            go_wp2_with fail
            refine (k2 W3).mono ?_
            rintro e W4 ⟨rfl, hb4⟩
            have hB4 := hB3.trans (hb4.mono hB3.size)
            have a4 := a3.next hb4
            clear c0 c1 c2 c3 c4 c5 c6 c7 c8 c9 c10 c11 c12 c13 hB3 hb4 a3
            obtain ⟨c0, c1, c2, c3, c4, c5, c6, c7, c8, c9, c10, c11, c12, c13⟩ := a4.c
            go_wp2_with fail
            refine (k3 W4).mono ?_
            rintro e W5 ⟨rfl, hb5⟩
            have hB5 := hB4.trans (hb5.mono hB4.size)
            have a5 := a4.next hb5
            clear c0 c1 c2 c3 c4 c5 c6 c7 c8 c9 c10 c11 c12 c13 hB4 hb5 a4
            obtain ⟨c0, c1, c2, c3, c4, c5, c6, c7, c8, c9, c10, c11, c12, c13⟩ := a5.c
            go_wp2
            go_ret
            exact ⟨rfl, hB5⟩
          · simp only [Bool.true_and, Bool.and_true] at hp
            rw [show paE true = 0 from rfl] at hp
            go_enter Try.func7, Try.ntmps7
            go_wp2_with fail
            generalize (w.alloc (.cells #[.int .u32 x.kind, .int .u32 x.mode, .int .u32 x.links, .int .u32 x.user, .int .u32 x.group, .int .u64 x.size, .int .u64 x.used, .int .u64 x.id, .int .u32 x.rs, .int .u32 x.rn, .int .u32 x.ws, .int .u32 x.wn, .int .u32 x.ts, .int .u32 x.tn] 28)) = W0 at *
            refine (hp W0).mono ?_
            rintro e W1 ⟨v, rfl, -, hb1⟩
            have hB1 := hB0.trans (hb1.mono hB0.size)
            have a1 := a0.next hb1
            clear c0 c1 c2 c3 c4 c5 c6 c7 c8 c9 c10 c11 c12 c13 hB0 hb1 a0 hp
            obtain ⟨c0, c1, c2, c3, c4, c5, c6, c7, c8, c9, c10, c11, c12, c13⟩ := a1.c
            go_wp2_with fail
            refine (hal W1).mono ?_
            rintro e W2 ⟨rfl, hb2⟩
            have hB2 := hB1.trans (hb2.mono hB1.size)
            have a2 := a1.next hb2
            clear c0 c1 c2 c3 c4 c5 c6 c7 c8 c9 c10 c11 c12 c13 hB1 hb2 a1
            obtain ⟨c0, c1, c2, c3, c4, c5, c6, c7, c8, c9, c10, c11, c12, c13⟩ := a2.c
            go_wp2_with fail
            refine (k1 W2).mono ?_
            rintro e W3 ⟨rfl, hb3⟩
            have hB3 := hB2.trans (hb3.mono hB2.size)
            have a3 := a2.next hb3
            clear c0 c1 c2 c3 c4 c5 c6 c7 c8 c9 c10 c11 c12 c13 hB2 hb3 a2
            obtain ⟨c0, c1, c2, c3, c4, c5, c6, c7, c8, c9, c10, c11, c12, c13⟩ := a3.c
            go_wp2_with fail
            refine (k2 W3).mono ?_
            rintro e W4 ⟨rfl, hb4⟩
            have hB4 := hB3.trans (hb4.mono hB3.size)
            have a4 := a3.next hb4
            clear c0 c1 c2 c3 c4 c5 c6 c7 c8 c9 c10 c11 c12 c13 hB3 hb4 a3
            obtain ⟨c0, c1, c2, c3, c4, c5, c6, c7, c8, c9, c10, c11, c12, c13⟩ := a4.c
            go_wp2_with fail
            refine (k3 W4).mono ?_
            rintro e W5 ⟨rfl, hb5⟩
            have hB5 := hB4.trans (hb5.mono hB4.size)
            have a5 := a4.next hb5
            clear c0 c1 c2 c3 c4 c5 c6 c7 c8 c9 c10 c11 c12 c13 hB4 hb5 a4
            obtain ⟨c0, c1, c2, c3, c4, c5, c6, c7, c8, c9, c10, c11, c12, c13⟩ := a5.c
            go_wp2
            go_ret
            exact ⟨rfl, hB5⟩
    · have hmd : decide (x.mode ≤ 4095) = false := by simpa using hm
      have hme : decide (x.mode < 4096) = false := by simp; omega
      rw [hmd] at hp
      simp only [Bool.true_and, Bool.false_and, Bool.and_false, Bool.and_true] at hp
      rw [show paE false = 1 from rfl] at hp
      go_enter Try.func7, Try.ntmps7
      go_wp2_with fail
      generalize (w.alloc (.cells #[.int .u32 x.kind, .int .u32 x.mode, .int .u32 x.links, .int .u32 x.user, .int .u32 x.group, .int .u64 x.size, .int .u64 x.used, .int .u64 x.id, .int .u32 x.rs, .int .u32 x.rn, .int .u32 x.ws, .int .u32 x.wn, .int .u32 x.ts, .int .u32 x.tn] 28)) = W0 at *
      refine (hp W0).mono ?_
      rintro e W1 ⟨v, rfl, -, hb1⟩
      have hB1 := hB0.trans (hb1.mono hB0.size)
      have a1 := a0.next hb1
      clear c0 c1 c2 c3 c4 c5 c6 c7 c8 c9 c10 c11 c12 c13 hB0 hb1 a0 hp
      obtain ⟨c0, c1, c2, c3, c4, c5, c6, c7, c8, c9, c10, c11, c12, c13⟩ := a1.c
      go_wp2_with fail
      refine (hal W1).mono ?_
      rintro e W2 ⟨rfl, hb2⟩
      have hB2 := hB1.trans (hb2.mono hB1.size)
      have a2 := a1.next hb2
      clear c0 c1 c2 c3 c4 c5 c6 c7 c8 c9 c10 c11 c12 c13 hB1 hb2 a1
      obtain ⟨c0, c1, c2, c3, c4, c5, c6, c7, c8, c9, c10, c11, c12, c13⟩ := a2.c
      go_wp2
      go_ret
      exact ⟨rfl, hB2⟩
  · by_cases hm : x.mode ≤ 4095
    · have hmd : decide (x.mode ≤ 4095) = true := by simpa using hm
      have hme : decide (x.mode < 4096) = true := by simp; omega
      rw [hmd] at hp
      cases R
      · simp only [Bool.true_and, Bool.false_and, Bool.and_false, Bool.and_true] at hp
        rw [show paE false = 1 from rfl] at hp
        go_enter Try.func7, Try.ntmps7
        go_wp2_with fail
        generalize (w.alloc (.cells #[.int .u32 x.kind, .int .u32 x.mode, .int .u32 x.links, .int .u32 x.user, .int .u32 x.group, .int .u64 x.size, .int .u64 x.used, .int .u64 x.id, .int .u32 x.rs, .int .u32 x.rn, .int .u32 x.ws, .int .u32 x.wn, .int .u32 x.ts, .int .u32 x.tn] 28)) = W0 at *
        refine (hp W0).mono ?_
        rintro e W1 ⟨v, rfl, -, hb1⟩
        have hB1 := hB0.trans (hb1.mono hB0.size)
        have a1 := a0.next hb1
        clear c0 c1 c2 c3 c4 c5 c6 c7 c8 c9 c10 c11 c12 c13 hB0 hb1 a0 hp
        obtain ⟨c0, c1, c2, c3, c4, c5, c6, c7, c8, c9, c10, c11, c12, c13⟩ := a1.c
        go_wp2_with fail
        refine (hal W1).mono ?_
        rintro e W2 ⟨rfl, hb2⟩
        have hB2 := hB1.trans (hb2.mono hB1.size)
        have a2 := a1.next hb2
        clear c0 c1 c2 c3 c4 c5 c6 c7 c8 c9 c10 c11 c12 c13 hB1 hb2 a1
        obtain ⟨c0, c1, c2, c3, c4, c5, c6, c7, c8, c9, c10, c11, c12, c13⟩ := a2.c
        go_wp2_with fail
        refine (k1 W2).mono ?_
        rintro e W3 ⟨rfl, hb3⟩
        have hB3 := hB2.trans (hb3.mono hB2.size)
        have a3 := a2.next hb3
        clear c0 c1 c2 c3 c4 c5 c6 c7 c8 c9 c10 c11 c12 c13 hB2 hb3 a2
        obtain ⟨c0, c1, c2, c3, c4, c5, c6, c7, c8, c9, c10, c11, c12, c13⟩ := a3.c
        go_wp2
        go_ret
        exact ⟨rfl, hB3⟩
      · cases V
        · simp only [Bool.true_and, Bool.false_and, Bool.and_false, Bool.and_true] at hp
          rw [show paE false = 1 from rfl] at hp
          go_enter Try.func7, Try.ntmps7
          go_wp2_with fail
          generalize (w.alloc (.cells #[.int .u32 x.kind, .int .u32 x.mode, .int .u32 x.links, .int .u32 x.user, .int .u32 x.group, .int .u64 x.size, .int .u64 x.used, .int .u64 x.id, .int .u32 x.rs, .int .u32 x.rn, .int .u32 x.ws, .int .u32 x.wn, .int .u32 x.ts, .int .u32 x.tn] 28)) = W0 at *
          refine (hp W0).mono ?_
          rintro e W1 ⟨v, rfl, -, hb1⟩
          have hB1 := hB0.trans (hb1.mono hB0.size)
          have a1 := a0.next hb1
          clear c0 c1 c2 c3 c4 c5 c6 c7 c8 c9 c10 c11 c12 c13 hB0 hb1 a0 hp
          obtain ⟨c0, c1, c2, c3, c4, c5, c6, c7, c8, c9, c10, c11, c12, c13⟩ := a1.c
          go_wp2_with fail
          refine (hal W1).mono ?_
          rintro e W2 ⟨rfl, hb2⟩
          have hB2 := hB1.trans (hb2.mono hB1.size)
          have a2 := a1.next hb2
          clear c0 c1 c2 c3 c4 c5 c6 c7 c8 c9 c10 c11 c12 c13 hB1 hb2 a1
          obtain ⟨c0, c1, c2, c3, c4, c5, c6, c7, c8, c9, c10, c11, c12, c13⟩ := a2.c
          go_wp2_with fail
          refine (k1 W2).mono ?_
          rintro e W3 ⟨rfl, hb3⟩
          have hB3 := hB2.trans (hb3.mono hB2.size)
          have a3 := a2.next hb3
          clear c0 c1 c2 c3 c4 c5 c6 c7 c8 c9 c10 c11 c12 c13 hB2 hb3 a2
          obtain ⟨c0, c1, c2, c3, c4, c5, c6, c7, c8, c9, c10, c11, c12, c13⟩ := a3.c
          go_wp2_with fail
          refine (k2 W3).mono ?_
          rintro e W4 ⟨rfl, hb4⟩
          have hB4 := hB3.trans (hb4.mono hB3.size)
          have a4 := a3.next hb4
          clear c0 c1 c2 c3 c4 c5 c6 c7 c8 c9 c10 c11 c12 c13 hB3 hb4 a3
          obtain ⟨c0, c1, c2, c3, c4, c5, c6, c7, c8, c9, c10, c11, c12, c13⟩ := a4.c
          go_wp2
          go_ret
          exact ⟨rfl, hB4⟩
        · cases T
          · simp only [Bool.true_and, Bool.false_and, Bool.and_false, Bool.and_true] at hp
            rw [show paE false = 1 from rfl] at hp
            go_enter Try.func7, Try.ntmps7
            go_wp2_with fail
            generalize (w.alloc (.cells #[.int .u32 x.kind, .int .u32 x.mode, .int .u32 x.links, .int .u32 x.user, .int .u32 x.group, .int .u64 x.size, .int .u64 x.used, .int .u64 x.id, .int .u32 x.rs, .int .u32 x.rn, .int .u32 x.ws, .int .u32 x.wn, .int .u32 x.ts, .int .u32 x.tn] 28)) = W0 at *
            refine (hp W0).mono ?_
            rintro e W1 ⟨v, rfl, -, hb1⟩
            have hB1 := hB0.trans (hb1.mono hB0.size)
            have a1 := a0.next hb1
            clear c0 c1 c2 c3 c4 c5 c6 c7 c8 c9 c10 c11 c12 c13 hB0 hb1 a0 hp
            obtain ⟨c0, c1, c2, c3, c4, c5, c6, c7, c8, c9, c10, c11, c12, c13⟩ := a1.c
            go_wp2_with fail
            refine (hal W1).mono ?_
            rintro e W2 ⟨rfl, hb2⟩
            have hB2 := hB1.trans (hb2.mono hB1.size)
            have a2 := a1.next hb2
            clear c0 c1 c2 c3 c4 c5 c6 c7 c8 c9 c10 c11 c12 c13 hB1 hb2 a1
            obtain ⟨c0, c1, c2, c3, c4, c5, c6, c7, c8, c9, c10, c11, c12, c13⟩ := a2.c
            go_wp2_with fail
            refine (k1 W2).mono ?_
            rintro e W3 ⟨rfl, hb3⟩
            have hB3 := hB2.trans (hb3.mono hB2.size)
            have a3 := a2.next hb3
            clear c0 c1 c2 c3 c4 c5 c6 c7 c8 c9 c10 c11 c12 c13 hB2 hb3 a2
            obtain ⟨c0, c1, c2, c3, c4, c5, c6, c7, c8, c9, c10, c11, c12, c13⟩ := a3.c
            go_wp2_with fail
            refine (k2 W3).mono ?_
            rintro e W4 ⟨rfl, hb4⟩
            have hB4 := hB3.trans (hb4.mono hB3.size)
            have a4 := a3.next hb4
            clear c0 c1 c2 c3 c4 c5 c6 c7 c8 c9 c10 c11 c12 c13 hB3 hb4 a3
            obtain ⟨c0, c1, c2, c3, c4, c5, c6, c7, c8, c9, c10, c11, c12, c13⟩ := a4.c
            go_wp2_with fail
            refine (k3 W4).mono ?_
            rintro e W5 ⟨rfl, hb5⟩
            have hB5 := hB4.trans (hb5.mono hB4.size)
            have a5 := a4.next hb5
            clear c0 c1 c2 c3 c4 c5 c6 c7 c8 c9 c10 c11 c12 c13 hB4 hb5 a4
            obtain ⟨c0, c1, c2, c3, c4, c5, c6, c7, c8, c9, c10, c11, c12, c13⟩ := a5.c
            go_wp2
            go_ret
            exact ⟨rfl, hB5⟩
          · simp only [Bool.true_and, Bool.and_true] at hp
            rw [show paE true = 0 from rfl] at hp
            go_enter Try.func7, Try.ntmps7
            go_wp2_with fail
            generalize (w.alloc (.cells #[.int .u32 x.kind, .int .u32 x.mode, .int .u32 x.links, .int .u32 x.user, .int .u32 x.group, .int .u64 x.size, .int .u64 x.used, .int .u64 x.id, .int .u32 x.rs, .int .u32 x.rn, .int .u32 x.ws, .int .u32 x.wn, .int .u32 x.ts, .int .u32 x.tn] 28)) = W0 at *
            refine (hp W0).mono ?_
            rintro e W1 ⟨v, rfl, -, hb1⟩
            have hB1 := hB0.trans (hb1.mono hB0.size)
            have a1 := a0.next hb1
            clear c0 c1 c2 c3 c4 c5 c6 c7 c8 c9 c10 c11 c12 c13 hB0 hb1 a0 hp
            obtain ⟨c0, c1, c2, c3, c4, c5, c6, c7, c8, c9, c10, c11, c12, c13⟩ := a1.c
            go_wp2_with fail
            refine (hal W1).mono ?_
            rintro e W2 ⟨rfl, hb2⟩
            have hB2 := hB1.trans (hb2.mono hB1.size)
            have a2 := a1.next hb2
            clear c0 c1 c2 c3 c4 c5 c6 c7 c8 c9 c10 c11 c12 c13 hB1 hb2 a1
            obtain ⟨c0, c1, c2, c3, c4, c5, c6, c7, c8, c9, c10, c11, c12, c13⟩ := a2.c
            go_wp2_with fail
            refine (k1 W2).mono ?_
            rintro e W3 ⟨rfl, hb3⟩
            have hB3 := hB2.trans (hb3.mono hB2.size)
            have a3 := a2.next hb3
            clear c0 c1 c2 c3 c4 c5 c6 c7 c8 c9 c10 c11 c12 c13 hB2 hb3 a2
            obtain ⟨c0, c1, c2, c3, c4, c5, c6, c7, c8, c9, c10, c11, c12, c13⟩ := a3.c
            go_wp2_with fail
            refine (k2 W3).mono ?_
            rintro e W4 ⟨rfl, hb4⟩
            have hB4 := hB3.trans (hb4.mono hB3.size)
            have a4 := a3.next hb4
            clear c0 c1 c2 c3 c4 c5 c6 c7 c8 c9 c10 c11 c12 c13 hB3 hb4 a3
            obtain ⟨c0, c1, c2, c3, c4, c5, c6, c7, c8, c9, c10, c11, c12, c13⟩ := a4.c
            go_wp2_with fail
            refine (k3 W4).mono ?_
            rintro e W5 ⟨rfl, hb5⟩
            have hB5 := hB4.trans (hb5.mono hB4.size)
            have a5 := a4.next hb5
            clear c0 c1 c2 c3 c4 c5 c6 c7 c8 c9 c10 c11 c12 c13 hB4 hb5 a4
            obtain ⟨c0, c1, c2, c3, c4, c5, c6, c7, c8, c9, c10, c11, c12, c13⟩ := a5.c
            go_wp2
            go_ret
            exact ⟨rfl, hB5⟩
    · have hmd : decide (x.mode ≤ 4095) = false := by simpa using hm
      have hme : decide (x.mode < 4096) = false := by simp; omega
      rw [hmd] at hp
      simp only [Bool.true_and, Bool.false_and, Bool.and_false, Bool.and_true] at hp
      rw [show paE false = 1 from rfl] at hp
      go_enter Try.func7, Try.ntmps7
      go_wp2_with fail
      generalize (w.alloc (.cells #[.int .u32 x.kind, .int .u32 x.mode, .int .u32 x.links, .int .u32 x.user, .int .u32 x.group, .int .u64 x.size, .int .u64 x.used, .int .u64 x.id, .int .u32 x.rs, .int .u32 x.rn, .int .u32 x.ws, .int .u32 x.wn, .int .u32 x.ts, .int .u32 x.tn] 28)) = W0 at *
      refine (hp W0).mono ?_
      rintro e W1 ⟨v, rfl, -, hb1⟩
      have hB1 := hB0.trans (hb1.mono hB0.size)
      have a1 := a0.next hb1
      clear c0 c1 c2 c3 c4 c5 c6 c7 c8 c9 c10 c11 c12 c13 hB0 hb1 a0 hp
      obtain ⟨c0, c1, c2, c3, c4, c5, c6, c7, c8, c9, c10, c11, c12, c13⟩ := a1.c
      go_wp2_with fail
      refine (hal W1).mono ?_
      rintro e W2 ⟨rfl, hb2⟩
      have hB2 := hB1.trans (hb2.mono hB1.size)
      have a2 := a1.next hb2
      clear c0 c1 c2 c3 c4 c5 c6 c7 c8 c9 c10 c11 c12 c13 hB1 hb2 a1
      obtain ⟨c0, c1, c2, c3, c4, c5, c6, c7, c8, c9, c10, c11, c12, c13⟩ := a2.c
      go_wp2
      go_ret
      exact ⟨rfl, hB2⟩
  · simp only [Bool.true_and, Bool.false_and, Bool.and_false, Bool.and_true] at hp
    rw [show paE false = 1 from rfl] at hp
    go_enter Try.func7, Try.ntmps7
    go_wp2_with fail
    generalize (w.alloc (.cells #[.int .u32 x.kind, .int .u32 x.mode, .int .u32 x.links, .int .u32 x.user, .int .u32 x.group, .int .u64 x.size, .int .u64 x.used, .int .u64 x.id, .int .u32 x.rs, .int .u32 x.rn, .int .u32 x.ws, .int .u32 x.wn, .int .u32 x.ts, .int .u32 x.tn] 28)) = W0 at *
    refine (hp W0).mono ?_
    rintro e W1 ⟨v, rfl, -, hb1⟩
    have hB1 := hB0.trans (hb1.mono hB0.size)
    have a1 := a0.next hb1
    clear c0 c1 c2 c3 c4 c5 c6 c7 c8 c9 c10 c11 c12 c13 hB0 hb1 a0 hp
    obtain ⟨c0, c1, c2, c3, c4, c5, c6, c7, c8, c9, c10, c11, c12, c13⟩ := a1.c
    go_wp2_with fail
    refine (hal W1).mono ?_
    rintro e W2 ⟨rfl, hb2⟩
    have hB2 := hB1.trans (hb2.mono hB1.size)
    have a2 := a1.next hb2
    clear c0 c1 c2 c3 c4 c5 c6 c7 c8 c9 c10 c11 c12 c13 hB1 hb2 a1
    obtain ⟨c0, c1, c2, c3, c4, c5, c6, c7, c8, c9, c10, c11, c12, c13⟩ := a2.c
    go_wp2
    go_ret
    exact ⟨rfl, hB2⟩
end Go.Proofs.Ytecbhhfncklefab
