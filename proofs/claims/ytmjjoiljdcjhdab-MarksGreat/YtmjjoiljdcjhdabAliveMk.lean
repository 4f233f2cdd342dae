/- 'alive' of marks: the answers that the document fixes are given. -/
import Derived.Test.YtmjjoiljdcjhdabLits
import Derived.Test.YtmjjoiljdcjhdabMCut
import Derived.Test.YtmjjoiljdcjhdabMAll
namespace Go.Proofs.Ytmjjoiljdcjhdab
set_option linter.unusedVariables false
open Go.RowKit

set_option maxRecDepth 100000 in
set_option maxHeartbeats 2000000 in
theorem alive_any (w : World) : Calls Try.prog 5 #[] w fun e w' => e = .returned (.bool true) ∧ Below w.heap.size w w' := by
  have kc := fun (w : World) (C : Array Value) (n c : Nat) => Lib.run_convert_bytes_const (P := Try.prog) w 22 5 C n c Try.underlying22 Try.underlying5
  go_enter Try.func5, Try.ntmps5
  go_wp2_with fail
  have hB1 : Below w.heap.size w (w.alloc (.cells #[.int .u8 97, .int .u8 98] 5 (2, 3))) := (Below.refl _ _).alloc (Nat.le_refl _) _
  have hs1 := seg_litm w 5 (2, 3) [97, 98]
  simp only [List.map_cons, List.map_nil] at hs1
  generalize w.alloc (.cells #[.int .u8 97, .int .u8 98] 5 (2, 3)) = w1 at *
  refine (mput_any _ 2 2 [97, 98] w1 (by omega) (by omega) rfl hs1 (by simp)).mono ?_
  rintro e w2 ⟨v, rfl, hown, hb2⟩
  rw [show putZs [97, 98] = [128, 0, 0, 2, 97, 98] from by decide] at hown
  rw [show putE 2 = 0 from by decide]
  clear hs1
  rw [show ([128, 0, 0, 2, 97, 98] : List Int).length = 6 from rfl] at hown
  obtain ⟨gA, cA, rfl, _⟩ := own_shape hown (by decide)
  have sA := seg_own hown rfl
  clear hown
  have hB2 := hB1.trans (hb2.mono hB1.size)
  clear hb2 hB1
  go_wp2_with fail
  have hB3 : Below w.heap.size w (w2.alloc (.cells #[.int .u8 97, .int .u8 98, .int .u8 99] 5 (3, 4))) := hB2.alloc hB2.size _
  have hs3 := seg_litm w2 5 (3, 4) [97, 98, 99]
  simp only [List.map_cons, List.map_nil] at hs3
  replace sA := sA.below ((Below.refl _ _).alloc (Nat.le_refl _) (.cells #[.int .u8 97, .int .u8 98, .int .u8 99] 5 (3, 4)))
  generalize w2.alloc (.cells #[.int .u8 97, .int .u8 98, .int .u8 99] 5 (3, 4)) = w3 at *
  clear hB2
  refine (cut_any _ 3 3 2 [97, 98, 99] w3 (by omega) (by omega) rfl hs3 (by simp) (by omega) (by omega)).mono ?_
  rintro e w4 ⟨v, rfl, hown, hb4⟩
  rw [show cutZs 2 [97, 98, 99] = [0, 0, 0, 2, 97, 98, 128, 0, 0, 1, 99] from by decide] at hown
  rw [show cutE 2 3 = 0 from by decide]
  clear hs3
  rw [show ([0, 0, 0, 2, 97, 98, 128, 0, 0, 1, 99] : List Int).length = 11 from rfl] at hown
  obtain ⟨gB, cB, rfl, _⟩ := own_shape hown (by decide)
  have sB := seg_own hown rfl
  clear hown
  have hB4 := hB3.trans (hb4.mono hB3.size)
  replace sA := sA.below hb4
  clear hb4 hB3
  go_wp2_with fail
  have hB5 : Below w.heap.size w (w4.alloc (.cells #[.int .u8 0, .int .u8 0, .int .u8 0, .int .u8 1, .int .u8 97, .int .u8 128, .int .u8 0, .int .u8 0, .int .u8 1, .int .u8 98, .int .u8 55] 5 (11, 12))) := hB4.alloc hB4.size _
  have hs5 := seg_litm w4 5 (11, 12) [0, 0, 0, 1, 97, 128, 0, 0, 1, 98, 55]
  simp only [List.map_cons, List.map_nil] at hs5
  replace sA := sA.below ((Below.refl _ _).alloc (Nat.le_refl _) (.cells #[.int .u8 0, .int .u8 0, .int .u8 0, .int .u8 1, .int .u8 97, .int .u8 128, .int .u8 0, .int .u8 0, .int .u8 1, .int .u8 98, .int .u8 55] 5 (11, 12)))
  replace sB := sB.below ((Below.refl _ _).alloc (Nat.le_refl _) (.cells #[.int .u8 0, .int .u8 0, .int .u8 0, .int .u8 1, .int .u8 97, .int .u8 128, .int .u8 0, .int .u8 0, .int .u8 1, .int .u8 98, .int .u8 55] 5 (11, 12)))
  generalize w4.alloc (.cells #[.int .u8 0, .int .u8 0, .int .u8 0, .int .u8 1, .int .u8 97, .int .u8 128, .int .u8 0, .int .u8 0, .int .u8 1, .int .u8 98, .int .u8 55] 5 (11, 12)) = w5 at *
  clear hB4
  refine (mget_any _ 11 11 [0, 0, 0, 1, 97, 128, 0, 0, 1, 98, 55] w5 (by omega) (by omega) rfl (byt_of_all (by decide)) hs5 (by simp)).mono ?_
  rintro e w6 ⟨v, rfl, hown, hb6⟩
  rw [show mg 65536 [0, 0, 0, 1, 97, 128, 0, 0, 1, 98, 55] = (0, [97, 98], 10) from by decide] at hown ⊢
  dsimp only at hown ⊢
  clear hs5
  rw [show ([97, 98] : List Int).length = 2 from rfl] at hown
  obtain ⟨gC, cC, rfl, _⟩ := own_shape hown (by decide)
  have sC := seg_own hown rfl
  clear hown
  have hB6 := hB5.trans (hb6.mono hB5.size)
  replace sA := sA.below hb6
  replace sB := sB.below hb6
  clear hb6 hB5
  go_wp2_with fail
  have hB7 : Below w.heap.size w (w6.alloc (.cells #[.int .u8 0, .int .u8 0, .int .u8 0, .int .u8 0, .int .u8 128, .int .u8 0, .int .u8 0, .int .u8 0] 5 (8, 9))) := hB6.alloc hB6.size _
  have hs7 := seg_litm w6 5 (8, 9) [0, 0, 0, 0, 128, 0, 0, 0]
  simp only [List.map_cons, List.map_nil] at hs7
  replace sA := sA.below ((Below.refl _ _).alloc (Nat.le_refl _) (.cells #[.int .u8 0, .int .u8 0, .int .u8 0, .int .u8 0, .int .u8 128, .int .u8 0, .int .u8 0, .int .u8 0] 5 (8, 9)))
  replace sB := sB.below ((Below.refl _ _).alloc (Nat.le_refl _) (.cells #[.int .u8 0, .int .u8 0, .int .u8 0, .int .u8 0, .int .u8 128, .int .u8 0, .int .u8 0, .int .u8 0] 5 (8, 9)))
  replace sC := sC.below ((Below.refl _ _).alloc (Nat.le_refl _) (.cells #[.int .u8 0, .int .u8 0, .int .u8 0, .int .u8 0, .int .u8 128, .int .u8 0, .int .u8 0, .int .u8 0] 5 (8, 9)))
  generalize w6.alloc (.cells #[.int .u8 0, .int .u8 0, .int .u8 0, .int .u8 0, .int .u8 128, .int .u8 0, .int .u8 0, .int .u8 0] 5 (8, 9)) = w7 at *
  clear hB6
  refine (mget_any _ 8 8 [0, 0, 0, 0, 128, 0, 0, 0] w7 (by omega) (by omega) rfl (byt_of_all (by decide)) hs7 (by simp)).mono ?_
  rintro e w8 ⟨v, rfl, hown, hb8⟩
  rw [show mg 65536 [0, 0, 0, 0, 128, 0, 0, 0] = (5, [], 0) from by decide] at hown ⊢
  dsimp only at hown ⊢
  clear hs7
  clear hown
  have hB8 := hB7.trans (hb8.mono hB7.size)
  replace sA := sA.below hb8
  replace sB := sB.below hb8
  replace sC := sC.below hb8
  clear hb8 hB7
  go_wp2_with fail
  have hB9 : Below w.heap.size w (w8.alloc (.cells #[.int .u8 128, .int .u8 1, .int .u8 0, .int .u8 1] 5 (4, 5))) := hB8.alloc hB8.size _
  have hs9 := seg_litm w8 5 (4, 5) [128, 1, 0, 1]
  simp only [List.map_cons, List.map_nil] at hs9
  replace sA := sA.below ((Below.refl _ _).alloc (Nat.le_refl _) (.cells #[.int .u8 128, .int .u8 1, .int .u8 0, .int .u8 1] 5 (4, 5)))
  replace sB := sB.below ((Below.refl _ _).alloc (Nat.le_refl _) (.cells #[.int .u8 128, .int .u8 1, .int .u8 0, .int .u8 1] 5 (4, 5)))
  replace sC := sC.below ((Below.refl _ _).alloc (Nat.le_refl _) (.cells #[.int .u8 128, .int .u8 1, .int .u8 0, .int .u8 1] 5 (4, 5)))
  generalize w8.alloc (.cells #[.int .u8 128, .int .u8 1, .int .u8 0, .int .u8 1] 5 (4, 5)) = w9 at *
  clear hB8
  refine (mget_any _ 4 4 [128, 1, 0, 1] w9 (by omega) (by omega) rfl (byt_of_all (by decide)) hs9 (by simp)).mono ?_
  rintro e w10 ⟨v, rfl, hown, hb10⟩
  rw [show mg 65536 [128, 1, 0, 1] = (3, [], 0) from by decide] at hown ⊢
  dsimp only at hown ⊢
  clear hs9
  clear hown
  have hB10 := hB9.trans (hb10.mono hB9.size)
  replace sA := sA.below hb10
  replace sB := sB.below hb10
  replace sC := sC.below hb10
  clear hb10 hB9
  go_wp2_with fail
  have hB11 : Below w.heap.size w (w10.alloc (.cells #[.int .u8 128, .int .u8 0, .int .u8 0, .int .u8 1, .int .u8 97, .int .u8 0, .int .u8 0, .int .u8 0, .int .u8 0] 5 (9, 10))) := hB10.alloc hB10.size _
  have hs11 := seg_litm w10 5 (9, 10) [128, 0, 0, 1, 97, 0, 0, 0, 0]
  simp only [List.map_cons, List.map_nil] at hs11
  replace sA := sA.below ((Below.refl _ _).alloc (Nat.le_refl _) (.cells #[.int .u8 128, .int .u8 0, .int .u8 0, .int .u8 1, .int .u8 97, .int .u8 0, .int .u8 0, .int .u8 0, .int .u8 0] 5 (9, 10)))
  replace sB := sB.below ((Below.refl _ _).alloc (Nat.le_refl _) (.cells #[.int .u8 128, .int .u8 0, .int .u8 0, .int .u8 1, .int .u8 97, .int .u8 0, .int .u8 0, .int .u8 0, .int .u8 0] 5 (9, 10)))
  replace sC := sC.below ((Below.refl _ _).alloc (Nat.le_refl _) (.cells #[.int .u8 128, .int .u8 0, .int .u8 0, .int .u8 1, .int .u8 97, .int .u8 0, .int .u8 0, .int .u8 0, .int .u8 0] 5 (9, 10)))
  generalize w10.alloc (.cells #[.int .u8 128, .int .u8 0, .int .u8 0, .int .u8 1, .int .u8 97, .int .u8 0, .int .u8 0, .int .u8 0, .int .u8 0] 5 (9, 10)) = w11 at *
  clear hB10
  refine (all_any _ 9 9 [128, 0, 0, 1, 97, 0, 0, 0, 0] w11 (by omega) (by omega) (by omega) rfl (byt_of_all (by decide)) hs11 (by simp)).mono ?_
  rintro e w12 ⟨v, ps, rfl, hps, hrow, _, _, hb12⟩
  rw [show mall [128, 0, 0, 1, 97, 0, 0, 0, 0] = ([[97]], 5, 5) from by decide] at hps ⊢
  dsimp only at hps ⊢
  have hpl : ps.length = 1 := by simpa using congrArg List.length hps
  rw [hpl] at hrow
  obtain ⟨al, cl, rfl⟩ := row_shape hrow
  clear hs11 hrow hps hpl
  have hB12 := hB11.trans (hb12.mono hB11.size)
  replace sA := sA.below hb12
  replace sB := sB.below hb12
  replace sC := sC.below hb12
  clear hb12 hB11
  have tA := seg_text (n := 6) (cap := cA) sA rfl (by omega)
  have tB := seg_text (n := 11) (cap := cB) sB rfl (by omega)
  have tC := seg_text (n := 2) (cap := cC) sC rfl (by omega)
  rw [show strOfNums [128, 0, 0, 2, 97, 98] = ⟨#[128, 0, 0, 2, 97, 98]⟩ from rfl] at tA
  rw [show strOfNums [0, 0, 0, 2, 97, 98, 128, 0, 0, 1, 99] = ⟨#[0, 0, 0, 2, 97, 98, 128, 0, 0, 1, 99]⟩ from rfl] at tB
  rw [show strOfNums [97, 98] = ⟨#[97, 98]⟩ from rfl] at tC
  clear sA sB sC
  go_wp2
  go_ret
  exact ⟨rfl, hB12⟩
end Go.Proofs.Ytmjjoiljdcjhdab
