/- 'alive': the document's fixed answers hold; true; nothing that was there turns. -/
import Derived.Test.YtkknlfmkhckgcabSame
import Derived.Test.YtkknlfmkhckgcabRead
import Derived.Test.YtkknlfmkhckgcabYes
import Derived.Test.YtkknlfmkhckgcabPut
import Derived.WalkSmall
namespace Go.Proofs.Ytkknlfmkhckgcab
set_option linter.unusedVariables false
open Go.RowKit

set_option maxRecDepth 100000 in
set_option maxHeartbeats 1000000 in
theorem alive_any (w : World) : Calls Try.prog 5 #[] w fun e w' => e = .returned (.bool true) ∧ Below w.heap.size w w' := by
  go_enter Try.func5, Try.ntmps5
  go_wp2_with fail
  refine (get_any _ 5 5 [255, 255, 255, 254, 7] _ (by omega) (by omega) rfl (byt_of_all (by decide)) (by exact seg_lit _ _ _)).mono ?_
  rintro e w' ⟨rfl, rfl⟩
  rw [show getN [255, 255, 255, 254, 7] = 4294967294 from by decide, show getE [255, 255, 255, 254, 7] = 0 from by decide]
  have hB1 : Below w.heap.size w (w.alloc (.cells #[.int .u8 255, .int .u8 255, .int .u8 255, .int .u8 254, .int .u8 7] 5)) := (Below.refl _ _).alloc (Nat.le_refl _) _
  generalize w.alloc (.cells #[.int .u8 255, .int .u8 255, .int .u8 255, .int .u8 254, .int .u8 7] 5) = w1 at hB1 ⊢
  go_wp2_with fail
  refine (get_any _ 3 3 [1, 2, 3] _ (by omega) (by omega) rfl (byt_of_all (by decide)) (by exact seg_lit _ _ _)).mono ?_
  rintro e w' ⟨rfl, rfl⟩
  rw [show getN [1, 2, 3] = 0 from by decide, show getE [1, 2, 3] = 4 from by decide]
  have hB2 : Below w.heap.size w (w1.alloc (.cells #[.int .u8 1, .int .u8 2, .int .u8 3] 5)) := hB1.alloc hB1.size _
  generalize w1.alloc (.cells #[.int .u8 1, .int .u8 2, .int .u8 3] 5) = w2 at hB2 ⊢
  clear hB1
  go_wp2_with fail
  refine (getlong_any _ 8 8 [1, 2, 3, 4, 5, 6, 7, 8] _ (by omega) (by omega) rfl (byt_of_all (by decide)) (by exact seg_lit _ _ _)).mono ?_
  rintro e w' ⟨rfl, rfl⟩
  rw [show getM [1, 2, 3, 4, 5, 6, 7, 8] = 72623859790382856 from by decide, show getF [1, 2, 3, 4, 5, 6, 7, 8] = 0 from by decide]
  have hB3 : Below w.heap.size w (w2.alloc (.cells #[.int .u8 1, .int .u8 2, .int .u8 3, .int .u8 4, .int .u8 5, .int .u8 6, .int .u8 7, .int .u8 8] 5)) := hB2.alloc hB2.size _
  generalize w2.alloc (.cells #[.int .u8 1, .int .u8 2, .int .u8 3, .int .u8 4, .int .u8 5, .int .u8 6, .int .u8 7, .int .u8 8] 5) = w3 at hB3 ⊢
  clear hB2
  go_wp2_with fail
  refine (getyes_any _ 4 4 [0, 0, 0, 2] _ (by omega) (by omega) rfl (byt_of_all (by decide)) (by exact seg_lit _ _ _)).mono ?_
  rintro e w' ⟨rfl, rfl⟩
  rw [show getY [0, 0, 0, 2] = false from by decide, show getG [0, 0, 0, 2] = 5 from by decide]
  have hB4 : Below w.heap.size w (w3.alloc (.cells #[.int .u8 0, .int .u8 0, .int .u8 0, .int .u8 2] 5)) := hB3.alloc hB3.size _
  generalize w3.alloc (.cells #[.int .u8 0, .int .u8 0, .int .u8 0, .int .u8 2] 5) = w4 at hB4 ⊢
  clear hB3
  go_wp2_with fail
  refine (Put_any 258 (by omega) (by omega) _).mono ?_
  rintro e w5 ⟨rfl, hown5, hb5⟩
  rw [show bytesOf 258 4 = [0, 0, 1, 2] from by decide] at hown5
  have s5 := seg_own hown5 rfl
  have hB5 := hB4.trans (hb5.mono hB4.size)
  generalize w4.heap.size = g5 at *
  clear hown5 hb5 hB4
  go_wp2_with fail
  have s6 := s5.below ((Below.refl _ _).alloc (Nat.le_refl _) (.cells #[.int .u8 0, .int .u8 0, .int .u8 1, .int .u8 2] 5))
  have t6 : Seg (w5.alloc (.cells #[.int .u8 0, .int .u8 0, .int .u8 1, .int .u8 2] 5)) (some ⟨w5.heap.size, 0, none⟩) [0, 0, 1, 2] := seg_lit w5 5 [0, 0, 1, 2]
  have hB6 : Below w.heap.size w (w5.alloc (.cells #[.int .u8 0, .int .u8 0, .int .u8 1, .int .u8 2] 5)) := hB5.alloc hB5.size _
  generalize w5.alloc (.cells #[.int .u8 0, .int .u8 0, .int .u8 1, .int .u8 2] 5) = w6 at hB6 s6 t6 ⊢
  clear hB5
  refine (same_true _ _ 4 4 4 [0, 0, 1, 2] _ (by omega) rfl s6 t6).mono ?_
  rintro e w' ⟨rfl, n6, rfl⟩
  have hB7 := below_drewN hB6 n6
  clear s5 s6 t6 hB6
  generalize w6.drewN n6 = w7 at hB7 ⊢
  go_wp2_with fail
  refine (PutLong_any 258 (by omega) (by omega) _).mono ?_
  rintro e w8 ⟨rfl, hown8, hb8⟩
  rw [show bytesOf 258 8 = [0, 0, 0, 0, 0, 0, 1, 2] from by decide] at hown8
  have s8 := seg_own hown8 rfl
  have hB8 := hB7.trans (hb8.mono hB7.size)
  generalize w7.heap.size = g8 at *
  clear hown8 hb8 hB7
  go_wp2_with fail
  have s9 := s8.below ((Below.refl _ _).alloc (Nat.le_refl _) (.cells #[.int .u8 0, .int .u8 0, .int .u8 0, .int .u8 0, .int .u8 0, .int .u8 0, .int .u8 1, .int .u8 2] 5))
  have t9 : Seg (w8.alloc (.cells #[.int .u8 0, .int .u8 0, .int .u8 0, .int .u8 0, .int .u8 0, .int .u8 0, .int .u8 1, .int .u8 2] 5)) (some ⟨w8.heap.size, 0, none⟩) [0, 0, 0, 0, 0, 0, 1, 2] := seg_lit w8 5 [0, 0, 0, 0, 0, 0, 1, 2]
  have hB9 : Below w.heap.size w (w8.alloc (.cells #[.int .u8 0, .int .u8 0, .int .u8 0, .int .u8 0, .int .u8 0, .int .u8 0, .int .u8 1, .int .u8 2] 5)) := hB8.alloc hB8.size _
  generalize w8.alloc (.cells #[.int .u8 0, .int .u8 0, .int .u8 0, .int .u8 0, .int .u8 0, .int .u8 0, .int .u8 1, .int .u8 2] 5) = w9 at hB9 s9 t9 ⊢
  clear hB8
  refine (same_true _ _ 8 8 8 [0, 0, 0, 0, 0, 0, 1, 2] _ (by omega) rfl s9 t9).mono ?_
  rintro e w' ⟨rfl, n9, rfl⟩
  have hB10 := below_drewN hB9 n9
  clear s8 s9 t9 hB9
  generalize w9.drewN n9 = w10 at hB10 ⊢
  go_wp2_with fail
  refine (PutYes_any true _).mono ?_
  rintro e w11 ⟨rfl, hown11, hb11⟩
  rw [show bytesOf (if true then 1 else 0) 4 = [0, 0, 0, 1] from by decide] at hown11
  have s11 := seg_own hown11 rfl
  have hB11 := hB10.trans (hb11.mono hB10.size)
  generalize w10.heap.size = g11 at *
  clear hown11 hb11 hB10
  go_wp2_with fail
  have s12 := s11.below ((Below.refl _ _).alloc (Nat.le_refl _) (.cells #[.int .u8 0, .int .u8 0, .int .u8 0, .int .u8 1] 5))
  have t12 : Seg (w11.alloc (.cells #[.int .u8 0, .int .u8 0, .int .u8 0, .int .u8 1] 5)) (some ⟨w11.heap.size, 0, none⟩) [0, 0, 0, 1] := seg_lit w11 5 [0, 0, 0, 1]
  have hB12 : Below w.heap.size w (w11.alloc (.cells #[.int .u8 0, .int .u8 0, .int .u8 0, .int .u8 1] 5)) := hB11.alloc hB11.size _
  generalize w11.alloc (.cells #[.int .u8 0, .int .u8 0, .int .u8 0, .int .u8 1] 5) = w12 at hB12 s12 t12 ⊢
  clear hB11
  refine (same_true _ _ 4 4 4 [0, 0, 0, 1] _ (by omega) rfl s12 t12).mono ?_
  rintro e w' ⟨rfl, n12, rfl⟩
  have hB13 := below_drewN hB12 n12
  clear s11 s12 t12 hB12
  generalize w12.drewN n12 = w13 at hB13 ⊢
  go_wp2
  go_ret
  exact ⟨rfl, hB13⟩
end Go.Proofs.Ytkknlfmkhckgcab
