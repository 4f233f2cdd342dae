/- 'alive' of strings: the answers that the document fixes are given. -/
import Derived.Test.YtmeampolndpjeaaLits
import Derived.Test.YtmeampolndpjeaaStrPG
import Derived.Test.YtmeampolndpjeaaNames
namespace Go.Proofs.Ytmeampolndpjeaa
set_option linter.unusedVariables false
open Go.RowKit

set_option maxRecDepth 100000 in
set_option maxHeartbeats 1000000 in
theorem alive_any (w : World) : Calls Try.prog 13 #[] w fun e w' => e = .returned (.bool true) ∧ Below w.heap.size w w' := by
  have kc := fun (w : World) (C : Array Value) (n c : Nat) => Lib.run_convert_bytes_const (P := Try.prog) w 22 5 C n c Try.underlying22 Try.underlying5
  go_enter Try.func13, Try.ntmps13
  go_wp2_with fail
  have hB1 : Below w.heap.size w (w.alloc (.cells #[.int .u8 0, .int .u8 0, .int .u8 0, .int .u8 2, .int .u8 97, .int .u8 98, .int .u8 0, .int .u8 0] 5 (8, 9))) := (Below.refl _ _).alloc (Nat.le_refl _) _
  have hs1 := seg_litm w 5 (8, 9) [0, 0, 0, 2, 97, 98, 0, 0]
  simp only [List.map_cons, List.map_nil] at hs1
  generalize w.alloc (.cells #[.int .u8 0, .int .u8 0, .int .u8 0, .int .u8 2, .int .u8 97, .int .u8 98, .int .u8 0, .int .u8 0] 5 (8, 9)) = w1 at hB1 hs1 ⊢
  refine (strget_any _ 8 8 2 [0, 0, 0, 2, 97, 98, 0, 0] w1 (by omega) (by omega) rfl (byt_of_all (by decide)) hs1 (by omega) (by omega)).mono ?_
  rintro e w2 ⟨rfl, hb2⟩
  rw [show opL [0, 0, 0, 2, 97, 98, 0, 0] 2 = 8 from by decide, show opE [0, 0, 0, 2, 97, 98, 0, 0] 2 = 0 from by decide, show opZ [0, 0, 0, 2, 97, 98, 0, 0] 2 = [97, 98] from by decide, show strOfNums [97, 98] = ⟨#[97, 98]⟩ from rfl]
  clear hs1
  have hB2 := hB1.trans (hb2.mono hB1.size)
  clear hb2 hB1
  go_wp2_with fail
  have hB3 : Below w.heap.size w (w2.alloc (.cells #[.int .u8 0, .int .u8 0, .int .u8 0, .int .u8 2, .int .u8 97, .int .u8 98, .int .u8 0, .int .u8 0] 5 (8, 9))) := hB2.alloc hB2.size _
  have hs3 := seg_litm w2 5 (8, 9) [0, 0, 0, 2, 97, 98, 0, 0]
  simp only [List.map_cons, List.map_nil] at hs3
  generalize w2.alloc (.cells #[.int .u8 0, .int .u8 0, .int .u8 0, .int .u8 2, .int .u8 97, .int .u8 98, .int .u8 0, .int .u8 0] 5 (8, 9)) = w3 at hB3 hs3 ⊢
  clear hB2
  refine (strget_any _ 8 8 1 [0, 0, 0, 2, 97, 98, 0, 0] w3 (by omega) (by omega) rfl (byt_of_all (by decide)) hs3 (by omega) (by omega)).mono ?_
  rintro e w4 ⟨rfl, hb4⟩
  rw [show opL [0, 0, 0, 2, 97, 98, 0, 0] 1 = 0 from by decide, show opE [0, 0, 0, 2, 97, 98, 0, 0] 1 = 3 from by decide, show opZ [0, 0, 0, 2, 97, 98, 0, 0] 1 = [] from by decide, show strOfNums [] = ⟨#[]⟩ from rfl]
  clear hs3
  have hB4 := hB3.trans (hb4.mono hB3.size)
  clear hb4 hB3
  go_wp2_with fail
  refine (strput_any _ w4 (by decide)).mono ?_
  rintro e w5 ⟨v5, rfl, hown5, hb5⟩
  have td := own_text hown5 (by decide)
  rw [show opBytes (tz ⟨#[97, 98]⟩) = [0, 0, 0, 2, 97, 98, 0, 0] from by decide, show strOfNums [0, 0, 0, 2, 97, 98, 0, 0] = ⟨#[0, 0, 0, 2, 97, 98, 0, 0]⟩ from rfl] at td
  clear hown5
  have hB5 := hB4.trans (hb5.mono hB4.size)
  clear hb5 hB4
  go_wp2_with fail
  clear td
  refine (name_any _ w5).mono ?_
  rintro e w6 ⟨rfl, hb6⟩
  rw [show nameE ⟨#[46, 46]⟩ = 0 from by decide]
  have hB6 := hB5.trans (hb6.mono hB5.size)
  clear hb6 hB5
  go_wp2_with fail
  refine (name_any _ w6).mono ?_
  rintro e w7 ⟨rfl, hb7⟩
  rw [show nameE ⟨#[]⟩ = 22 from by decide]
  have hB7 := hB6.trans (hb7.mono hB6.size)
  clear hb7 hB6
  go_wp2_with fail
  refine (name_any _ w7).mono ?_
  rintro e w8 ⟨rfl, hb8⟩
  rw [show nameE ⟨#[97, 47, 98]⟩ = 22 from by decide]
  have hB8 := hB7.trans (hb8.mono hB7.size)
  clear hb8 hB7
  go_wp2_with fail
  refine (path_any _ w8).mono ?_
  rintro e w9 ⟨rfl, hb9⟩
  rw [show pathE ⟨#[47, 97, 47, 98]⟩ = 0 from by decide]
  have hB9 := hB8.trans (hb9.mono hB8.size)
  clear hb9 hB8
  go_wp2_with fail
  refine (path_any _ w9).mono ?_
  rintro e w10 ⟨rfl, hb10⟩
  rw [show pathE ⟨#[]⟩ = 22 from by decide]
  have hB10 := hB9.trans (hb10.mono hB9.size)
  clear hb10 hB9
  go_wp2
  go_ret
  exact ⟨rfl, hB10⟩
end Go.Proofs.Ytmeampolndpjeaa
