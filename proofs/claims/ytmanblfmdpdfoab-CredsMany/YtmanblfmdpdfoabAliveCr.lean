/- 'alive' of creds: the answers that the document fixes are given. -/
import Derived.Test.YtmanblfmdpdfoabCredPut
import Derived.Test.YtmanblfmdpdfoabCredGet
import Derived.Test.YtmanblfmdpdfoabCredIn
import Derived.Test.YtmanblfmdpdfoabSameCr
import Derived.Test.YtmanblfmdpdfoabOwnVal4
namespace Go.Proofs.Ytmanblfmdpdfoab
set_option linter.unusedVariables false
open Go.RowKit

/-- The bytes of the document's example. -/
def exB : List Int := [0, 0, 0, 7, 0, 0, 0, 2, 97, 98, 0, 0, 0, 0, 0, 1, 0, 0, 0, 2, 0, 0, 0, 1, 0, 0, 0, 3]
theorem exB_put : credB 7 (tz ⟨#[97, 98]⟩) 1 2 [3] = exB := by decide
theorem exB_got : crE exB = 0 ∧ cgS exB = 7 ∧ cgM exB = [97, 98] ∧ cgU exB = 1 ∧ cgG exB = 2 ∧ cgL exB = [3] := by decide
theorem nil_got : crE [] = 4 := by decide

set_option maxRecDepth 100000 in
set_option maxHeartbeats 2000000 in
theorem alive_any (w : World) : Calls Try.prog 5 #[] w fun e w' => e = .returned (.bool true) ∧ Below w.heap.size w w' := by
  have hput := fun (W : World) (a : Option Addr) (hs : Seg4 W a [3]) => cput_yes 7 ⟨#[97, 98]⟩ 1 2 a 1 1 [3] W (by decide) (by decide) (by decide) (by decide) (by decide) rfl (u32s_of_all (by decide)) hs
  rw [exB_put] at hput
  obtain ⟨q1, q2, q3, q4, q5, q6⟩ := exB_got
  have hfield : ∀ w : World, (Instr.field 25 (.agg #[.int .u32 65534, .int .u32 65534, .slice none 0 0]) 0).run Try.prog w = .ok (.int .u32 65534) w := fun _ => rfl
  go_enter Try.func5, Try.ntmps5
  go_wp2_with fail
  have hB1 : Below w.heap.size w ((w.alloc (.cells #[.int .u32 3] 22)).alloc (.cells #[.int .u32 1, .int .u32 2, .slice (some ⟨w.heap.size, 0, none⟩) 1 1] 25)) := ((Below.refl _ _).alloc (Nat.le_refl _) _).alloc (by simp) _
  have hs1 := (lit_nums1 w 3 22).below ((Below.refl _ _).alloc (Nat.le_refl _) (.cells #[.int .u32 1, .int .u32 2, .slice (some ⟨w.heap.size, 0, none⟩) 1 1] 25))
  have hc1 : ((w.alloc (.cells #[.int .u32 3] 22)).alloc (.cells #[.int .u32 1, .int .u32 2, .slice (some ⟨w.heap.size, 0, none⟩) 1 1] 25)).heap[w.heap.size + 1]? = some (.cells #[.int .u32 1, .int .u32 2, .slice (some ⟨w.heap.size, 0, none⟩) 1 1] 25) := by
    have := heap_alloc_new (w.alloc (.cells #[.int .u32 3] 22)) (.cells #[.int .u32 1, .int .u32 2, .slice (some ⟨w.heap.size, 0, none⟩) 1 1] 25)
    simpa using this
  generalize (w.alloc (.cells #[.int .u32 3] 22)).alloc (.cells #[.int .u32 1, .int .u32 2, .slice (some ⟨w.heap.size, 0, none⟩) 1 1] 25) = w1 at *
  refine (hput w1 _ hs1).mono ?_
  rintro e w2 ⟨v2, rfl, ho2, hb2⟩
  have hB2 := hB1.trans (hb2.mono hB1.size)
  have hs2 := hs1.below hb2
  have hc2 := (hb2.block _ (Array.getElem?_eq_some_iff.1 hc1).1).trans hc1
  obtain ⟨g2, k2, rfl, _, hk2, _⟩ := own_shape ho2 (by decide)
  clear hb2 hs1 hc1 hB1 hput
  go_wp2_with fail
  refine (cget_any _ 28 k2 exB w2 (by assumption) hk2 rfl (byt_of_all (by decide)) (seg_own ho2 rfl)).mono ?_
  rintro e w3 ⟨v3, rfl, ho3, hb3⟩
  rw [q1, q2, q3, q4, q5, show strOfNums [97, 98] = ⟨#[97, 98]⟩ from rfl]
  rw [q6] at ho3
  obtain ⟨a3, k3, rfl, hs3, _, _, _⟩ := own_val4 ho3 rfl
  have hB3 := hB2.trans (hb3.mono hB2.size)
  have hsw3 := hs2.below hb3
  have hc3 := (hb3.block _ (Array.getElem?_eq_some_iff.1 hc2).1).trans hc2
  have ho3' := own_below ho2 hb3
  clear hb3 hs2 hc2 hB2 ho2 ho3 q1 q2 q3 q4 q5 q6
  go_wp2_with fail
  have hb4 : Below w3.heap.size w3 (w3.alloc (.cells #[.int .u32 1, .int .u32 2, .slice a3 1 k3] 25)) := (Below.refl _ _).alloc (Nat.le_refl _) _
  have hd4 : (w3.alloc (.cells #[.int .u32 1, .int .u32 2, .slice a3 1 k3] 25)).heap[w3.heap.size]? = some (.cells #[.int .u32 1, .int .u32 2, .slice a3 1 k3] 25) := heap_alloc_new w3 _
  generalize w3.alloc (.cells #[.int .u32 1, .int .u32 2, .slice a3 1 k3] 25) = w4 at *
  have hB4 := hB3.trans (hb4.mono hB3.size)
  have hsw4 := hsw3.below hb4
  have hs4 := hs3.below hb4
  have hc4 := (hb4.block _ (Array.getElem?_eq_some_iff.1 hc3).1).trans hc3
  have ho4 := own_below ho3' hb4
  generalize w3.heap.size = H3 at *
  clear hb4 hsw3 hs3 hc3 ho3' hB3
  refine (cget_any none 0 0 [] w4 (by omega) (by omega) rfl (byt_of_all (by decide)) (.inl rfl)).mono ?_
  rintro e w5 ⟨v5, rfl, ho5, hb5⟩
  rw [nil_got]
  obtain ⟨a5, k5, rfl, _, _, _, _⟩ := own_val4 ho5 rfl
  clear ho5
  have hB5 := hB4.trans (hb5.mono hB4.size)
  have hsw5 := hsw4.below hb5
  have hs5 := hs4.below hb5
  have hc5 := (hb5.block _ (Array.getElem?_eq_some_iff.1 hc4).1).trans hc4
  have hd5 := (hb5.block _ (Array.getElem?_eq_some_iff.1 hd4).1).trans hd4
  have ho5 := own_below ho4 hb5
  clear hb5 hsw4 hs4 hc4 hd4 ho4 hB4
  generalize cgS [] = z1
  generalize strOfNums (cgM []) = z2
  generalize cgU [] = z3
  generalize cgG [] = z4
  have hb6 : Below w5.heap.size w5 (w5.alloc (.cells #[.int .u32 z3, .int .u32 z4, .slice a5 (cgL []).length k5] 25)) := (Below.refl _ _).alloc (Nat.le_refl _) _
  have hB6 := hB5.trans (hb6.mono hB5.size)
  have hsw6 := hsw5.below hb6
  have hs6 := hs5.below hb6
  have hc6 := (hb6.block _ (Array.getElem?_eq_some_iff.1 hc5).1).trans hc5
  have hd6 := (hb6.block _ (Array.getElem?_eq_some_iff.1 hd5).1).trans hd5
  have td := own_text (own_below ho5 hb6) rfl
  rw [show strOfNums exB = ⟨#[0, 0, 0, 7, 0, 0, 0, 2, 97, 98, 0, 0, 0, 0, 0, 1, 0, 0, 0, 2, 0, 0, 0, 1, 0, 0, 0, 3]⟩ from rfl] at td
  clear hsw5 hs5 hc5 hd5 ho5 hB5
  obtain ⟨c0, c1, c2, _, _, _⟩ := cred_at hc6
  obtain ⟨d0, d1, d2, _, _, _⟩ := cred_at hd6
  go_wp2_with fail
  generalize w5.alloc (.cells #[.int .u32 z3, .int .u32 z4, .slice a5 (cgL []).length k5] 25) = w6 at *
  clear td c0 c1 c2 d0 d1 d2 hb6
  refine (samecred_true 1 2 a3 _ 1 k3 1 [3] w6 (by omega) rfl hs6 hsw6).mono ?_
  rintro e w7 ⟨rfl, hb7⟩
  have hB7 := hB6.trans (hb7.mono hB6.size)
  have hs7 := hs6.below hb7
  have hd7 := (hb7.block _ (Array.getElem?_eq_some_iff.1 hd6).1).trans hd6
  clear hb7 hB6 hs6 hsw6 hc6 hd6
  obtain ⟨d0, d1, d2, _, _, _⟩ := cred_at hd7
  go_wp2_with fail
  refine (in_any 1 2 a3 1 k3 [3] 2 w7 (by omega) rfl hs7).mono ?_
  rintro e w8 ⟨rfl, hb8⟩
  rw [show inG 2 [3] 2 = true from by decide]
  have hB8 := hB7.trans (hb8.mono hB7.size)
  have hs8 := hs7.below hb8
  have hd8 := (hb8.block _ (Array.getElem?_eq_some_iff.1 hd7).1).trans hd7
  clear hb8 hB7 hs7 hd7 d0 d1 d2
  obtain ⟨d0, d1, d2, _, _, _⟩ := cred_at hd8
  go_wp2_with fail
  refine (in_any 1 2 a3 1 k3 [3] 3 w8 (by omega) rfl hs8).mono ?_
  rintro e w9 ⟨rfl, hb9⟩
  rw [show inG 2 [3] 3 = true from by decide]
  have hB9 := hB8.trans (hb9.mono hB8.size)
  have hs9 := hs8.below hb9
  have hd9 := (hb9.block _ (Array.getElem?_eq_some_iff.1 hd8).1).trans hd8
  clear hb9 hB8 hs8 hd8 d0 d1 d2
  obtain ⟨d0, d1, d2, _, _, _⟩ := cred_at hd9
  go_wp2_with fail
  refine (in_any 1 2 a3 1 k3 [3] 1 w9 (by omega) rfl hs9).mono ?_
  rintro e w10 ⟨rfl, hb10⟩
  rw [show inG 2 [3] 1 = false from by decide]
  have hB10 := hB9.trans (hb10.mono hB9.size)
  clear hb10 hB9 hs9 hd9 d0 d1 d2
  go_wp2_with fail
  refine (nobody_any w10).mono ?_
  rintro e w11 ⟨rfl, hb11⟩
  have hB11 := hB10.trans (hb11.mono hB10.size)
  clear hb11 hB10
  go_wp2
  go_ret
  exact ⟨rfl, hB11⟩
end Go.Proofs.Ytmanblfmdpdfoab
