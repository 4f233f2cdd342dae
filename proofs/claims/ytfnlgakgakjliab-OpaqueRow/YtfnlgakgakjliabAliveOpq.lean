/- 'alive' of the second law: the document's fixed answers hold; true; nothing that was there turns. -/
import Derived.Test.YtfnlgakgakjliabGetOpq
import Derived.Test.YtfnlgakgakjliabPutOpq
import Derived.Laws.BytesArg
import Derived.WalkSmall
import Derived.Lib.SlBytesConst
namespace Go.Proofs.Ytfnlgakgakjliab
set_option linter.unusedVariables false
open Go.RowKit

/-- Bytes written out in a new block that bears a mark. -/
theorem seg_litm (w : World) (t : TypeId) (fz : Nat × Nat) (zs : List Int) : Seg (w.alloc (.cells (zs.map (Value.int .u8)).toArray t fz)) (some ⟨w.heap.size, 0, none⟩) zs := by
  refine .inr ⟨_, _, rfl, fun i hi => ?_⟩
  have h : (w.alloc (.cells (zs.map (Value.int .u8)).toArray t fz)).heap[w.heap.size]? = some (.cells (zs.map (Value.int .u8)).toArray t fz) := by
    show (w.heap.push _)[w.heap.size]? = _
    simp
  simp only [World.cell?, h]
  simp [List.getElem?_eq_getElem hi]

theorem seg_text {w : World} {g off n cap : Nat} {zs : List Int} (h : Seg w (some ⟨g, off, none⟩) zs) (hz : zs.length = n) (hn : 0 < n) :
    (convert 22 9 (.slice (some ⟨g, off, none⟩) n cap)).run Try.prog w = .ok (.string (strOfNums zs)) w := by
  rcases h with rfl | ⟨b, o, e, hc⟩
  · simp at hz; omega
  · cases e
    exact run_convert_bytes_arg w 22 5 Try.underlying22 Try.underlying5 g off n cap zs hz (fun i hi => by rw [hc i (by omega)]; simp [List.getD]) 9 Try.underlying9

set_option maxRecDepth 100000 in
set_option maxHeartbeats 1000000 in
theorem alive_any (w : World) : Calls Try.prog 5 #[] w fun e w' => e = .returned (.bool true) ∧ Below w.heap.size w w' := by
  have kc := fun (w : World) (C : Array Value) (n c : Nat) => Lib.run_convert_bytes_const (P := Try.prog) w 22 5 C n c Try.underlying22 Try.underlying5
  go_enter Try.func5, Try.ntmps5
  go_wp2_with fail
  have hB1 : Below w.heap.size w (w.alloc (.cells #[.int .u8 0, .int .u8 0, .int .u8 0, .int .u8 1, .int .u8 97, .int .u8 0, .int .u8 0, .int .u8 0, .int .u8 55] 5 (9, 10))) := (Below.refl _ _).alloc (Nat.le_refl _) _
  have hs1 := seg_litm w 5 (9, 10) [0, 0, 0, 1, 97, 0, 0, 0, 55]
  simp only [List.map_cons, List.map_nil] at hs1
  generalize w.alloc (.cells #[.int .u8 0, .int .u8 0, .int .u8 0, .int .u8 1, .int .u8 97, .int .u8 0, .int .u8 0, .int .u8 0, .int .u8 55] 5 (9, 10)) = w1 at hB1 hs1 ⊢
  refine (getopq_any _ 9 9 1 [0, 0, 0, 1, 97, 0, 0, 0, 55] w1 (by omega) (by omega) rfl (byt_of_all (by decide)) hs1 (by omega) (by omega)).mono ?_
  rintro e w2 ⟨v2, rfl, hown2, hb2⟩
  rw [show opL [0, 0, 0, 1, 97, 0, 0, 0, 55] 1 = 8 from by decide, show opE [0, 0, 0, 1, 97, 0, 0, 0, 55] 1 = 0 from by decide]
  rw [show opZ [0, 0, 0, 1, 97, 0, 0, 0, 55] 1 = [97] from by decide] at hown2
  have hB2 := hB1.trans (hb2.mono hB1.size)
  obtain ⟨g2, c2, rfl, hc2, hd2, he2⟩ := own_shape hown2 (by decide)
  have sa := seg_own hown2 rfl
  clear hs1 hown2 hb2 hB1 he2
  go_wp2_with fail
  have hB3 : Below w.heap.size w (w2.alloc (.cells #[.int .u8 0, .int .u8 0, .int .u8 0, .int .u8 1, .int .u8 97, .int .u8 0, .int .u8 1, .int .u8 0] 5 (8, 9))) := hB2.alloc hB2.size _
  have hs3 := seg_litm w2 5 (8, 9) [0, 0, 0, 1, 97, 0, 1, 0]
  simp only [List.map_cons, List.map_nil] at hs3
  replace sa := Seg.below sa ((Below.refl _ _).alloc (Nat.le_refl _) (.cells #[.int .u8 0, .int .u8 0, .int .u8 0, .int .u8 1, .int .u8 97, .int .u8 0, .int .u8 1, .int .u8 0] 5 (8, 9)))
  generalize w2.alloc (.cells #[.int .u8 0, .int .u8 0, .int .u8 0, .int .u8 1, .int .u8 97, .int .u8 0, .int .u8 1, .int .u8 0] 5 (8, 9)) = w3 at hB3 hs3 sa ⊢
  clear hB2
  refine (getopq_any _ 8 8 9 [0, 0, 0, 1, 97, 0, 1, 0] w3 (by omega) (by omega) rfl (byt_of_all (by decide)) hs3 (by omega) (by omega)).mono ?_
  rintro e w4 ⟨v4, rfl, hown4, hb4⟩
  rw [show opL [0, 0, 0, 1, 97, 0, 1, 0] 9 = 0 from by decide, show opE [0, 0, 0, 1, 97, 0, 1, 0] 9 = 5 from by decide]
  rw [show opZ [0, 0, 0, 1, 97, 0, 1, 0] 9 = [] from by decide] at hown4
  have hB4 := hB3.trans (hb4.mono hB3.size)
  replace sa := Seg.below sa hb4
  clear hs3 hown4 hb4 hB3
  go_wp2_with fail
  have hB5 : Below w.heap.size w (w4.alloc (.cells #[.int .u8 0, .int .u8 0, .int .u8 0, .int .u8 2, .int .u8 97, .int .u8 98, .int .u8 0, .int .u8 0] 5 (8, 9))) := hB4.alloc hB4.size _
  have hs5 := seg_litm w4 5 (8, 9) [0, 0, 0, 2, 97, 98, 0, 0]
  simp only [List.map_cons, List.map_nil] at hs5
  replace sa := Seg.below sa ((Below.refl _ _).alloc (Nat.le_refl _) (.cells #[.int .u8 0, .int .u8 0, .int .u8 0, .int .u8 2, .int .u8 97, .int .u8 98, .int .u8 0, .int .u8 0] 5 (8, 9)))
  generalize w4.alloc (.cells #[.int .u8 0, .int .u8 0, .int .u8 0, .int .u8 2, .int .u8 97, .int .u8 98, .int .u8 0, .int .u8 0] 5 (8, 9)) = w5 at hB5 hs5 sa ⊢
  clear hB4
  refine (getopq_any _ 8 8 1 [0, 0, 0, 2, 97, 98, 0, 0] w5 (by omega) (by omega) rfl (byt_of_all (by decide)) hs5 (by omega) (by omega)).mono ?_
  rintro e w6 ⟨v6, rfl, hown6, hb6⟩
  rw [show opL [0, 0, 0, 2, 97, 98, 0, 0] 1 = 0 from by decide, show opE [0, 0, 0, 2, 97, 98, 0, 0] 1 = 3 from by decide]
  rw [show opZ [0, 0, 0, 2, 97, 98, 0, 0] 1 = [] from by decide] at hown6
  have hB6 := hB5.trans (hb6.mono hB5.size)
  replace sa := Seg.below sa hb6
  clear hs5 hown6 hb6 hB5
  go_wp2_with fail
  have hB7 : Below w.heap.size w (w6.alloc (.cells #[.int .u8 97, .int .u8 0, .int .u8 0, .int .u8 0] 5 (4, 5))) := hB6.alloc hB6.size _
  have hs7 := seg_litm w6 5 (4, 5) [97, 0, 0, 0]
  simp only [List.map_cons, List.map_nil] at hs7
  replace sa := Seg.below sa ((Below.refl _ _).alloc (Nat.le_refl _) (.cells #[.int .u8 97, .int .u8 0, .int .u8 0, .int .u8 0] 5 (4, 5)))
  generalize w6.alloc (.cells #[.int .u8 97, .int .u8 0, .int .u8 0, .int .u8 0] 5 (4, 5)) = w7 at hB7 hs7 sa ⊢
  clear hB6
  refine (getfixed_any _ 4 4 1 [97, 0, 0, 0] w7 (by omega) (by omega) rfl (byt_of_all (by decide)) hs7 (by simp) (by omega) (by omega)).mono ?_
  rintro e w8 ⟨v8, rfl, hown8, hb8⟩
  rw [show fxL [97, 0, 0, 0] 1 = 4 from by decide, show fxE [97, 0, 0, 0] 1 = 0 from by decide]
  rw [show fxZ [97, 0, 0, 0] 1 = [97] from by decide] at hown8
  have hB8 := hB7.trans (hb8.mono hB7.size)
  replace sa := Seg.below sa hb8
  obtain ⟨g8, c8, rfl, hc8, hd8, he8⟩ := own_shape hown8 (by decide)
  have sb := seg_own hown8 rfl
  clear hs7 hown8 hb8 hB7 he8
  go_wp2_with fail
  refine (getfixed_any none 0 0 (-1) [] w8 (by omega) (by omega) rfl Byt.nil (.inl rfl) (by simp) (by omega) (by omega)).mono ?_
  rintro e w9 ⟨v9, rfl, hown9, hb9⟩
  rw [show fxL [] (-1) = 0 from by decide, show fxE [] (-1) = 1 from by decide]
  have hB9 := hB8.trans (hb9.mono hB8.size)
  replace sa := Seg.below sa hb9
  replace sb := Seg.below sb hb9
  clear hown9 hb9 hB8
  have ta := seg_text (cap := c2) sa rfl (by decide)
  have tb := seg_text (cap := c8) sb rfl (by decide)
  rw [show strOfNums [97] = ⟨#[97]⟩ from rfl] at ta tb
  clear sa sb
  simp only [List.length_cons, List.length_nil, Nat.reduceAdd] at ta tb
  go_wp2_with (go_at_call 9; refine (pad_nat 1 _ (by omega)).mono ?_; rintro e w' ⟨rfl, hw'⟩; subst w'; rw [show padN 1 = 3 from rfl])
  clear ta tb
  have hB10 : Below w.heap.size w (w9.alloc (.cells #[.int .u8 97, .int .u8 98, .int .u8 99, .int .u8 100, .int .u8 101] 5 (5, 6))) := hB9.alloc hB9.size _
  have hs10 := seg_litm w9 5 (5, 6) [97, 98, 99, 100, 101]
  simp only [List.map_cons, List.map_nil] at hs10
  generalize w9.alloc (.cells #[.int .u8 97, .int .u8 98, .int .u8 99, .int .u8 100, .int .u8 101] 5 (5, 6)) = w10 at hB10 hs10 ⊢
  clear hB9
  refine (putopq_any _ 5 5 [97, 98, 99, 100, 101] w10 (by omega) (by omega) rfl hs10 (by simp)).mono ?_
  rintro e w11 ⟨v11, rfl, hown11, hb11⟩
  rw [show opBytes [97, 98, 99, 100, 101] = [0, 0, 0, 5, 97, 98, 99, 100, 101, 0, 0, 0] from by decide, show 4 + (5 + padN 5) = 12 from rfl] at hown11
  obtain ⟨g11, c11, rfl, hc11, hd11, he11⟩ := own_shape hown11 (by decide)
  have tc := seg_text (cap := c11) (seg_own hown11 rfl) rfl (by decide)
  rw [show strOfNums [0, 0, 0, 5, 97, 98, 99, 100, 101, 0, 0, 0] = ⟨#[0, 0, 0, 5, 97, 98, 99, 100, 101, 0, 0, 0]⟩ from rfl] at tc
  simp only [List.length_cons, List.length_nil, Nat.reduceAdd] at tc
  have hB11 := hB10.trans (hb11.mono hB10.size)
  clear hs10 hown11 hb11 hB10 he11
  go_wp2_with fail
  clear tc
  have hB12 : Below w.heap.size w (w11.alloc (.cells #[.int .u8 97] 5 (1, 2))) := hB11.alloc hB11.size _
  have hs12 := seg_litm w11 5 (1, 2) [97]
  simp only [List.map_cons, List.map_nil] at hs12
  generalize w11.alloc (.cells #[.int .u8 97] 5 (1, 2)) = w12 at hB12 hs12 ⊢
  clear hB11
  refine (putfixed_any _ 1 1 [97] w12 (by omega) (by omega) rfl hs12 (by simp)).mono ?_
  rintro e w13 ⟨rfl, hown13, hb13⟩
  rw [show padded [97] = [97, 0, 0, 0] from by decide, show 1 + padN 1 = 4 from rfl] at hown13
  rw [show 1 + padN 1 = 4 from rfl]
  have td := seg_text (cap := 4) (seg_own hown13 rfl) rfl (by decide)
  rw [show strOfNums [97, 0, 0, 0] = ⟨#[97, 0, 0, 0]⟩ from rfl] at td
  simp only [List.length_cons, List.length_nil, Nat.reduceAdd] at td
  have hB13 := hB12.trans (hb13.mono hB12.size)
  clear hs12 hown13 hb13 hB12
  go_wp2
  go_ret
  exact ⟨rfl, hB13⟩
end Go.Proofs.Ytfnlgakgakjliab
