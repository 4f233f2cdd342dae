/- 'alive' of the law: the document's fixed answers hold; true; nothing that was there turns. -/
import Derived.Test.YtcpciodcecpibabHOf
import Derived.Test.YtcpciodcecpibabHGet16
import Derived.Test.YtcpciodcecpibabLits
import Derived.Laws.BytesArg
namespace Go.Proofs.Ytcpciodcecpibab
set_option linter.unusedVariables false
open Go.RowKit

theorem hd_one : hd 1 0 = [119, 104, 114, 102, 0, 0, 0, 1, 0, 0, 0, 0] := by decide

/-- What stays: the first handle, its bytes. -/
structure Av (w W : World) (h G : Nat) : Prop where
  h : W.heap[h]? = some (.cells #[.int .i64 1, .int .u32 0] 27)
  seg : Seg W (some ⟨G, 0, none⟩) (hB 1 0)
  below : Below w.heap.size w W
theorem Av.next {w W W' : World} {h G : Nat} (a : Av w W h G) (hb : Below W.heap.size W W') : Av w W' h G :=
  ⟨(hb.block _ (Array.getElem?_eq_some_iff.1 a.h).1).trans a.h, a.seg.below hb, a.below.trans (hb.mono a.below.size)⟩

set_option maxRecDepth 100000 in
set_option maxHeartbeats 2000000 in
theorem alive_any (w : World) : Calls Try.prog 6 #[] w fun e w' => e = .returned (.bool true) ∧ Below w.heap.size w w' := by
  have hof := of_any 0 0 w (by omega) (by omega) (by omega) (by omega)
  rw [show (1 : Int) + 0 % 1024 = 1 from by decide] at hof
  have hp0 := fun w => hput_no 0 0 w (by decide)
  have hp1 := fun w => hput_no 1025 0 w (by decide)
  obtain ⟨q1, q2, q3⟩ := hg_bad (hg_len (zs := []) (by simp))
  have hg0 := fun w => hget_any none 0 0 [] w (by omega) (by omega) rfl (byt_of_all (by simp)) (.inl rfl) (by simp)
  rw [q1, q2, q3] at hg0
  obtain ⟨p1, p2, p3⟩ := hg_put (n := 1) (g := 0) (by omega) (by omega) (by omega) (by omega)
  have hg1 := fun G w hs => hget_any (some ⟨G, 0, none⟩) 16 16 (hB 1 0) w (by omega) (by omega) (hB_length 1 0) (byt_hB 1 0) hs (by simp)
  rw [p1, p2, p3] at hg1
  have heq : ∀ w, (binOp .eql 27 (.agg #[.int .i64 1, .int .u32 0]) (.agg #[.int .i64 1, .int .u32 0])).run Try.prog w = .ok (.bool true) w := fun w => by rw [hand_eql]; rfl
  clear q1 q2 q3 p1 p2 p3
  go_enter Try.func6, Try.ntmps6
  go_wp2_with fail
  refine hof.mono ?_
  rintro e W1 ⟨G, rfl, hown, hB1⟩
  clear hof
  have A2 : Av w (W1.alloc (.cells #[.int .i64 1, .int .u32 0] 27)) W1.heap.size G :=
    have hb2 : Below W1.heap.size W1 (W1.alloc (.cells #[.int .i64 1, .int .u32 0] 27)) := (Below.refl _ _).alloc (Nat.le_refl _) _
    ⟨World.alloc_heap_new W1 _, (seg_own hown (hB_length 1 0)).below hb2, hB1.trans (hb2.mono hB1.size)⟩
  clear hown hB1
  go_wp2_with fail
  generalize W1.alloc (.cells #[.int .i64 1, .int .u32 0] 27) = W2 at *
  generalize W1.heap.size = h at *
  refine (hp0 _).mono ?_
  rintro e W3 ⟨rfl, hb3⟩
  have A3 := A2.next hb3
  clear hp0 hb3 A2
  go_wp2_with fail
  refine (hp1 _).mono ?_
  rintro e W4 ⟨rfl, hb4⟩
  have A4 := A3.next hb4
  clear hp1 hb4 A3
  go_wp2_with fail
  refine (hg0 _).mono ?_
  rintro e W5 ⟨rfl, hb5⟩
  have A5 := A4.next hb5
  have A6 := A5.next ((Below.refl _ _).alloc (Nat.le_refl _) (.cells #[.int .i64 0, .int .u32 0] 27))
  clear hg0 hb5 A4 A5
  go_wp2_with fail
  generalize W5.alloc (.cells #[.int .i64 0, .int .u32 0] 27) = W6 at *
  refine (hg1 G _ A6.seg).mono ?_
  rintro e W7 ⟨rfl, hb7⟩
  have A7 := A6.next hb7
  have hh8 := World.alloc_heap_new W7 (.cells #[.int .i64 1, .int .u32 0] 27)
  have A8 := A7.next ((Below.refl _ _).alloc (Nat.le_refl _) (.cells #[.int .i64 1, .int .u32 0] 27))
  clear hg1 hb7 A6 A7
  have hs8 := A8.seg.take 12
  rw [hB_take, hd_one] at hs8
  have tx := seg_text (cap := 16) hs8 rfl (by decide)
  rw [show strOfNums [119, 104, 114, 102, 0, 0, 0, 1, 0, 0, 0, 0] = ⟨#[119, 104, 114, 102, 0, 0, 0, 1, 0, 0, 0, 0]⟩ from rfl] at tx
  simp only [List.length_cons, List.length_nil, Nat.reduceAdd] at tx
  clear hs8
  have c0 : (W7.alloc (.cells #[.int .i64 1, .int .u32 0] 27)).cell? ⟨h, 0, none⟩ = some (.int .i64 1) := by simp only [World.cell?, A8.h]; rfl
  have c1 : (W7.alloc (.cells #[.int .i64 1, .int .u32 0] 27)).cell? ⟨h, 1, none⟩ = some (.int .u32 0) := by simp only [World.cell?, A8.h]; rfl
  have d0 : (W7.alloc (.cells #[.int .i64 1, .int .u32 0] 27)).cell? ⟨W7.heap.size, 0, none⟩ = some (.int .i64 1) := by simp only [World.cell?, hh8]; rfl
  have d1 : (W7.alloc (.cells #[.int .i64 1, .int .u32 0] 27)).cell? ⟨W7.heap.size, 1, none⟩ = some (.int .u32 0) := by simp only [World.cell?, hh8]; rfl
  have hB8 := A8.below
  clear A8 hh8
  go_wp2
  go_ret
  exact ⟨rfl, hB8⟩
end Go.Proofs.Ytcpciodcecpibab
