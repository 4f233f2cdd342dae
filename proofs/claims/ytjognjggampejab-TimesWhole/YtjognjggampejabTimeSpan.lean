/- Spans of time: 'since', 'lasting', 'and', 'together' of two, 'Add' of the program; nothing that was there turns. -/
import Derived.Test.YtjognjggampejabTimeEq
import Derived.Test.YtjognjggampejabStoreWhole
namespace Go.Proofs.Ytjognjggampejab
set_option linter.unusedVariables false
open Go.RowKit

/-- A span lies in a block. -/
def Sp (W : World) (h : Nat) (s n : Int) : Prop := W.heap[h]? = some (.cells #[.int .u64 s, .int .u64 n] 37)
theorem Sp.new (W : World) (s n : Int) : Sp (W.alloc (.cells #[.int .u64 s, .int .u64 n] 37)) W.heap.size s n := World.alloc_heap_new W _
theorem Sp.lt {W : World} {h : Nat} {s n : Int} (t : Sp W h s n) : h < W.heap.size := (Array.getElem?_eq_some_iff.1 t).1
theorem Sp.next {W W' : World} {h : Nat} {s n : Int} (t : Sp W h s n) (hb : Below W.heap.size W W') : Sp W' h s n := (hb.block _ t.lt).trans t
theorem Sp.alloc {W : World} {h : Nat} {s n : Int} (t : Sp W h s n) (o : Obj) : Sp (W.alloc o) h s n := t.next ((Below.refl _ _).alloc (Nat.le_refl _) o)
theorem Sp.c0 {W : World} {h : Nat} {s n : Int} (t : Sp W h s n) : W.cell? ⟨h, 0, none⟩ = some (.int .u64 s) := by simp [World.cell?, show W.heap[h]? = _ from t]
theorem Sp.c1 {W : World} {h : Nat} {s n : Int} (t : Sp W h s n) : W.cell? ⟨h, 1, none⟩ = some (.int .u64 n) := by simp [World.cell?, show W.heap[h]? = _ from t]

theorem span_info : (Try.prog.info? 37).map (·.size) = some 2 := by kernel_rfl

set_option maxRecDepth 100000 in
set_option maxHeartbeats 400000 in
theorem since_any (s n : Int) (w : World) (s0 : 0 ≤ s) (s1 : s ≤ 4294967295) (n0 : 0 ≤ n) (n1 : n ≤ 4294967295) : Calls Try.prog 13 #[.agg #[.int .u32 s, .int .u32 n]] w fun e w' => e = .returned (.agg #[.int .u64 s, .int .u64 n]) ∧ Below w.heap.size w w' := by
  have hB0 : Below w.heap.size w (w.alloc (.cells #[.int .u32 s, .int .u32 n] 24)) := (Below.refl _ _).alloc (Nat.le_refl _) _
  have hB1 := hB0.alloc hB0.size (.cells #[.int .u64 s, .int .u64 n] 37)
  have hh1 := World.alloc_heap_new (w.alloc (.cells #[.int .u32 s, .int .u32 n] 24)) (.cells #[.int .u64 s, .int .u64 n] 37)
  rw [show (w.alloc (.cells #[.int .u32 s, .int .u32 n] 24)).heap.size = w.heap.size + 1 by simp] at hh1
  have hs : IntKind.u64.wrap s = s := by rw [IntKind.wrap_u64]; omega
  have hn : IntKind.u64.wrap n = n := by rw [IntKind.wrap_u64]; omega
  go_enter Try.func13, Try.ntmps13
  go_wp2
  exact bodyPost_ret (results_cell_row (p := 2) (ty := 37) rfl _ _ (w.heap.size + 1) 37 _ (0, 0) _ (by rfl) hh1 Try.underlying37 rfl (by kernel_rfl)) rfl ⟨rfl, hB1⟩

set_option maxRecDepth 100000 in
set_option maxHeartbeats 400000 in
theorem lasting_any (k : Int) (w : World) (k0 : 0 ≤ k) (k1 : k ≤ 18446744073709551615) : Calls Try.prog 14 #[.int .u64 k] w fun e w' => e = .returned (.agg #[.int .u64 (k / 1000000000), .int .u64 (k % 1000000000)]) ∧ Below w.heap.size w w' := by
  have hB1 : Below w.heap.size w (w.alloc (.cells #[.int .u64 (k / 1000000000), .int .u64 (k % 1000000000)] 37)) := (Below.refl _ _).alloc (Nat.le_refl _) _
  have hh1 := World.alloc_heap_new w (.cells #[.int .u64 (k / 1000000000), .int .u64 (k % 1000000000)] 37)
  go_enter Try.func14, Try.ntmps14
  go_wp2
  exact bodyPost_ret (results_cell_row (p := 2) (ty := 37) rfl _ _ w.heap.size 37 _ (0, 0) _ (by rfl) hh1 Try.underlying37 rfl (by kernel_rfl)) rfl ⟨rfl, hB1⟩

set_option maxRecDepth 100000 in
set_option maxHeartbeats 400000 in
theorem and_any (s n t o : Int) (w : World) (s0 : 0 ≤ s) (s1 : s ≤ 4294967295) (n0 : 0 ≤ n) (n1 : n < 1000000000) (t0 : 0 ≤ t) (t1 : t ≤ 18446744073) (o0 : 0 ≤ o) (o1 : o < 1000000000) :
    Calls Try.prog 12 #[.agg #[.int .u64 s, .int .u64 n], .agg #[.int .u64 t, .int .u64 o]] w fun e w' => e = .returned (.agg #[.int .u64 (s + t + (n + o) / 1000000000), .int .u64 ((n + o) % 1000000000)]) ∧ Below w.heap.size w w' := by
  have hB0 : Below w.heap.size w ((w.alloc (.cells #[.int .u64 s, .int .u64 n] 37)).alloc (.cells #[.int .u64 t, .int .u64 o] 37)) := ((Below.refl _ _).alloc (Nat.le_refl _) _).alloc (by simp) _
  have hB1 := hB0.alloc hB0.size (.cells #[.int .u64 (s + t + (n + o) / 1000000000), .int .u64 ((n + o) % 1000000000)] 37)
  have hh1 := World.alloc_heap_new ((w.alloc (.cells #[.int .u64 s, .int .u64 n] 37)).alloc (.cells #[.int .u64 t, .int .u64 o] 37)) (.cells #[.int .u64 (s + t + (n + o) / 1000000000), .int .u64 ((n + o) % 1000000000)] 37)
  rw [show ((w.alloc (.cells #[.int .u64 s, .int .u64 n] 37)).alloc (.cells #[.int .u64 t, .int .u64 o] 37)).heap.size = w.heap.size + 1 + 1 by simp] at hh1
  clear hB0
  go_enter Try.func12, Try.ntmps12
  go_wp2
  exact bodyPost_ret (results_cell_row (p := 4) (ty := 37) rfl _ _ (w.heap.size + 1 + 1) 37 _ (0, 0) _ (by rfl) hh1 Try.underlying37 rfl (by kernel_rfl)) rfl ⟨rfl, hB1⟩

set_option maxRecDepth 100000 in
set_option maxHeartbeats 1000000 in
theorem together_two (g : Nat) (s n t o : Int) (w : World) (s0 : 0 ≤ s) (s1 : s ≤ 4294967295) (n0 : 0 ≤ n) (n1 : n < 1000000000) (t0 : 0 ≤ t) (t1 : t ≤ 18446744073) (o0 : 0 ≤ o) (o1 : o < 1000000000)
    (hg : w.heap[g]? = some (.cells #[.int .u64 s, .int .u64 n, .int .u64 t, .int .u64 o] 37)) :
    Calls Try.prog 11 #[.func (.func 12) #[] #[], .slice (some ⟨g, 0, none⟩) 2 2] w fun e w' => e = .returned (.agg #[.int .u64 (s + t + (n + o) / 1000000000), .int .u64 ((n + o) % 1000000000)]) ∧ Below w.heap.size w w' := by
  have hgl := (Array.getElem?_eq_some_iff.1 hg).1
  have hB0 : Below w.heap.size w (w.alloc (.cells #[.int .u64 0, .int .u64 0] 37)) := (Below.refl _ _).alloc (Nat.le_refl _) _
  have r0 := Sp.new w 0 0
  have r1 := r0.alloc (.cells #[.int .u64 0, .int .u64 0] 37)
  have q1 := Sp.new (w.alloc (.cells #[.int .u64 0, .int .u64 0] 37)) 0 0
  rw [show (w.alloc (.cells #[.int .u64 0, .int .u64 0] 37)).heap.size = w.heap.size + 1 by simp] at q1
  have hB1 := hB0.alloc hB0.size (.cells #[.int .u64 0, .int .u64 0] 37)
  have hz1 : ((w.alloc (.cells #[.int .u64 0, .int .u64 0] 37)).alloc (.cells #[.int .u64 0, .int .u64 0] 37)).heap.size = w.heap.size + 2 := by simp
  have hg1 := (hB1.block _ hgl).trans hg
  have ha1 := and_any 0 0 s n
  rw [show (0 : Int) + s + (0 + n) / 1000000000 = s by omega, show (0 + n) % 1000000000 = n by omega] at ha1
  have ha2 := and_any s n t o
  generalize s + t + (n + o) / 1000000000 = S at *
  generalize (n + o) % 1000000000 = N at *
  clear hB0 r0
  go_enter Try.func11, Try.ntmps11
  go_wp2
  refine wp_loop_rounds 3 ?_
  rw [rounds_succ]
  generalize ((w.alloc (.cells #[.int .u64 0, .int .u64 0] 37)).alloc (.cells #[.int .u64 0, .int .u64 0] 37)) = W1 at *
  have c0 : W1.cell? ⟨g, 0, none⟩ = some (.int .u64 s) := by simp only [World.cell?, hg1]; rfl
  have c1 : W1.cell? ⟨g, 1, none⟩ = some (.int .u64 n) := by simp only [World.cell?, hg1]; rfl
  have d0 := q1.c0
  have d1 := q1.c1
  go_wp2_with fail
  have hB2 := hB1.alloc hB1.size (.cells #[.int .u64 s, .int .u64 n] 37)
  have hg2 := (hB2.block _ hgl).trans hg
  have q2 := q1.alloc (.cells #[.int .u64 s, .int .u64 n] 37)
  have r2 := r1.alloc (.cells #[.int .u64 s, .int .u64 n] 37)
  clear c0 c1 d0 d1 hB1 hg1 q1 r1
  generalize (W1.alloc (.cells #[.int .u64 s, .int .u64 n] 37)) = W2 at *
  refine (ha1 W2 (by omega) (by omega) (by omega) (by omega) s0 (by omega) n0 n1).mono ?_
  rintro e W3 ⟨rfl, hb3⟩
  have hB3 := hB2.trans (hb3.mono hB2.size)
  have q3 := q2.next hb3
  have r3 := r2.next hb3
  clear ha1 hB2 hg2 q2 r2 hb3
  go_wp2_with (refine wpList_store_whole rfl _ _ _ rfl (w.heap.size + 1) _ rfl rfl 37 _ q3 span_info rfl (by simp [Value.oneCell']) ?_; intro W4 hr4 hg4 hs4)
  have hB4 : Below w.heap.size w W4 := hB3.grown hg4 hB3.size (fun k e => by cases e; omega)
  have q4 : Sp W4 (w.heap.size + 1) s n := hr4
  have r4 : Sp W4 w.heap.size 0 0 := (hg4.block w.heap.size r3.lt (by simp)).trans r3
  have hg5 := (hB4.block _ hgl).trans hg
  have c0 : W4.cell? ⟨g, 2, none⟩ = some (.int .u64 t) := by simp only [World.cell?, hg5]; rfl
  have c1 : W4.cell? ⟨g, 3, none⟩ = some (.int .u64 o) := by simp only [World.cell?, hg5]; rfl
  have d0 := q4.c0
  have d1 := q4.c1
  have hl4 := q4.lt
  clear hB3 q3 r3 hr4 hg4 hs4
  rw [rounds_succ]
  go_wp2_with fail
  have hB6 := hB4.alloc hB4.size (.cells #[.int .u64 t, .int .u64 o] 37)
  have q6 := q4.alloc (.cells #[.int .u64 t, .int .u64 o] 37)
  have r6 := r4.alloc (.cells #[.int .u64 t, .int .u64 o] 37)
  clear c0 c1 d0 d1 hB4 hg5 q4 r4
  generalize (W4.alloc (.cells #[.int .u64 t, .int .u64 o] 37)) = W6 at *
  refine (ha2 W6 s0 s1 n0 n1 t0 t1 o0 o1).mono ?_
  rintro e W7 ⟨rfl, hb7⟩
  have hB7 := hB6.trans (hb7.mono hB6.size)
  have q7 := q6.next hb7
  have r7 := r6.next hb7
  clear ha2 hB6 q6 r6 hb7
  go_wp2_with (refine wpList_store_whole rfl _ _ _ rfl (w.heap.size + 1) _ rfl rfl 37 _ q7 span_info rfl (by simp [Value.oneCell']) ?_; intro W8 hr8 hg8 hs8)
  have hB8 : Below w.heap.size w W8 := hB7.grown hg8 hB7.size (fun k e => by cases e; omega)
  have q8 : Sp W8 (w.heap.size + 1) S N := hr8
  have r8 : Sp W8 w.heap.size 0 0 := (hg8.block w.heap.size r7.lt (by simp)).trans r7
  have d0 := q8.c0
  have d1 := q8.c1
  clear hB7 q7 r7 hr8 hg8 hs8
  rw [rounds_succ]
  go_wp2_with (refine wpList_store_whole rfl _ _ _ rfl w.heap.size _ rfl rfl 37 _ r8 span_info rfl (by simp [Value.oneCell']) ?_; intro W9 hr9 hg9 hs9)
  have hB9 : Below w.heap.size w W9 := hB8.grown hg9 hB8.size (fun k e => by cases e; omega)
  exact bodyPost_ret (results_cell_row (p := 4) (ty := 37) rfl _ _ w.heap.size 37 _ (0, 0) _ (by rfl) hr9 Try.underlying37 rfl (by kernel_rfl)) rfl ⟨rfl, hB9⟩
end Go.Proofs.Ytjognjggampejab
