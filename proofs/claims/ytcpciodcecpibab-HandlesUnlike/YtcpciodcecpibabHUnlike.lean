/- The walk of 'HandlesUnlike': true for any two handles that may be; nothing that was there turns. -/
import Derived.Test.YtcpciodcecpibabHAlive
import Derived.Test.YtcpciodcecpibabHKeep
import Derived.Test.YtcpciodcecpibabTexts
namespace Go.Proofs.Ytcpciodcecpibab
set_option linter.unusedVariables false
open Go.RowKit

theorem strs_eq {xs ys : List Int} (hx : Byt xs) (hy : Byt ys) : ((strOfNums xs).toList == (strOfNums ys).toList) = decide (xs = ys) := by
  by_cases h : xs = ys
  · simp [h]
  · rw [decide_eq_false h, ← beq_toListBytes]
    show ((strOfNums xs).data == (strOfNums ys).data) = false
    exact beq_eq_false_iff_ne.2 fun e => h (str_inj hx hy (ByteArray.ext e))

/-- What the four comparisons say of one another. -/
theorem unlike_says {n g m k : Int} (n0 : 1 ≤ n) (n1 : n ≤ 1024) (m0 : 1 ≤ m) (m1 : m ≤ 1024) (g0 : 0 ≤ g) (g1 : g ≤ 4294967295) (k0 : 0 ≤ k) (k1 : k ≤ 4294967295) {qs qz qn qg : Bool} (hs : decide (hB n g = hB m k) = qs) (hz : decide ((hB n g).drop 12 = (hB m k).drop 12) = qz) (hn : (n == m) = qn) (hg : (g == k) = qg) :
    (qs == (qn && qg)) = true ∧ ((qn != qg) = true → qz = false) := by
  subst hs hz hn hg
  refine ⟨?_, fun h => ?_⟩
  · by_cases e1 : n = m
    · by_cases e2 : g = k
      · subst e1 e2
        simp
      · have : hB n g ≠ hB m k := fun e => e2 (hB_inj (by omega) (by omega) g0 g1 (by omega) (by omega) k0 k1 e).2
        simp [this, e2]
    · have : hB n g ≠ hB m k := fun e => e1 (hB_inj (by omega) (by omega) g0 g1 (by omega) (by omega) k0 k1 e).1
      simp [this, e1]
  · rw [decide_eq_false_iff_not]
    intro e
    by_cases e1 : n = m
    · subst e1
      have := sums_gen g0 g1 k0 k1 e
      subst this
      simp at h
    · by_cases e2 : g = k
      · subst e2
        exact e1 (sums_node (by omega) (by omega) (by omega) (by omega) e)
      · rw [beq_eq_false_iff_ne.2 e1, beq_eq_false_iff_ne.2 e2] at h
        cases h

set_option maxRecDepth 100000 in
set_option maxHeartbeats 2000000 in
theorem hunlike_walk (n o x y : Int) (w : World) (h0 : 0 ≤ n) (h1 : n ≤ 65535) (o0 : 0 ≤ o) (o1 : o ≤ 65535) (x0 : 0 ≤ x) (x1 : x ≤ 4294967295) (y0 : 0 ≤ y) (y1 : y ≤ 4294967295) :
    Calls Try.prog 3 #[.int .u16 n, .int .u16 o, .agg #[.int .u32 x, .int .u32 y]] w fun e w' => e = .returned (.bool true) ∧ Below w.heap.size w w' := by
  have hof1 := fun w => of_any n x w h0 h1 x0 x1
  have hof2 := fun w => of_any o y w o0 o1 y0 y1
  have hm : 1 ≤ 1 + n % 1024 ∧ 1 + n % 1024 ≤ 1024 := by omega
  have hk : 1 ≤ 1 + o % 1024 ∧ 1 + o % 1024 ≤ 1024 := by omega
  generalize 1 + n % 1024 = m at *
  generalize 1 + o % 1024 = k at *
  have hB1 : Below w.heap.size w (w.alloc (.cells #[.int .u32 x, .int .u32 y] 24)) := (Below.refl _ _).alloc (Nat.le_refl _) _
  have hh1 := World.alloc_heap_new w (.cells #[.int .u32 x, .int .u32 y] 24)
  go_enter Try.func3, Try.ntmps3
  go_wp2_with fail
  generalize w.alloc (.cells #[.int .u32 x, .int .u32 y] 24) = W1 at *
  refine (hof1 W1).mono ?_
  rintro e W2 ⟨G, rfl, hown, hb2⟩
  have A3 := Ah.new (own_base hown hB1.size) (hB1.trans (hb2.mono hB1.size))
  have hb3 : Below W1.heap.size W1 (W2.alloc (.cells #[.int .i64 m, .int .u32 x] 27)) := hb2.alloc hb2.size _
  have hh3 := (hb3.block _ (Array.getElem?_eq_some_iff.1 hh1).1).trans hh1
  have c1 : (W2.alloc (.cells #[.int .i64 m, .int .u32 x] 27)).cell? ⟨w.heap.size, 1, none⟩ = some (.int .u32 y) := by simp only [World.cell?, hh3]; rfl
  clear hof1 hown hb2 hb3 hh1 hh3 hB1
  go_wp2_with fail
  generalize W2.alloc (.cells #[.int .i64 m, .int .u32 x] 27) = W3 at *
  generalize W2.heap.size = h at *
  refine (hof2 W3).mono ?_
  rintro e W4 ⟨G', rfl, hown, hb4⟩
  have A4 := A3.next hb4
  have A5 := A4.alloc (.cells #[.int .i64 k, .int .u32 y] 27)
  have C5 := Ah.new (own_base hown A3.below.size) A4.below
  clear hof2 hown hb4 A3 A4 c1
  have hsA := byt_hB m x
  have hsB := byt_hB k y
  obtain ⟨qs, hqs⟩ : ∃ qs, ((strOfNums (hB m x)).toList == (strOfNums (hB k y)).toList) = qs := ⟨_, rfl⟩
  obtain ⟨qz, hqz⟩ : ∃ qz, ((strOfNums ((hB m x).drop 12)).toList == (strOfNums ((hB k y).drop 12)).toList) = qz := ⟨_, rfl⟩
  obtain ⟨qn, hqn⟩ : ∃ qn, (m == k) = qn := ⟨_, rfl⟩
  obtain ⟨qg, hqg⟩ : ∃ qg, (x == y) = qg := ⟨_, rfl⟩
  obtain ⟨u1, u2⟩ := unlike_says hm.1 hm.2 hk.1 hk.2 x0 x1 y0 y1 ((strs_eq hsA hsB).symm.trans hqs) ((strs_eq (hsA.drop' 12) (hsB.drop' 12)).symm.trans hqz) hqn hqg
  have heq : ∀ w, (binOp .eql 27 (.agg #[.int .i64 m, .int .u32 x]) (.agg #[.int .i64 k, .int .u32 y])).run Try.prog w = .ok (.bool (qn && qg)) w := fun w => by rw [hand_eql, hqn, hqg]
  have ta := seg_text (cap := 16) A5.seg (hB_length m x) (by decide)
  have tb := seg_text (cap := 16) C5.seg (hB_length k y) (by decide)
  have hl12 : ∀ n g : Int, ((hB n g).drop 12).length = 4 := fun n g => by rw [List.length_drop, hB_length]
  have D5 : Below (W4.alloc (.cells #[.int .i64 k, .int .u32 y] 27)).heap.size (W4.alloc (.cells #[.int .i64 k, .int .u32 y] 27)) (W4.alloc (.cells #[.int .i64 k, .int .u32 y] 27)).drew := ⟨rfl, rfl, rfl, Nat.le_refl _, fun _ _ => rfl⟩
  have A6 := A5.next D5
  have C6 := C5.next D5
  have sa := A6.seg.drop 12
  have sb := C6.seg.drop 12
  rw [Nat.zero_add] at sa sb
  have va := seg_text (cap := 4) sa (hl12 m x) (by decide)
  have vb := seg_text (cap := 4) sb (hl12 k y) (by decide)
  clear sa sb D5 hsA hsB hl12
  go_wp2_with fail
  go_region
  clear ta tb va vb A5 C5 hqs hqz
  generalize (W4.alloc (.cells #[.int .i64 k, .int .u32 y] 27)).drew = W6 at *
  generalize W4.heap.size = h' at *
  have c0 : W6.cell? ⟨h, 0, none⟩ = some (.int .i64 m) := by simp [World.cell?, A6.h]
  have c1 : W6.cell? ⟨h, 1, none⟩ = some (.int .u32 x) := by simp [World.cell?, A6.h]
  have d0 : W6.cell? ⟨h', 0, none⟩ = some (.int .i64 k) := by simp [World.cell?, C6.h]
  have d1 : W6.cell? ⟨h', 1, none⟩ = some (.int .u32 y) := by simp [World.cell?, C6.h]
  obtain rfl : qs = (qn && qg) := by simpa using u1
  clear u1
  rcases (show (qn = true ∧ qg = true) ∨ (qn = false ∧ qg = false) ∨ (qn = true ∧ qg = false) ∨ (qn = false ∧ qg = true) by cases qn <;> cases qg <;> simp) with ⟨rfl, rfl⟩ | ⟨rfl, rfl⟩ | ⟨rfl, rfl⟩ | ⟨rfl, rfl⟩
  · clear u2
    replace heq : ∀ w, (binOp .eql 27 (.agg #[.int .i64 m, .int .u32 x]) (.agg #[.int .i64 k, .int .u32 y])).run Try.prog w = .ok (.bool true) w := heq
    go_wp2_with fail
    refine (alive_any W6).mono ?_
    rintro e W7 ⟨rfl, hb7⟩
    have A7 := A6.next hb7
    have C7 := C6.next hb7
    have c0 : W7.cell? ⟨h, 0, none⟩ = some (.int .i64 m) := by simp [World.cell?, A7.h]
    have c1 : W7.cell? ⟨h, 1, none⟩ = some (.int .u32 x) := by simp [World.cell?, A7.h]
    have d0 : W7.cell? ⟨h', 0, none⟩ = some (.int .i64 k) := by simp [World.cell?, C7.h]
    have d1 : W7.cell? ⟨h', 1, none⟩ = some (.int .u32 y) := by simp [World.cell?, C7.h]
    have hB7 := A7.below
    clear A6 C6 A7 C7 hb7
    go_wp2
    go_ret
    exact ⟨rfl, hB7⟩
  · clear u2
    replace heq : ∀ w, (binOp .eql 27 (.agg #[.int .i64 m, .int .u32 x]) (.agg #[.int .i64 k, .int .u32 y])).run Try.prog w = .ok (.bool false) w := heq
    go_wp2_with fail
    refine (alive_any W6).mono ?_
    rintro e W7 ⟨rfl, hb7⟩
    have A7 := A6.next hb7
    have C7 := C6.next hb7
    have c0 : W7.cell? ⟨h, 0, none⟩ = some (.int .i64 m) := by simp [World.cell?, A7.h]
    have c1 : W7.cell? ⟨h, 1, none⟩ = some (.int .u32 x) := by simp [World.cell?, A7.h]
    have d0 : W7.cell? ⟨h', 0, none⟩ = some (.int .i64 k) := by simp [World.cell?, C7.h]
    have d1 : W7.cell? ⟨h', 1, none⟩ = some (.int .u32 y) := by simp [World.cell?, C7.h]
    have hB7 := A7.below
    clear A6 C6 A7 C7 hb7
    go_wp2
    go_ret
    exact ⟨rfl, hB7⟩
  · obtain rfl := u2 rfl
    clear u2
    replace heq : ∀ w, (binOp .eql 27 (.agg #[.int .i64 m, .int .u32 x]) (.agg #[.int .i64 k, .int .u32 y])).run Try.prog w = .ok (.bool false) w := heq
    go_wp2_with fail
    refine (alive_any W6).mono ?_
    rintro e W7 ⟨rfl, hb7⟩
    have A7 := A6.next hb7
    have C7 := C6.next hb7
    have c0 : W7.cell? ⟨h, 0, none⟩ = some (.int .i64 m) := by simp [World.cell?, A7.h]
    have c1 : W7.cell? ⟨h, 1, none⟩ = some (.int .u32 x) := by simp [World.cell?, A7.h]
    have d0 : W7.cell? ⟨h', 0, none⟩ = some (.int .i64 k) := by simp [World.cell?, C7.h]
    have d1 : W7.cell? ⟨h', 1, none⟩ = some (.int .u32 y) := by simp [World.cell?, C7.h]
    have hB7 := A7.below
    clear A6 C6 A7 C7 hb7
    go_wp2
    go_ret
    exact ⟨rfl, hB7⟩
  · obtain rfl := u2 rfl
    clear u2
    replace heq : ∀ w, (binOp .eql 27 (.agg #[.int .i64 m, .int .u32 x]) (.agg #[.int .i64 k, .int .u32 y])).run Try.prog w = .ok (.bool false) w := heq
    go_wp2_with fail
    refine (alive_any W6).mono ?_
    rintro e W7 ⟨rfl, hb7⟩
    have A7 := A6.next hb7
    have C7 := C6.next hb7
    have c0 : W7.cell? ⟨h, 0, none⟩ = some (.int .i64 m) := by simp [World.cell?, A7.h]
    have c1 : W7.cell? ⟨h, 1, none⟩ = some (.int .u32 x) := by simp [World.cell?, A7.h]
    have d0 : W7.cell? ⟨h', 0, none⟩ = some (.int .i64 k) := by simp [World.cell?, C7.h]
    have d1 : W7.cell? ⟨h', 1, none⟩ = some (.int .u32 y) := by simp [World.cell?, C7.h]
    have hB7 := A7.below
    clear A6 C6 A7 C7 hb7
    go_wp2
    go_ret
    exact ⟨rfl, hB7⟩
end Go.Proofs.Ytcpciodcecpibab
