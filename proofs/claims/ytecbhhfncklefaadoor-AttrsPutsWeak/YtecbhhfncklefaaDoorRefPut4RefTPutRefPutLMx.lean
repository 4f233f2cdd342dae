/- The document's Put: the bytes of a number, in memory of their own; nothing that was there turns. -/
import Derived.Test.YtecbhhfncklefaaDoorRows
import Derived.Test.YtecbhhfncklefaaDoorBytes
import Derived.WalkKit
import Derived.ArgAppend
import Derived.Test.YtecbhhfncklefaaDoorTimeEqKokMathPNeedPiecesMx
import Derived.Test.YtecbhhfncklefaaDoorAppendEachPPartMx
import Derived.Maps.AppendAt
import Derived.Outline
namespace Go.Proofs.YtecbhhfncklefaaDoor
set_option linter.unusedVariables false
open Go.RowKit

theorem infoU8r : (Tryd.prog.info? 5).map (fun i => (i.zero, i.size, i.bytes)) = some (some (.int .u8 0), 1, 1) := by kernel_rfl

theorem bytes4 (n : Int) : bytesOf n 4 = [n / 16777216 % 256, n / 65536 % 256, n / 256 % 256, n % 256] := by
  simp [bytesOf, byteAt, List.range_succ]

set_option maxHeartbeats 400000 in
theorem refPut_any (n : Int) (h0 : 0 ≤ n) (h1 : n ≤ 4294967295) (w : World) :
    Calls Tryd.prog 28 #[.int .u32 n] w fun e W' => e = .returned (.slice (some ⟨w.heap.size, 0, none⟩) 4 4) ∧ W' = w.alloc (.cells ((bytesOf n 4).map (Value.int .u8)).toArray 5) := by
  have e1 : n / 16777216 % 256 = n / 16777216 := by omega
  rw [bytes4]
  go_enter Tryd.func28, Tryd.ntmps28
  go_wp2
  go_ret
  refine ⟨rfl, ?_⟩
  simp [e1]

theorem refPut_seg (n : Int) (h0 : 0 ≤ n) (h1 : n ≤ 4294967295) (w : World) :
    Calls Tryd.prog 28 #[.int .u32 n] w fun e W' => ∃ g, e = .returned (.slice (some ⟨g, 0, none⟩) 4 4) ∧ Seg W' (some ⟨g, 0, none⟩) (bytesOf n 4) ∧ Below w.heap.size w W' := by
  refine (refPut_any n h0 h1 w).mono ?_
  rintro e W' ⟨rfl, rfl⟩
  exact ⟨_, rfl, seg_lit _ _ _, (Below.refl _ _).alloc (Nat.le_refl _) _⟩
end Go.Proofs.YtecbhhfncklefaaDoor

/- 'Put' of the document: a point of time's bytes, in memory of their own; nothing that was there turns. -/
namespace Go.Proofs.YtecbhhfncklefaaDoor
set_option linter.unusedVariables false
open Go.RowKit

theorem infoT8 : (Tryd.prog.info? 5).map (fun i => (i.zero, i.size, i.bytes)) = some (some (.int .u8 0), 1, 1) := by kernel_rfl

theorem reft_own (n : Int) (h0 : 0 ≤ n) (h1 : n ≤ 4294967295) (w : World) :
    Calls Tryd.prog 28 #[.int .u32 n] w fun e W' => e = .returned (.slice (some ⟨w.heap.size, 0, none⟩) 4 4) ∧ W'.ownsRow w.heap.size 5 1 (.slice (some ⟨w.heap.size, 0, none⟩) 4 4) 4 ((bytesOf n 4).map (Value.int .u8)) ∧ Below w.heap.size w W' := by
  refine (refPut_any n h0 h1 w).mono ?_
  rintro e W' ⟨rfl, rfl⟩
  exact ⟨rfl, full_own (by show (w.heap.push _)[w.heap.size]? = _; simp) (Nat.le_refl _) (by simp [bytesOf_length]) (by unfold maxLen; omega), (Below.refl _ _).alloc (Nat.le_refl _) _⟩

set_option maxRecDepth 100000 in
set_option maxHeartbeats 1000000 in
theorem reftput_any (s n : Int) (w : World) (s0 : 0 ≤ s) (s1 : s ≤ 4294967295) (n0 : 0 ≤ n) (n1 : n ≤ 4294967295) :
    Calls Tryd.prog 34 #[.agg #[.int .u32 s, .int .u32 n]] w fun e w' => ∃ G c, e = .returned (.slice (some ⟨G, 0, none⟩) 8 c) ∧ 8 ≤ c ∧ c ≤ 9223372036854775807 ∧
      w'.ownsRow w.heap.size 5 1 (.slice (some ⟨G, 0, none⟩) 8 c) 8 ((tB s n).map (Value.int .u8)) ∧ Below w.heap.size w w' := by
  obtain ⟨i0, hi, hz0, hz1, hz2⟩ := info_parts infoT8
  have a1 := (Tp.new w s n).next (below_draw _)
  have hB1 : Below w.heap.size w (w.alloc (.cells #[.int .u32 s, .int .u32 n] 26)).drew := ((Below.refl _ _).alloc (Nat.le_refl _) _).trans ((below_draw _).mono (by simp))
  have hlt : w.heap.size < (w.alloc (.cells #[.int .u32 s, .int .u32 n] 26)).heap.size := by simp
  have h1 := fun w => reft_own s s0 s1 w
  have h2 := fun w => reft_own n n0 n1 w
  have hx := bytesOf_length s 4
  have hy := bytesOf_length n 4
  have hxy : (bytesOf s 4).map (Value.int .u8) ++ (bytesOf n 4).map (Value.int .u8) = (tB s n).map (Value.int .u8) := by rw [tB, List.map_append]
  generalize bytesOf s 4 = xs at *
  generalize bytesOf n 4 = ys at *
  generalize tB s n = zs at *
  have HX : Hid (xs.map (Value.int .u8) ++ ys.map (Value.int .u8) = zs.map (Value.int .u8)) := hxy
  clear hxy
  go_enter Tryd.func34, Tryd.ntmps34
  go_wp2_with fail
  have S1 := And.intro a1.c0 a1.c1
  generalize (w.alloc (.cells #[.int .u32 s, .int .u32 n] 26)) = W0 at *
  go_region_held3 (fun w' => w'.cell? ⟨w.heap.size, 0, none⟩ = some (.int .u32 s) ∧ w'.cell? ⟨w.heap.size, 1, none⟩ = some (.int .u32 n)) (first | with_reducible exact S4 | with_reducible exact S3 | with_reducible exact S2 | with_reducible exact S1) (first
    | (go_at_call 28; have _g := hB2; refine (h2 W2).mono ?_; rintro e W3 ⟨rfl, hown3, hb3⟩; have a3 := a2.next hb3; have hB3 := hB2.trans (hb3.mono hB2.size); have S3 := And.intro a3.c0 a3.c1; have ho3 := own_base (own_below hown2 hb3) hB1.size; have sy3 := seg_own hown3 hy)
    | (go_at_call 28; refine (h1 _).mono ?_; rintro e W2 ⟨rfl, hown2, hb2⟩; have a2 := a1.next hb2; have hB2 := hB1.trans (hb2.mono hB1.size); have S2 := And.intro a2.c0 a2.c1)
    | (refine step_append_each _ (by rfl) _ _ 29 (by rfl) w.heap.size 5 i0 (.int .u8 0) 1 1 Tryd.underlying29 hi hz0 hz1 hz2 (by rfl) (by decide) (.slice (some ⟨W0.heap.size, 0, none⟩) 4 4) 4 (xs.map (Value.int .u8)) (by rfl) ho3 (some ⟨W2.heap.size, 0, none⟩) 4 4 (ys.map (Value.int .u8)) (by rfl) (by simp) (by simp [hy]) (fun b e => seg_news (by rw [← e]; exact sy3)) (news_one ys) (by unfold maxLen; omega) (by omega) hB3.size ?_; intro v4 W4 hown4 hgrow4; have a4 : Tp W4 w.heap.size s n := (hgrow4.block w.heap.size a3.lt (fun e => Nat.ne_of_lt hlt (Option.some.inj e))).trans a3; have S4 := And.intro a4.c0 a4.c1; have hB4 : Below w.heap.size w W4 := hB3.grown hgrow4 hB3.size (fun k e => by have h := Option.some.inj e; exact h ▸ Nat.le_of_lt hlt)))
  all_goals
    rw [HX.out] at hown4
    obtain ⟨G, c, rfl, hc1, hc2, -⟩ := own_shape hown4 (by omega)
    clear S1 S2 S3 S4 a1 a2 a3 a4 hB1 hB2 hB3 hb2 hb3 hown2 hown3 ho3 sy3 h1 h2 HX hgrow4
    go_wp2
    go_ret
    exact ⟨G, c, rfl, hc1, hc2, hown4, hB4⟩
end Go.Proofs.YtecbhhfncklefaaDoor

/- The document's PutLong and PutYes: the bytes of a number, in memory of their own; nothing that was there turns. -/
namespace Go.Proofs.YtecbhhfncklefaaDoor
set_option linter.unusedVariables false
open Go.RowKit

theorem halves (n : Int) : bytesOf n 8 = bytesOf (n / 4294967296 % 4294967296) 4 ++ bytesOf (n % 4294967296) 4 := by
  have h1 := bytesOf_add n 4 4
  have h2 := bytesOf_mod (n / 4294967296) 4
  have h3 := bytesOf_mod n 4
  rw [show (256 : Int) ^ 4 = 4294967296 from by decide] at h1 h2 h3
  rw [h2, h3, ← h1]

set_option maxHeartbeats 400000 in
theorem refPutLong_any (n : Int) (h0 : 0 ≤ n) (h1 : n ≤ 18446744073709551615) (w : World) :
    Calls Tryd.prog 29 #[.int .u64 n] w fun e W' => ∃ g cap, e = .returned (.slice (some ⟨g, 0, none⟩) 8 cap) ∧ Seg W' (some ⟨g, 0, none⟩) (bytesOf n 8) ∧ Below w.heap.size w W' := by
  obtain ⟨i0, hi, hz0, hz1, hz2⟩ := info_parts infoU8r
  have e1 : n / 4294967296 % 4294967296 = n / 4294967296 := by omega
  have e2 : n % 4294967296 % 4294967296 = n % 4294967296 := by omega
  go_enter Tryd.func29, Tryd.ntmps29
  have hhv := halves n
  rw [e1] at hhv
  have HH : Hid (bytesOf n 8 = bytesOf (n / 4294967296) 4 ++ bytesOf (n % 4294967296) 4) := hhv
  clear hhv
  go_wp2_with fail
  refine (refPut_seg (n / 4294967296) (by omega) (by omega) _).mono ?_
  rintro e w1 ⟨g1, rfl, s1, b1⟩
  go_wp2_with fail
  refine (refPut_seg (n % 4294967296) (by omega) (by omega) _).mono ?_
  rintro e w2 ⟨g2, rfl, s2, b2⟩
  have s12 := s1.below b2
  have B2 := b1.trans (b2.mono b1.size)
  clear s1 b1 b2
  go_wp2_with (at_builtin; refine wpList_append_grows _ rfl _ _ 29 rfl 5 i0 (.int .u8 0) 1 1 Tryd.underlying29 hi hz0 hz1 hz2 rfl (by decide) (some ⟨g1, 0, none⟩) 4 4 ((bytesOf (n / 4294967296) 4).map (Value.int .u8)) rfl (by simp) (by simp [bytesOf_length]) (fun b hb j u hj => by cases hb; exact seg_news s12 j u hj) ⟨g2, 0, none⟩ 4 4 ((bytesOf (n % 4294967296) 4).map (Value.int .u8)) rfl (by simp [bytesOf_length]) (seg_news s2) (news_one _) (by omega) (by unfold maxLen; omega) (by omega) ?_; intro v' w3 hown3 hgrow3)
  obtain ⟨g3, cap3, rfl, _, _, _⟩ := own_shape hown3 (by omega)
  rw [← List.map_append, ← HH.out] at hown3
  have s3 := seg_own hown3 (bytesOf_length n 8)
  have B3 : Below w.heap.size w w3 := B2.grown hgrow3 B2.size (by simp)
  clear hown3 hgrow3
  go_wp2
  go_ret
  exact ⟨g3, cap3, rfl, s3, B3⟩
end Go.Proofs.YtecbhhfncklefaaDoor
