/- 'Put' of the document: a point of time's bytes, in memory of their own; nothing that was there turns. -/
import Derived.Test.YtecbhhfncklefaaTimeEq
import Derived.Test.YtecbhhfncklefaaRefPut4
import Derived.Test.YtecbhhfncklefaaAppendEach
import Derived.Test.YtecbhhfncklefaaPieces
import Derived.Test.YtecbhhfncklefaaBytes
import Derived.Maps.AppendAt
import Derived.Outline
namespace Go.Proofs.Ytecbhhfncklefaa
set_option linter.unusedVariables false
open Go.RowKit

theorem infoT8 : (Try.prog.info? 5).map (fun i => (i.zero, i.size, i.bytes)) = some (some (.int .u8 0), 1, 1) := by kernel_rfl

theorem reft_own (n : Int) (h0 : 0 ≤ n) (h1 : n ≤ 4294967295) (w : World) :
    Calls Try.prog 38 #[.int .u32 n] w fun e W' => e = .returned (.slice (some ⟨w.heap.size, 0, none⟩) 4 4) ∧ W'.ownsRow w.heap.size 5 1 (.slice (some ⟨w.heap.size, 0, none⟩) 4 4) 4 ((bytesOf n 4).map (Value.int .u8)) ∧ Below w.heap.size w W' := by
  refine (refPut_any n h0 h1 w).mono ?_
  rintro e W' ⟨rfl, rfl⟩
  exact ⟨rfl, full_own (by show (w.heap.push _)[w.heap.size]? = _; simp) (Nat.le_refl _) (by simp [bytesOf_length]) (by unfold maxLen; omega), (Below.refl _ _).alloc (Nat.le_refl _) _⟩

set_option maxRecDepth 100000 in
set_option maxHeartbeats 1000000 in
theorem reftput_any (s n : Int) (w : World) (s0 : 0 ≤ s) (s1 : s ≤ 4294967295) (n0 : 0 ≤ n) (n1 : n ≤ 4294967295) :
    Calls Try.prog 40 #[.agg #[.int .u32 s, .int .u32 n]] w fun e w' => ∃ G c, e = .returned (.slice (some ⟨G, 0, none⟩) 8 c) ∧ 8 ≤ c ∧ c ≤ 9223372036854775807 ∧
      w'.ownsRow w.heap.size 5 1 (.slice (some ⟨G, 0, none⟩) 8 c) 8 ((tB s n).map (Value.int .u8)) ∧ Below w.heap.size w w' := by
  obtain ⟨i0, hi, hz0, hz1, hz2⟩ := info_parts infoT8
  have a1 := (Tp.new w s n).next (below_draw _)
  have hB1 : Below w.heap.size w (w.alloc (.cells #[.int .u32 s, .int .u32 n] 29)).drew := ((Below.refl _ _).alloc (Nat.le_refl _) _).trans ((below_draw _).mono (by simp))
  have hlt : w.heap.size < (w.alloc (.cells #[.int .u32 s, .int .u32 n] 29)).heap.size := by simp
  have h1 := fun w => reft_own s s0 s1 w
  have h2 := fun w => reft_own n n0 n1 w
  have hx := bytesOf_length s 4
  have hy := bytesOf_length n 4
  have hxy : (bytesOf s 4).map (Value.int .u8) ++ (bytesOf n 4).map (Value.int .u8) = (tB s n).map (Value.int .u8) := by rw [tB, List.map_append]
  generalize bytesOf s 4 = xs at *
  generalize bytesOf n 4 = ys at *
  generalize tB s n = zs at *
  have HX : Hid (xs.map (Value.int .u8) ++ ys.map (Value.int .u8) = zs.map (Value.int .u8)) := hxy
  clear hxy
  go_enter Try.func40, Try.ntmps40
  go_wp2_with fail
  have S1 := And.intro a1.c0 a1.c1
  generalize (w.alloc (.cells #[.int .u32 s, .int .u32 n] 29)) = W0 at *
  go_region_held3 (fun w' => w'.cell? ⟨w.heap.size, 0, none⟩ = some (.int .u32 s) ∧ w'.cell? ⟨w.heap.size, 1, none⟩ = some (.int .u32 n)) (first | with_reducible exact S4 | with_reducible exact S3 | with_reducible exact S2 | with_reducible exact S1) (first
    | (go_at_call 38; have _g := hB2; refine (h2 W2).mono ?_; rintro e W3 ⟨rfl, hown3, hb3⟩; have a3 := a2.next hb3; have hB3 := hB2.trans (hb3.mono hB2.size); have S3 := And.intro a3.c0 a3.c1; have ho3 := own_base (own_below hown2 hb3) hB1.size; have sy3 := seg_own hown3 hy)
    | (go_at_call 38; refine (h1 _).mono ?_; rintro e W2 ⟨rfl, hown2, hb2⟩; have a2 := a1.next hb2; have hB2 := hB1.trans (hb2.mono hB1.size); have S2 := And.intro a2.c0 a2.c1)
    | (refine step_append_each _ (by rfl) _ _ 22 (by rfl) w.heap.size 5 i0 (.int .u8 0) 1 1 Try.underlying22 hi hz0 hz1 hz2 (by rfl) (by decide) (.slice (some ⟨W0.heap.size, 0, none⟩) 4 4) 4 (xs.map (Value.int .u8)) (by rfl) ho3 (some ⟨W2.heap.size, 0, none⟩) 4 4 (ys.map (Value.int .u8)) (by rfl) (by simp) (by simp [hy]) (fun b e => seg_news (by rw [← e]; exact sy3)) (news_one ys) (by unfold maxLen; omega) (by omega) hB3.size ?_; intro v4 W4 hown4 hgrow4; have a4 : Tp W4 w.heap.size s n := (hgrow4.block w.heap.size a3.lt (fun e => Nat.ne_of_lt hlt (Option.some.inj e))).trans a3; have S4 := And.intro a4.c0 a4.c1; have hB4 : Below w.heap.size w W4 := hB3.grown hgrow4 hB3.size (fun k e => by have h := Option.some.inj e; exact h ▸ Nat.le_of_lt hlt)))
  all_goals
    rw [HX.out] at hown4
    obtain ⟨G, c, rfl, hc1, hc2, -⟩ := own_shape hown4 (by omega)
    clear S1 S2 S3 S4 a1 a2 a3 a4 hB1 hB2 hB3 hb2 hb3 hown2 hown3 ho3 sy3 h1 h2 HX hgrow4
    go_wp2
    go_ret
    exact ⟨G, c, rfl, hc1, hc2, hown4, hB4⟩
end Go.Proofs.Ytecbhhfncklefaa
