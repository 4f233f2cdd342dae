/- 'Get' of the program: the point of time that bytes begin with, or the error; nothing that was there turns. -/
import Derived.Test.YtecbhhfncklefaaTimeEq
import Derived.Test.YtecbhhfncklefaaStoreWhole
import Derived.Test.YtecbhhfncklefaaRead4
import Derived.Test.YtecbhhfncklefaaCuts
namespace Go.Proofs.Ytecbhhfncklefaa
set_option linter.unusedVariables false
open Go.RowKit

theorem time_size : (Try.prog.info? 29).map (·.size) = some 2 := by kernel_rfl

set_option maxRecDepth 100000 in
set_option maxHeartbeats 1000000 in
theorem tget_any (a : Option Addr) (len cap : Nat) (zs : List Int) (w : World) (hlc : len ≤ cap) (hm : cap ≤ 9223372036854775807) (hz : zs.length = len) (hb : Byt zs) (hs : Seg w a zs) :
    Calls Try.prog 60 #[.slice a len cap] w fun e w' => e = .returned (.tuple #[.agg #[.int .u32 (gtS zs), .int .u32 (gtN zs)], .int .i64 (gtE zs)]) ∧ Below w.heap.size w w' := by
  have r1 := Tp.new w 0 0
  have hB1 : Below w.heap.size w (w.alloc (.cells #[.int .u32 0, .int .u32 0] 29)) := (Below.refl _ _).alloc (Nat.le_refl _) _
  have hs1 := hs.below hB1
  have hget := get_any a len cap zs _ hlc hm hz hb hs1
  by_cases h8 : len < 8
  · obtain ⟨e1, e2, e3⟩ := gt_short (zs := zs) (by omega)
    rw [e1, e2, e3]
    clear e1 e2 e3
    by_cases h4 : len < 4
    · rw [show getE zs = 4 by simp [getE, hz, h4]] at hget
      generalize getN zs = x at *
      go_enter Try.func60, Try.ntmps60
      go_wp2_with fail
      generalize (w.alloc (.cells #[.int .u32 0, .int .u32 0] 29)) = W1 at *
      refine hget.mono ?_
      rintro e w' ⟨rfl, rfl⟩
      clear hget hs1 hs hb
      go_wp2_with (refine wpList_store_whole rfl _ _ _ rfl w.heap.size _ rfl rfl 29 _ r1 time_size rfl (by simp [Value.oneCell']) ?_; intro W3 hr3 hg3 hs3)
      exact bodyPost_ret (results_row_tmp (p := 2) (u := 3) (ty := 29) rfl _ _ w.heap.size 29 _ (0, 0) _ (by rfl) hr3 Try.underlying29 rfl (by kernel_rfl)) rfl ⟨rfl, hB1.grown hg3 hB1.size (fun k e => by cases e; omega)⟩
    · rw [show getE zs = 0 by simp [getE, hz, h4]] at hget
      obtain ⟨a', hcut, hsf⟩ := cut_from hs1 hz hlc 4 (by omega)
      replace hcut : ∀ W, (Instr.slice 22 (.slice a len cap) (some (.int .i64 4)) none none).run Try.prog W = .ok (.slice a' (len - 4) (cap - 4)) W := fun W => hcut W
      have hget2 := get_any a' (len - 4) (cap - 4) (zs.drop 4) _ (by omega) (by omega) (by simp; omega) (byt_tail hb 4) hsf
      rw [show getE (zs.drop 4) = 4 by simp [getE, hz]; omega] at hget2
      generalize getN zs = x at *
      generalize getN (zs.drop 4) = y at *
      go_enter Try.func60, Try.ntmps60
      go_wp2_with fail
      generalize (w.alloc (.cells #[.int .u32 0, .int .u32 0] 29)) = W1 at *
      refine hget.mono ?_
      rintro e w' ⟨rfl, rfl⟩
      clear hget hs1 hs hb hsf
      go_wp2_with fail
      refine hget2.mono ?_
      rintro e w'' ⟨rfl, rfl⟩
      clear hget2 hcut
      go_wp2_with (refine wpList_store_whole rfl _ _ _ rfl w.heap.size _ rfl rfl 29 _ r1 time_size rfl (by simp [Value.oneCell']) ?_; intro W3 hr3 hg3 hs3)
      exact bodyPost_ret (results_row_tmp (p := 2) (u := 3) (ty := 29) rfl _ _ w.heap.size 29 _ (0, 0) _ (by rfl) hr3 Try.underlying29 rfl (by kernel_rfl)) rfl ⟨rfl, hB1.grown hg3 hB1.size (fun k e => by cases e; omega)⟩
  · obtain ⟨a', hcut, hsf⟩ := cut_from hs1 hz hlc 4 (by omega)
    replace hcut : ∀ W, (Instr.slice 22 (.slice a len cap) (some (.int .i64 4)) none none).run Try.prog W = .ok (.slice a' (len - 4) (cap - 4)) W := fun W => hcut W
    have hget2 := get_any a' (len - 4) (cap - 4) (zs.drop 4) _ (by omega) (by omega) (by simp; omega) (byt_tail hb 4) hsf
    rw [show getE zs = 0 by simp [getE, hz]; omega, show getN zs = be (zs.take 4) by simp [getN, hz]; omega] at hget
    rw [show getE (zs.drop 4) = 0 by simp [getE, hz]; omega, show getN (zs.drop 4) = be ((zs.drop 4).take 4) by simp [getN, hz]; omega] at hget2
    have hck := fun w => tcheck_any (be (zs.take 4)) (be ((zs.drop 4).take 4)) w
    have hc : (tok (be ((zs.drop 4).take 4)) = false ∧ gtE zs = 5 ∧ gtS zs = 0 ∧ gtN zs = 0) ∨ (tok (be ((zs.drop 4).take 4)) = true ∧ gtE zs = 0 ∧ gtS zs = be (zs.take 4) ∧ gtN zs = be ((zs.drop 4).take 4)) := by
      by_cases h : 1000000000 ≤ be ((zs.drop 4).take 4)
      · exact .inl ⟨by simp [tok]; omega, gt_form (by omega) h⟩
      · exact .inr ⟨by simp [tok]; omega, gt_ok (by omega) h⟩
    generalize be (zs.take 4) = x at *
    generalize be ((zs.drop 4).take 4) = y at *
    generalize gtE zs = E at *
    generalize gtS zs = S at *
    generalize gtN zs = N at *
    go_enter Try.func60, Try.ntmps60
    go_wp2_with fail
    generalize (w.alloc (.cells #[.int .u32 0, .int .u32 0] 29)) = W1 at *
    refine hget.mono ?_
    rintro e w' ⟨rfl, rfl⟩
    clear hget hs1 hs hb hsf
    go_wp2_with fail
    refine hget2.mono ?_
    rintro e w'' ⟨rfl, rfl⟩
    clear hget2 hcut
    go_wp2_with fail
    have hB3 := hB1.alloc hB1.size (.cells #[.int .u32 x, .int .u32 y] 29)
    have r3 := r1.alloc (.cells #[.int .u32 x, .int .u32 y] 29)
    have t3 := Tp.new w'' x y
    clear r1 hB1
    generalize (w''.alloc (.cells #[.int .u32 x, .int .u32 y] 29)) = W3 at *
    refine (hck W3).mono ?_
    rintro e W4 ⟨rfl, hb4⟩
    have hB4 := hB3.trans (hb4.mono hB3.size)
    have r4 := r3.next hb4
    have t4 := t3.next hb4
    clear hck hB3 r3 t3 hb4
    rcases hc with ⟨hk, rfl, rfl, rfl⟩ | ⟨hk, rfl, rfl, rfl⟩
    · rw [hk]
      clear hk t4
      go_wp2_with (refine wpList_store_whole rfl _ _ _ rfl w.heap.size _ rfl rfl 29 _ r4 time_size rfl (by simp [Value.oneCell']) ?_; intro W5 hr5 hg5 hs5)
      exact bodyPost_ret (results_row_tmp (p := 2) (u := 3) (ty := 29) rfl _ _ w.heap.size 29 _ (0, 0) _ (by rfl) hr5 Try.underlying29 rfl (by kernel_rfl)) rfl ⟨rfl, hB4.grown hg5 hB4.size (fun k e => by cases e; omega)⟩
    · rw [hk]
      clear hk
      have d0 := t4.c0
      have d1 := t4.c1
      go_wp2_with (refine wpList_store_whole rfl _ _ _ rfl w.heap.size _ rfl rfl 29 _ r4 time_size rfl (by simp [Value.oneCell']) ?_; intro W5 hr5 hg5 hs5)
      exact bodyPost_ret (results_row_tmp (p := 2) (u := 3) (ty := 29) rfl _ _ w.heap.size 29 _ (0, 0) _ (by rfl) hr5 Try.underlying29 rfl (by kernel_rfl)) rfl ⟨rfl, hB4.grown hg5 hB4.size (fun k e => by cases e; omega)⟩
end Go.Proofs.Ytecbhhfncklefaa
