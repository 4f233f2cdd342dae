/- 'read' of eight bytes, and 'GetLong': the number that the bytes begin with, or ErrShort; nothing turns. -/
import Derived.Test.YtecbhhfncklefacRows
import Derived.Test.YtecbhhfncklefacBase
import Derived.Test.YtecbhhfncklefacNum
import Derived.Test.YtecbhhfncklefacKokMathPNeedGrownCellRead4Mx
import Derived.Outline
import Derived.Test.YtecbhhfncklefacTimeEq
import Derived.Test.YtecbhhfncklefacStoreWhole
import Derived.Test.YtecbhhfncklefacCuts
namespace Go.Proofs.Ytecbhhfncklefac
set_option linter.unusedVariables false
open Go.RowKit

set_option maxHeartbeats 400000 in
theorem read8_short (a : Option Addr) (len cap : Nat) (w : World) (hl : len < 8) :
    Calls Try.prog 64 #[.slice a len cap, .int .i64 8] w fun e w' => e = .returned (.tuple #[.int .u64 0, .int .i64 4]) ∧ w' = w := by
  go_enter Try.func64, Try.ntmps64
  go_wp2
  go_ret2
  exact ⟨rfl, rfl⟩

set_option maxHeartbeats 400000 in
theorem read8 (b off len cap : Nat) (zs : List Int) (w : World) (hl : 8 ≤ len) (hlc : len ≤ cap) (hm : cap ≤ 9223372036854775807) (hz : zs.length = len) (hb : Byt zs)
    (hc : ∀ i, i < zs.length → w.cell? ⟨b, off + i, none⟩ = some (.int .u8 (zs[i]?.getD 0))) :
    Calls Try.prog 64 #[.slice (some ⟨b, off, none⟩) len cap, .int .i64 8] w fun e w' => e = .returned (.tuple #[.int .u64 (be (zs.take 8)), .int .i64 0]) ∧ w' = w := by
  go_enter Try.func64, Try.ntmps64
  go_wp2
  go_loop [6, 17] (fun n i => ∃ k : Nat, k ≤ 8 ∧ i = .int .i64 k ∧ n = .int .u64 (be (zs.take k))) (fun _ i => 8 - (intOf i).toNat)
  case atStart => exact ⟨0, by omega, rfl, rfl⟩
  case round =>
    obtain ⟨k, hk, rfl, rfl⟩ := hrel
    by_cases hlt : k < 8
    · have hcx := hc k (by omega)
      have hby := hb k
      go_wp2
      go_round
      case rel => exact ⟨k + 1, by omega, by go_num, by rw [step8 zs hb k hlt (by omega)]⟩
      case measure => simp [intOf]; omega
    · obtain rfl : k = 8 := by omega
      go_wp2
      go_ret2
      exact ⟨rfl, rfl⟩

set_option maxHeartbeats 400000 in
theorem getlong_any (a : Option Addr) (len cap : Nat) (zs : List Int) (w : World) (hlc : len ≤ cap) (hm : cap ≤ 9223372036854775807) (hz : zs.length = len) (hb : Byt zs) (hs : Seg w a zs) :
    Calls Try.prog 59 #[.slice a len cap] w fun e w' => e = .returned (.tuple #[.int .u64 (getM zs), .int .i64 (getF zs)]) ∧ w' = w := by
  by_cases hl : len < 8
  · have e1 : getM zs = 0 := by simp [getM, hz, hl]
    have e2 : getF zs = 4 := by simp [getF, hz, hl]
    rw [e1, e2]
    clear e1 e2
    go_enter Try.func59, Try.ntmps59
    go_wp2_with (go_at_call 64; refine (read8_short _ _ _ _ hl).mono ?_; rintro e w' ⟨rfl, rfl⟩)
    go_ret2
    exact ⟨rfl, rfl⟩
  · rcases hs with rfl | ⟨b, off, rfl, hc⟩
    · simp at hz; omega
    · have e1 : getM zs = be (zs.take 8) := by simp [getM, hz, hl]
      have e2 : getF zs = 0 := by simp [getF, hz, hl]
      rw [e1, e2]
      clear e1 e2
      go_enter Try.func59, Try.ntmps59
      go_wp2_with (go_at_call 64; refine (read8 b off len cap zs _ (by omega) hlc hm hz hb hc).mono ?_; rintro e w' ⟨rfl, rfl⟩)
      go_ret2
      exact ⟨rfl, rfl⟩
end Go.Proofs.Ytecbhhfncklefac

/- 'Get' of the program: the point of time that bytes begin with, or the error; nothing that was there turns. -/
namespace Go.Proofs.Ytecbhhfncklefac
set_option linter.unusedVariables false
open Go.RowKit

theorem time_size : (Try.prog.info? 26).map (·.size) = some 2 := by kernel_rfl

set_option maxRecDepth 100000 in
set_option maxHeartbeats 1000000 in
theorem tget_any (a : Option Addr) (len cap : Nat) (zs : List Int) (w : World) (hlc : len ≤ cap) (hm : cap ≤ 9223372036854775807) (hz : zs.length = len) (hb : Byt zs) (hs : Seg w a zs) :
    Calls Try.prog 61 #[.slice a len cap] w fun e w' => e = .returned (.tuple #[.agg #[.int .u32 (gtS zs), .int .u32 (gtN zs)], .int .i64 (gtE zs)]) ∧ Below w.heap.size w w' := by
  have r1 := Tp.new w 0 0
  have hB1 : Below w.heap.size w (w.alloc (.cells #[.int .u32 0, .int .u32 0] 26)) := (Below.refl _ _).alloc (Nat.le_refl _) _
  have hs1 := hs.below hB1
  have hget := get_any a len cap zs _ hlc hm hz hb hs1
  by_cases h8 : len < 8
  · obtain ⟨e1, e2, e3⟩ := gt_short (zs := zs) (by omega)
    rw [e1, e2, e3]
    clear e1 e2 e3
    by_cases h4 : len < 4
    · rw [show getE zs = 4 by simp [getE, hz, h4]] at hget
      generalize getN zs = x at *
      go_enter Try.func61, Try.ntmps61
      go_wp2_with fail
      generalize (w.alloc (.cells #[.int .u32 0, .int .u32 0] 26)) = W1 at *
      refine hget.mono ?_
      rintro e w' ⟨rfl, rfl⟩
      clear hget hs1 hs hb
      go_wp2_with (refine wpList_store_whole rfl _ _ _ rfl w.heap.size _ rfl rfl 26 _ r1 time_size rfl (by simp [Value.oneCell']) ?_; intro W3 hr3 hg3 hs3)
      exact bodyPost_ret (results_row_tmp (p := 2) (u := 3) (ty := 26) rfl _ _ w.heap.size 26 _ (0, 0) _ (by rfl) hr3 Try.underlying26 rfl (by kernel_rfl)) rfl ⟨rfl, hB1.grown hg3 hB1.size (fun k e => by cases e; omega)⟩
    · rw [show getE zs = 0 by simp [getE, hz, h4]] at hget
      obtain ⟨a', hcut, hsf⟩ := cut_from hs1 hz hlc 4 (by omega)
      replace hcut : ∀ W, (Instr.slice 30 (.slice a len cap) (some (.int .i64 4)) none none).run Try.prog W = .ok (.slice a' (len - 4) (cap - 4)) W := fun W => hcut W
      have hget2 := get_any a' (len - 4) (cap - 4) (zs.drop 4) _ (by omega) (by omega) (by simp; omega) (byt_tail hb 4) hsf
      rw [show getE (zs.drop 4) = 4 by simp [getE, hz]; omega] at hget2
      generalize getN zs = x at *
      generalize getN (zs.drop 4) = y at *
      go_enter Try.func61, Try.ntmps61
      go_wp2_with fail
      generalize (w.alloc (.cells #[.int .u32 0, .int .u32 0] 26)) = W1 at *
      refine hget.mono ?_
      rintro e w' ⟨rfl, rfl⟩
      clear hget hs1 hs hb hsf
      go_wp2_with fail
      refine hget2.mono ?_
      rintro e w'' ⟨rfl, rfl⟩
      clear hget2 hcut
      go_wp2_with (refine wpList_store_whole rfl _ _ _ rfl w.heap.size _ rfl rfl 26 _ r1 time_size rfl (by simp [Value.oneCell']) ?_; intro W3 hr3 hg3 hs3)
      exact bodyPost_ret (results_row_tmp (p := 2) (u := 3) (ty := 26) rfl _ _ w.heap.size 26 _ (0, 0) _ (by rfl) hr3 Try.underlying26 rfl (by kernel_rfl)) rfl ⟨rfl, hB1.grown hg3 hB1.size (fun k e => by cases e; omega)⟩
  · obtain ⟨a', hcut, hsf⟩ := cut_from hs1 hz hlc 4 (by omega)
    replace hcut : ∀ W, (Instr.slice 30 (.slice a len cap) (some (.int .i64 4)) none none).run Try.prog W = .ok (.slice a' (len - 4) (cap - 4)) W := fun W => hcut W
    have hget2 := get_any a' (len - 4) (cap - 4) (zs.drop 4) _ (by omega) (by omega) (by simp; omega) (byt_tail hb 4) hsf
    rw [show getE zs = 0 by simp [getE, hz]; omega, show getN zs = be (zs.take 4) by simp [getN, hz]; omega] at hget
    rw [show getE (zs.drop 4) = 0 by simp [getE, hz]; omega, show getN (zs.drop 4) = be ((zs.drop 4).take 4) by simp [getN, hz]; omega] at hget2
    have hck := fun w => tcheck_any (be (zs.take 4)) (be ((zs.drop 4).take 4)) w
    have hc : (tok (be ((zs.drop 4).take 4)) = false ∧ gtE zs = 5 ∧ gtS zs = 0 ∧ gtN zs = 0) ∨ (tok (be ((zs.drop 4).take 4)) = true ∧ gtE zs = 0 ∧ gtS zs = be (zs.take 4) ∧ gtN zs = be ((zs.drop 4).take 4)) := by
      by_cases h : 1000000000 ≤ be ((zs.drop 4).take 4)
      · exact .inl ⟨by simp [tok]; omega, gt_form (by omega) h⟩
      · exact .inr ⟨by simp [tok]; omega, gt_ok (by omega) h⟩
    generalize be (zs.take 4) = x at *
    generalize be ((zs.drop 4).take 4) = y at *
    generalize gtE zs = E at *
    generalize gtS zs = S at *
    generalize gtN zs = N at *
    go_enter Try.func61, Try.ntmps61
    go_wp2_with fail
    generalize (w.alloc (.cells #[.int .u32 0, .int .u32 0] 26)) = W1 at *
    refine hget.mono ?_
    rintro e w' ⟨rfl, rfl⟩
    clear hget hs1 hs hb hsf
    go_wp2_with fail
    refine hget2.mono ?_
    rintro e w'' ⟨rfl, rfl⟩
    clear hget2 hcut
    go_wp2_with fail
    have hB3 := hB1.alloc hB1.size (.cells #[.int .u32 x, .int .u32 y] 26)
    have r3 := r1.alloc (.cells #[.int .u32 x, .int .u32 y] 26)
    have t3 := Tp.new w'' x y
    clear r1 hB1
    generalize (w''.alloc (.cells #[.int .u32 x, .int .u32 y] 26)) = W3 at *
    refine (hck W3).mono ?_
    rintro e W4 ⟨rfl, hb4⟩
    have hB4 := hB3.trans (hb4.mono hB3.size)
    have r4 := r3.next hb4
    have t4 := t3.next hb4
    clear hck hB3 r3 t3 hb4
    rcases hc with ⟨hk, rfl, rfl, rfl⟩ | ⟨hk, rfl, rfl, rfl⟩
    · rw [hk]
      clear hk t4
      go_wp2_with (refine wpList_store_whole rfl _ _ _ rfl w.heap.size _ rfl rfl 26 _ r4 time_size rfl (by simp [Value.oneCell']) ?_; intro W5 hr5 hg5 hs5)
      exact bodyPost_ret (results_row_tmp (p := 2) (u := 3) (ty := 26) rfl _ _ w.heap.size 26 _ (0, 0) _ (by rfl) hr5 Try.underlying26 rfl (by kernel_rfl)) rfl ⟨rfl, hB4.grown hg5 hB4.size (fun k e => by cases e; omega)⟩
    · rw [hk]
      clear hk
      have d0 := t4.c0
      have d1 := t4.c1
      go_wp2_with (refine wpList_store_whole rfl _ _ _ rfl w.heap.size _ rfl rfl 26 _ r4 time_size rfl (by simp [Value.oneCell']) ?_; intro W5 hr5 hg5 hs5)
      exact bodyPost_ret (results_row_tmp (p := 2) (u := 3) (ty := 26) rfl _ _ w.heap.size 26 _ (0, 0) _ (by rfl) hr5 Try.underlying26 rfl (by kernel_rfl)) rfl ⟨rfl, hB4.grown hg5 hB4.size (fun k e => by cases e; omega)⟩
end Go.Proofs.Ytecbhhfncklefac
