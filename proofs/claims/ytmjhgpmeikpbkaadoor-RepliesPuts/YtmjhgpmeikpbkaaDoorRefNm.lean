/- The document's 'numbers': numbers, as bytes of their own; nothing that was there turns. -/
import Derived.Test.YtmjhgpmeikpbkaaDoorRefPut4
import Derived.Test.YtmjhgpmeikpbkaaDoorPieces
import Derived.Test.YtmjhgpmeikpbkaaDoorNumsMath
import Derived.Test.YtmjhgpmeikpbkaaDoorAppendEach
import Derived.Maps.AppendAt
namespace Go.Proofs.YtmjhgpmeikpbkaaDoor
set_option linter.unusedVariables false
open Go.RowKit

theorem numsB_more (gs : List Int) (k : Nat) (h : k < gs.length) : numsB (gs.take (k + 1)) = numsB (gs.take k) ++ bytesOf (gs[k]?.getD 0) 4 := by
  rw [List.take_succ_eq_append_getElem h, numsB_append, List.getElem?_eq_getElem h, Option.getD_some]
  simp [numsB]

set_option maxRecDepth 100000 in
set_option maxHeartbeats 1000000 in
theorem refnumbers_any (N len cap : Nat) (gs : List Int) (w : World) (hN : N < w.heap.size) (hz : gs.length = len) (hlc : len ≤ cap) (hsm : len ≤ 100) (hu : ∀ i : Nat, 0 ≤ gs[i]?.getD 0 ∧ gs[i]?.getD 0 ≤ 4294967295) (hc : ∀ i, i < gs.length → w.cell? ⟨N, i, none⟩ = some (.int .u32 (gs[i]?.getD 0))) :
    Calls Tryd.prog 28 #[.slice (some ⟨N, 0, none⟩) len cap] w fun e w' => ∃ v, e = .returned v ∧ w'.ownsRow w.heap.size 5 1 v (4 * len) ((numsB gs).map (Value.int .u8)) ∧ Below w.heap.size w w' := by
  obtain ⟨i0, hi, hz0, hz1, hz2⟩ := info_parts infoU8r
  go_enter Tryd.func28, Tryd.ntmps28
  go_wp2
  go_loopw [3, 4] (fun b i wr => ∃ k : Nat, k ≤ len ∧ i = .int .i64 k ∧ wr.ownsRow w.heap.size 5 1 b (4 * k) ((numsB (gs.take k)).map (Value.int .u8)) ∧ Below w.heap.size w wr)
    (fun _ i _ => len - (intOf i).toNat)
  case atStart => exact ⟨0, Nat.zero_le _, rfl, ⟨rfl, .inl ⟨rfl, rfl⟩⟩, Below.refl _ _⟩
  case round =>
    obtain ⟨k, hk, rfl, hrow, hB⟩ := hrel
    by_cases hlt : k < len
    · have hcx : wr.cell? ⟨N, k, none⟩ = some (.int .u32 (gs[k]?.getD 0)) := (hB.cell (p := ⟨N, k, none⟩) hN).trans (hc k (by omega))
      have hux := hu k
      have hstep := numsB_more gs k (by omega)
      generalize gs[k]?.getD 0 = x at *
      generalize numsB (gs.take k) = ys at *
      have hBs := hB.size
      go_wp2_with fail
      refine (refPut_seg x hux.1 hux.2 wr).mono ?_
      rintro e w1 ⟨q, rfl, hsq, b1⟩
      have ho1 := own_below hrow b1
      have B1 := hB.trans (b1.mono hBs)
      go_wp2_with (at_builtin; refine wpList_append_own _ rfl _ _ 24 rfl w.heap.size 5 i0 (.int .u8 0) 1 1 Tryd.underlying24 hi hz0 hz1 hz2 rfl (by decide) u3 (4 * k) _ rfl ho1 ⟨q, 0, none⟩ 4 4 ((bytesOf x 4).map (Value.int .u8)) rfl (by simp [bytesOf_length]) (seg_news hsq) (news_one _) (by unfold maxLen; omega) (by omega) B1.size ?_; intro v' w2 ho2 hg2 _)
      have R1 : w2.ownsRow w.heap.size 5 1 v' (4 * (k + 1)) ((numsB (gs.take (k + 1))).map (Value.int .u8)) := by
        rw [hstep, List.map_append]
        exact ho2
      have R2 : Below w.heap.size w w2 := B1.grown hg2 B1.size (fun j e => own_low ho1 e)
      clear ho2 hg2 hstep hrow ho1 hsq hcx
      go_wp2
      go_roundw
      case rel => exact ⟨k + 1, by omega, by go_num, R1, R2⟩
      case measure => simp [intOf]; omega
    · obtain rfl : k = len := by omega
      rw [List.take_of_length_le (by omega)] at hrow
      go_wp2
      go_ret
      exact ⟨_, rfl, hrow, hB⟩
end Go.Proofs.YtmjhgpmeikpbkaaDoor
