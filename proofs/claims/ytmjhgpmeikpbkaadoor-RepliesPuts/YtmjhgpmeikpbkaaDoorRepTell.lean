/- 'tell': numbers, as bytes, behind those that are there. -/
import Derived.Test.YtmjhgpmeikpbkaaDoorPut4
import Derived.Test.YtmjhgpmeikpbkaaDoorPieces
import Derived.Test.YtmjhgpmeikpbkaaDoorNumsMath
import Derived.Test.YtmjhgpmeikpbkaaDoorRepSmall
import Derived.Maps.RangeWalk
import Derived.Maps.AppendAt
namespace Go.Proofs.YtmjhgpmeikpbkaaDoor
set_option linter.unusedVariables false
open Go.RowKit

/-- Where a slice lies now: where another one lay, or in a block that is new. -/
def Moved (w : World) (v v' : Value) : Prop := v'.ownBlock = v.ownBlock ∨ ∃ g, v'.ownBlock = some g ∧ w.heap.size ≤ g

theorem numsB_step (gs : List Int) (k : Nat) (h : k < gs.length) : numsB (gs.take (k + 1)) = numsB (gs.take k) ++ bytesOf (gs[k]?.getD 0) 4 := by
  rw [List.take_succ_eq_append_getElem h, numsB_append, List.getElem?_eq_getElem h, Option.getD_some]
  simp [numsB]

set_option maxRecDepth 100000 in
set_option maxHeartbeats 2000000 in
theorem tell_any (base : Nat) (vb : Value) (xs : List Int) (N len cap : Nat) (gs : List Int) (w : World) (hown : w.ownsRow base 5 1 vb xs.length (xs.map (Value.int .u8))) (hbase : base ≤ w.heap.size) (hN : N < w.heap.size) (hne : vb.ownBlock ≠ some N)
    (hz : gs.length = len) (hlc : len ≤ cap) (hu : ∀ i : Nat, 0 ≤ gs[i]?.getD 0 ∧ gs[i]?.getD 0 ≤ 4294967295) (hc : ∀ i, i < gs.length → w.cell? ⟨N, i, none⟩ = some (.int .u32 (gs[i]?.getD 0))) (hmax : xs.length + 4 * len ≤ 1000000) :
    Calls Tryd.prog 27 #[vb, .slice (some ⟨N, 0, none⟩) len cap] w fun e w' => ∃ v', e = .returned v' ∧ w'.ownsRow base 5 1 v' (xs ++ numsB gs).length ((xs ++ numsB gs).map (Value.int .u8)) ∧ w.grownBy w' vb.ownBlock ∧ Moved w vb v' := by
  obtain ⟨i0, hi, hz0, hz1, hz2⟩ := info_parts infoB
  go_enter Tryd.func27, Tryd.ntmps27
  go_wp2
  go_loopw [0, 9] (fun b i wr => ∃ k : Nat, k ≤ len ∧ i = .int .i64 k ∧ wr.ownsRow base 5 1 b (xs ++ numsB (gs.take k)).length ((xs ++ numsB (gs.take k)).map (Value.int .u8)) ∧ w.grownBy wr vb.ownBlock ∧ Moved w vb b)
    (fun _ i _ => len - (intOf i).toNat)
  case atStart => exact ⟨0, Nat.zero_le _, rfl, by simpa [numsB] using hown, ⟨rfl, rfl, rfl, Nat.le_refl _, fun _ _ _ => rfl⟩, .inl rfl⟩
  case round =>
    obtain ⟨k, hk, rfl, hrow, hgr, hmv⟩ := hrel
    by_cases hlt : k < len
    · have hcx : wr.cell? ⟨N, k, none⟩ = some (.int .u32 (gs[k]?.getD 0)) := (World.cell?_of_block (a := ⟨N, k, none⟩) (hgr.block N hN (fun e => hne e.symm))).trans (hc k (by omega))
      have hux := hu k
      have hstep : xs ++ numsB (gs.take (k + 1)) = (xs ++ numsB (gs.take k)) ++ bytesOf (gs[k]?.getD 0) 4 := by rw [numsB_step gs k (by omega), List.append_assoc]
      generalize gs[k]?.getD 0 = x at *
      have hlen : (xs ++ numsB (gs.take k)).length ≤ 1000000 := by rw [List.length_append, numsB_len, List.length_take]; omega
      generalize xs ++ numsB (gs.take k) = ys at *
      go_wp2_with (first
        | (go_at_call 55; refine (Put_any x hux.1 hux.2 _).mono ?_; rintro e w1 ⟨rfl, ho1, hb1⟩)
        | (at_builtin; refine wpList_append_own_at _ rfl _ _ 24 rfl base 5 i0 (.int .u8 0) 1 1 Tryd.underlying24 hi hz0 hz1 hz2 rfl (by decide) u0 _ _ rfl (own_below hrow hb1) ⟨wr.heap.size, 0, none⟩ 4 4 ((bytesOf x 4).map (Value.int .u8)) rfl (by simp [bytesOf_length]) (seg_news (seg_own ho1 (bytesOf_length x 4))) (news_one _) (by unfold maxLen; omega) (by omega) (by have := hgr.size; have := hb1.size; omega) ?_; intro v' w2 hown2 hgrow2 hnil2 hloc2))
      have hbl := bytesOf_length x 4
      have R1 : w2.ownsRow base 5 1 v' (xs ++ numsB (gs.take (k + 1))).length ((xs ++ numsB (gs.take (k + 1))).map (Value.int .u8)) := by
        rw [hstep, List.length_append, hbl, List.map_append]
        exact hown2
      have R2 : w.grownBy w2 vb.ownBlock := (hgr.andThen (grown_below hb1 none) (fun j hj => by cases hj)).andThen hgrow2 (fun j hj => by
        rcases hmv with h | ⟨g, h, hg⟩
        · rw [h] at hj; exact .inr hj
        · rw [h] at hj; cases hj; exact .inl hg)
      have R3 : Moved w vb v' := by
        rcases hloc2 with h | h
        · rcases hmv with h1 | ⟨g, h1, hg⟩
          · exact .inl (h.trans h1)
          · exact .inr ⟨g, h.trans h1, hg⟩
        · exact .inr ⟨_, h, by have := hgr.size; have := hb1.size; omega⟩
      clear hown2 hgrow2 hnil2 hloc2 hstep hrow ho1
      go_wp2
      go_roundw
      case rel => exact ⟨k + 1, by omega, by go_num, R1, R2, R3⟩
      case measure => simp [intOf]; omega
    · obtain rfl : k = len := by omega
      rw [List.take_of_length_le (by omega)] at hrow
      go_wp2
      go_ret
      exact ⟨_, rfl, hrow, hgr, hmv⟩
end Go.Proofs.YtmjhgpmeikpbkaaDoor
