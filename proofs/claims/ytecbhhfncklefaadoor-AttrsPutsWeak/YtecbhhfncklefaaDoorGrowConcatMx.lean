/- 'slices.Grow' of nil: an empty slice with room of its own (nil for none); nothing that was there turns. -/
import Derived.Test.YtecbhhfncklefaaDoorRows
import Derived.Test.YtecbhhfncklefaaDoorBase
import Derived.Outline
import Derived.Maps.AppendAt
import Derived.Lib.AppendZeros
import Derived.Test.YtecbhhfncklefaaDoorTimeEqKokMathPNeedPiecesMx
import Derived.Laws.AppendOwnNone
namespace Go.Proofs.YtecbhhfncklefaaDoor
set_option linter.unusedVariables false
open Go.RowKit

theorem infoG : (Tryd.prog.info? 5).map (fun i => (i.zero, i.size, i.bytes)) = some (some (.int .u8 0), 1, 1) := by kernel_rfl

set_option maxRecDepth 100000 in
set_option maxHeartbeats 400000 in
theorem grow_nil (n : Nat) (w : World) (hn : n ≤ 140737488355328) :
    Calls Tryd.prog 96 #[.slice none 0 0, .int .i64 (n : Int)] w fun e w' => ∃ v, e = .returned v ∧ w'.ownsRow w.heap.size 5 1 v 0 [] ∧ Below w.heap.size w w' := by
  obtain ⟨i0, hi, hz0, hz1, hz2⟩ := info_parts infoG
  by_cases h0 : n = 0
  · subst h0
    go_enter Tryd.func96, Tryd.ntmps96
    go_wp2
    go_ret
    exact ⟨_, rfl, ⟨rfl, .inl ⟨rfl, rfl⟩⟩, Below.refl _ _⟩
  · have hrun := Lib.run_append_nil_zeros (P := Tryd.prog) w 29 3 29 5 i0 (.int .u8 0) .i64 .i64 Tryd.underlying29 Tryd.underlying3 hi hz0 n (by omega) (by omega) (by omega) (by rw [hz2]; omega)
    have hg := grownCap_ge w n 0 5
    have hg2 := grownCap_le_maxLen w n 0 5 (by unfold maxLen; omega)
    go_enter Tryd.func96, Tryd.ntmps96
    go_wp2_with (at_builtin; refine Lib.wpList_append_run _ rfl _ _ _ _ rfl _ _ rfl rfl _ _ hrun ?_)
    go_ret
    have hB : Below w.heap.size w (w.alloc (.cells (Builtin.zeroCells #[.int .u8 0] n ++ Builtin.zeroCells #[.int .u8 0] (grownCap w n 0 5 - n)) 5)).drew := ((Below.refl _ _).alloc (Nat.le_refl _) _).drew
    refine ⟨_, rfl, ⟨rfl, .inr ⟨w.heap.size, grownCap w n 0 5, Builtin.zeroCells #[.int .u8 0] n ++ Builtin.zeroCells #[.int .u8 0] (grownCap w n 0 5 - n), rfl, Nat.le_refl _, ?_, Nat.zero_le _, hg2, ?_, rfl⟩⟩, hB⟩
    · show (w.heap.push _)[w.heap.size]? = _
      rw [Array.getElem?_push_size]
    · simp [size_zeroCells]
      omega
end Go.Proofs.YtecbhhfncklefaaDoor

/- 'slices.Concat': bytes one behind the other in memory of their own; nothing that was there turns. -/
namespace Go.Proofs.YtecbhhfncklefaaDoor
set_option linter.unusedVariables false
open Go.RowKit

def allOf (ps : List Part) : List Int := ps.flatMap Part.zs

theorem allOf_take (ps : List Part) (k : Nat) (hk : k < ps.length) : allOf (ps.take (k + 1)) = allOf (ps.take k) ++ ps[k].zs := by
  unfold allOf
  rw [List.take_succ_eq_append_getElem hk, List.flatMap_append]
  simp

theorem allOf_le (ps : List Part) (k : Nat) : (allOf (ps.take k)).length ≤ (allOf ps).length := by
  have h : allOf ps = allOf (ps.take k) ++ allOf (ps.drop k) := by
    unfold allOf
    rw [← List.flatMap_append, List.take_append_drop]
  rw [h, List.length_append]
  omega

set_option maxRecDepth 100000 in
set_option maxHeartbeats 1000000 in
theorem concat_cap (ps : List Part) (b n c : Nat) (w : World) (hn : ps.length = n) (hnm : n ≤ 140737488355328) (hc : ∀ i, (h : i < ps.length) → w.cell? ⟨b, i, none⟩ = some ps[i].v) (hin : ∀ p ∈ ps, p.In w) (hm : (allOf ps).length ≤ 140737488355328) :
    Calls Tryd.prog 63 #[.slice (some ⟨b, 0, none⟩) n c] w fun e w' => ∃ v, e = .returned v ∧ w'.ownsRow w.heap.size 5 1 v (allOf ps).length ((allOf ps).map (Value.int .u8)) ∧ Below w.heap.size w w' := by
  obtain ⟨i0, hi, hz0, hz1, hz2⟩ := info_parts infoG
  go_enter Tryd.func63, Tryd.ntmps63
  go_wp2
  go_loop [3, 11] (fun s i => ∃ k : Nat, k ≤ n ∧ i = .int .i64 k ∧ s = .int .i64 ((allOf (ps.take k)).length : Nat)) (fun _ i => n - (intOf i).toNat)
  case atStart => exact ⟨0, by omega, rfl, rfl⟩
  case round =>
    obtain ⟨k, hk, rfl, rfl⟩ := hrel
    by_cases hlt : k < n
    · have hcx := hc k (by omega)
      have hix := hin ps[k] (List.getElem_mem _)
      have HA : Hid ((allOf (ps.take (k + 1))).length = (allOf (ps.take k)).length + ps[k].len) := by
        show _ = _
        rw [allOf_take ps k (by omega), List.length_append, hix.len]
      have hle : (allOf (ps.take k)).length + ps[k].len ≤ 140737488355328 := by
        have := allOf_le ps (k + 1)
        rw [← HA.out]; omega
      generalize ps[k] = p at hcx hix HA hle
      generalize (allOf (ps.take k)).length = s at *
      unfold Part.v at hcx
      clear hc
      go_wp2
      go_round
      case rel => exact ⟨k + 1, by omega, by go_num, by rw [HA.out]; go_num⟩
      case measure => simp [intOf]; omega
    · obtain rfl : k = n := by omega
      rw [List.take_of_length_le (by omega)]
      go_wp2_with fail
      refine (grow_nil (allOf ps).length w hm).mono ?_
      rintro e w1 ⟨v1, rfl, hown1, hB1⟩
      go_wp2
      go_loopw [6, 27] (fun v i wr => ∃ j : Nat, j ≤ k ∧ i = .int .i64 j ∧ wr.ownsRow w.heap.size 5 1 v (allOf (ps.take j)).length ((allOf (ps.take j)).map (Value.int .u8)) ∧ Below w.heap.size w wr) (fun _ i _ => k - (intOf i).toNat)
      case atStart => exact ⟨0, by omega, rfl, hown1, hB1⟩
      case round =>
        obtain ⟨j, hj, rfl, hown, hB⟩ := hrel
        clear hown1 hB1
        by_cases hlt : j < k
        · have hcx := hc j (by omega)
          have hix := hin ps[j] (List.getElem_mem _)
          have HA : Hid (allOf (ps.take (j + 1)) = allOf (ps.take j) ++ ps[j].zs) := allOf_take ps j (by omega)
          have hle : (allOf (ps.take j)).length + ps[j].len ≤ 140737488355328 := by
            have := allOf_le ps (j + 1)
            rw [HA.out, List.length_append, hix.len] at this
            omega
          have hlb : b < w.heap.size := World.block_lt_of_cell? _ _ hcx
          replace hcx : wr.cell? ⟨b, j, none⟩ = _ := (hB.cell (p := ⟨b, j, none⟩) hlb).trans hcx
          generalize ps[j] = p at hcx hix HA hle
          obtain ⟨pa, pl, pc, zs⟩ := p
          obtain ⟨hlen, hseg, hnil⟩ := hix
          simp only at hlen hseg hnil HA hle
          simp only [Part.v] at hcx
          have hseg1 := hseg.below hB
          clear hc
          cases pa with
          | none =>
            obtain ⟨rfl, rfl⟩ := hnil rfl
            obtain rfl : zs = [] := List.length_eq_zero_iff.1 hlen
            go_wp2_with (at_builtin; refine wpList_append_own_none rfl _ _ 29 rfl w.heap.size 5 i0 1 Tryd.underlying29 hi _ _ _ rfl hown rfl ?_)
            go_roundw
            case rel => exact ⟨j + 1, by omega, by go_num, by rw [HA.out, List.append_nil]; exact hown, hB⟩
            case measure => simp [intOf]; omega
          | some ad =>
            go_wp2_with (at_builtin; refine wpList_append_own _ rfl _ _ 29 rfl w.heap.size 5 i0 (.int .u8 0) 1 1 Tryd.underlying29 hi hz0 hz1 hz2 rfl (by decide) _ _ _ rfl hown ad pl pc (zs.map (Value.int .u8)) rfl (by simp [hlen]) (seg_news hseg1) (news_one zs) (by unfold maxLen; omega) (by omega) hB.size ?_; intro v' w4 hown4 hgrow4 _)
            have hB4 : Below w.heap.size w w4 := hB.grown hgrow4 hB.size (fun k e => own_low hown e)
            go_roundw
            case rel => exact ⟨j + 1, by omega, by go_num, by rw [HA.out, List.length_append, hlen, List.map_append]; exact hown4, hB4⟩
            case measure => simp [intOf]; omega
        · obtain rfl : j = k := by omega
          rw [List.take_of_length_le (by omega)] at hown
          go_wp2
          go_ret
          exact ⟨_, rfl, hown, hB⟩
theorem concat_any (ps : List Part) (b n : Nat) (w : World) (hn : ps.length = n) (hnm : n ≤ 140737488355328) (hc : ∀ i, (h : i < ps.length) → w.cell? ⟨b, i, none⟩ = some ps[i].v) (hin : ∀ p ∈ ps, p.In w) (hm : (allOf ps).length ≤ 140737488355328) :
    Calls Tryd.prog 63 #[.slice (some ⟨b, 0, none⟩) n n] w fun e w' => ∃ v, e = .returned v ∧ w'.ownsRow w.heap.size 5 1 v (allOf ps).length ((allOf ps).map (Value.int .u8)) ∧ Below w.heap.size w w' := concat_cap ps b n n w hn hnm hc hin hm
end Go.Proofs.YtecbhhfncklefaaDoor
