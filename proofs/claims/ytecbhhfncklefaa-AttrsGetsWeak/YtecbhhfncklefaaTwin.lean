/- 'TwinBytes': the same bytes in memory of their own, a mark 77 behind them; nothing that was there turns. -/
import Derived.Test.YtecbhhfncklefaaRows
import Derived.Test.YtecbhhfncklefaaBase
import Derived.Outline
import Derived.Maps.AppendAt
namespace Go.Proofs.Ytecbhhfncklefaa
set_option linter.unusedVariables false
open Go.RowKit

theorem info5 : (Try.prog.info? 5).map (fun i => (i.zero, i.size, i.bytes)) = some (some (.int .u8 0), 1, 1) := by kernel_rfl

theorem map_take_snoc (zs : List Int) (k : Nat) (h : k < zs.length) : (zs.take k).map (Value.int .u8) ++ [.int .u8 (zs[k]?.getD 0)] = (zs.take (k + 1)).map (Value.int .u8) := by
  rw [List.take_succ_eq_append_getElem h, List.map_append]
  simp only [List.map_cons, List.map_nil, List.getElem?_eq_getElem h, Option.getD_some]

set_option maxHeartbeats 400000 in
theorem twin_any (a : Option Addr) (len cap : Nat) (zs : List Int) (w : World) (hl : len ≤ 1048576) (hz : zs.length = len) (hs : Seg w a zs) :
    Calls Try.prog 7 #[.slice a len cap] w fun e w' => e = .returned (.slice (some ⟨w.heap.size, 0, none⟩) len (len + 1)) ∧ Below w.heap.size w w' ∧
      w'.ownsRow w.heap.size 5 1 (.slice (some ⟨w.heap.size, 0, none⟩) (len + 1) (len + 1)) (len + 1) ((zs ++ [77]).map (Value.int .u8)) := by
  obtain ⟨i0, hi, hz0, hz1, hz2⟩ := info_parts info5
  go_enter Try.func7, Try.ntmps7
  go_wp2_with (at_make; refine wpList_make_own _ rfl _ _ 22 rfl w.heap.size 5 i0 (.int .u8 0) 1 Try.underlying22 hi hz0 hz1 .i64 .i64 _ (len + 1) rfl rfl (by simp) (by rw [hz2]; omega) (by unfold maxLen; omega) (by simp) ?_; intro w1 hown1 hgrow1)
  go_loopw [3, 4] (fun v i wr => ∃ k : Nat, k ≤ len ∧ i = .int .i64 k ∧ v = .slice (some ⟨w.heap.size, 0, none⟩) k (len + 1) ∧ wr.ownsRow w.heap.size 5 1 (.slice (some ⟨w.heap.size, 0, none⟩) k (len + 1)) k ((zs.take k).map (Value.int .u8)) ∧ Below w.heap.size w wr) (fun _ i _ => len - (intOf i).toNat)
  case atStart => exact ⟨0, by omega, rfl, rfl, hown1, (Below.refl _ _).grown hgrow1 (Nat.le_refl _) (by simp)⟩
  case round =>
    obtain ⟨k, hk, rfl, rfl, hown, hB⟩ := hrel
    clear hown1 hgrow1
    by_cases hlt : k < len
    · rcases hs with rfl | ⟨b, off, rfl, hc⟩
      · simp at hz; omega
      · have hbl := World.block_lt_of_cell? _ _ (hc k (by omega))
        have hcx : wr.cell? ⟨b, off + k, none⟩ = some (.int .u8 (zs[k]?.getD 0)) := (hB.cell (p := ⟨b, off + k, none⟩) hbl).trans (hc k (by omega))
        have hsz := hB.size
        have HS : Hid ((zs.take k).map (Value.int .u8) ++ [.int .u8 (zs[k]?.getD 0)] = (zs.take (k + 1)).map (Value.int .u8)) := map_take_snoc zs k (by omega)
        generalize zs[k]?.getD 0 = x at hcx HS
        go_wp2_with (at_builtin; (refine wpList_append_fits _ rfl _ _ 22 rfl w.heap.size 5 i0 1 Try.underlying22 hi hz1 w.heap.size k (len + 1) _ rfl (hown.alloc _) ⟨wr.heap.size, 0, none⟩ 1 1 [.int .u8 x] rfl rfl (cell_one_new _ _ _) (by simp [Value.oneCell']) (by omega) ?_); intro w2 hown2 hgrow2)
        rw [HS.out] at hown2
        go_wp2
        go_roundw
        case rel => exact ⟨k + 1, by omega, by go_num, rfl, hown2, (hB.alloc hsz _).grown hgrow2 (by simp; omega) (by simp)⟩
        case measure => simp [intOf]; omega
    · obtain rfl : k = len := by omega
      have hsz := hB.size
      go_wp2_with (at_builtin; refine wpList_append_fits _ rfl _ _ 22 rfl w.heap.size 5 i0 1 Try.underlying22 hi hz1 w.heap.size k (k + 1) _ rfl (hown.alloc _) ⟨wr.heap.size, 0, none⟩ 1 1 [.int .u8 77] rfl rfl (cell_one_new _ _ _) (by simp [Value.oneCell']) (by omega) ?_; intro w2 hown2 hgrow2)
      go_ret
      refine ⟨rfl, (hB.alloc hsz _).grown hgrow2 (by simp; omega) (by simp), ?_⟩
      rw [List.take_of_length_le (by omega)] at hown2
      simpa using hown2

theorem twin_cells {w : World} {n len : Nat} {zs : List Int} (hz : zs.length = len) (h : w.ownsRow n 5 1 (.slice (some ⟨n, 0, none⟩) (len + 1) (len + 1)) (len + 1) ((zs ++ [77]).map (Value.int .u8))) :
    (∀ i, i < len → w.cell? ⟨n, i, none⟩ = some (.int .u8 (zs[i]?.getD 0))) ∧ w.cell? ⟨n, len, none⟩ = some (.int .u8 77) := by
  refine ⟨fun i hi => ?_, ?_⟩
  · rw [h.cellAt i (by omega), List.getElem?_map, List.getElem?_append_left (by omega), List.getElem?_eq_getElem (by omega)]
    rfl
  · rw [h.cellAt len (by omega), List.getElem?_map, List.getElem?_append_right (by omega)]
    simp [hz]

/-- The twin, by what its readers ask. -/
structure IsTwin (w : World) (g : Nat) (zs : List Int) : Prop where
  cell : ∀ i, i < zs.length → w.cell? ⟨g, i, none⟩ = some (.int .u8 (zs[i]?.getD 0))
  mark : w.cell? ⟨g, zs.length, none⟩ = some (.int .u8 77)

theorem IsTwin.seg {w : World} {g : Nat} {zs : List Int} (h : IsTwin w g zs) : Seg w (some ⟨g, 0, none⟩) zs := .inr ⟨g, 0, rfl, fun i hi => by rw [Nat.zero_add]; exact h.cell i hi⟩

theorem IsTwin.below {w w' : World} {g : Nat} {zs : List Int} (h : IsTwin w g zs) (hb : Below w.heap.size w w') : IsTwin w' g zs := by
  have hl := World.block_lt_of_cell? _ _ h.mark
  exact ⟨fun i hi => (hb.cell (p := ⟨g, i, none⟩) hl).trans (h.cell i hi), (hb.cell (p := ⟨g, zs.length, none⟩) hl).trans h.mark⟩

theorem twin (a : Option Addr) (len cap : Nat) (zs : List Int) (w : World) (hl : len ≤ 1048576) (hz : zs.length = len) (hs : Seg w a zs) :
    Calls Try.prog 7 #[.slice a len cap] w fun e w' => ∃ g, e = .returned (.slice (some ⟨g, 0, none⟩) len (len + 1)) ∧ Below w.heap.size w w' ∧ w.heap.size ≤ g ∧ IsTwin w' g zs := by
  refine (twin_any a len cap zs w hl hz hs).mono ?_
  rintro e w' ⟨rfl, hb, hown⟩
  obtain ⟨h1, h2⟩ := twin_cells hz hown
  subst hz
  exact ⟨_, rfl, hb, Nat.le_refl _, h1, h2⟩
end Go.Proofs.Ytecbhhfncklefaa
