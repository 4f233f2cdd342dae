/- The document's 'denied', 'accepted', 'told': what numbers tell so far; nothing that was there turns. -/
import Derived.Test.YtmjhgpmeikpbkaaDoorRefTdMath
import Derived.Test.YtmjhgpmeikpbkaaDoorRepSmall
import Derived.Test.YtmjhgpmeikpbkaaDoorRepHowK
import Derived.Test.YtmjhgpmeikpbkaaDoorRepTwin
import Derived.Test.YtmjhgpmeikpbkaaDoorStoreField
import Derived.Deep.RegionHeld3
namespace Go.Proofs.YtmjhgpmeikpbkaaDoor
set_option linter.unusedVariables false
open Go.RowKit

/-- What 'told' leaves. -/
def ToldP (w : World) (x : Int) (t : TD) (e : Ending) (W' : World) : Prop :=
  e = .returned (.tuple #[.agg #[.int .u32 x, .int .u32 t.h, .int .u32 t.l, .int .u32 t.g, .slice none 0 0], .bool t.more, .bool t.ok]) ∧ Below w.heap.size w W'

theorem infoRp : (Tryd.prog.info? 26).map (·.size) = some 5 := by kernel_rfl
theorem infoU1 : (Tryd.prog.info? 22).map (·.size) = some 1 := by kernel_rfl
theorem infoA1 : (Tryd.prog.info? 23).map (·.size) = some 1 := by kernel_rfl

/-- The end of a walk that stores its answer in the second of two boxes. -/
theorem told_end {w W w9 : World} {A : Nat} (hB : Below w.heap.size w W) (hA : w.heap.size ≤ A) (hg : W.grownBy w9 (some A)) : Below w.heap.size w w9 :=
  hB.grown hg hB.size (fun k e => by cases e; exact hA)

theorem grown_cell {W w3 : World} {A N k : Nat} {v : Value} (hg : W.grownBy w3 (some A)) (hc : W.cell? ⟨N, k, none⟩ = some v) (hne : N ≠ A) : w3.cell? ⟨N, k, none⟩ = some v :=
  (World.cell?_of_block (a := ⟨N, k, none⟩) (hg.block N (World.block_lt_of_cell? _ _ hc) (fun e => by injection e with e; exact hne e))).trans hc
theorem grown_box {W w3 : World} {A N : Nat} {o : Obj} (hg : W.grownBy w3 (some A)) (hc : W.heap[N]? = some o) (hne : N ≠ A) : w3.heap[N]? = some o :=
  (hg.block N (Array.getElem?_eq_some_iff.1 hc).1 (fun e => by injection e with e; exact hne e)).trans hc
theorem below_drew0 {B : Nat} {w W : World} (h : Below B w W) : Below B w W.drew := ⟨h.os, h.tape, h.output, h.size, h.block⟩

set_option maxRecDepth 100000 in
set_option maxHeartbeats 2000000 in
theorem denied_any (x : Int) (N n cap : Nat) (z : Nat → Int) (w : World) (hN : N < w.heap.size) (hn1 : 1 ≤ n) (hnc : n ≤ cap) (hcm : cap ≤ 9223372036854775807) (hz : ∀ i, i < n → 0 ≤ z i ∧ z i ≤ 4294967295) (hc : ∀ i, i < n → w.cell? ⟨N, 3 + i, none⟩ = some (.int .u32 (z i))) :
    Calls Tryd.prog 74 #[.agg #[.int .u32 x, .int .u32 0, .int .u32 0, .int .u32 0, .slice none 0 0], .slice (some ⟨N, 3, none⟩) n cap] w fun e W' => ToldP w x (dnT n z) e W' := by
  obtain ⟨hR0, hQ0, hW0, hsz⟩ := two_boxes w (.cells #[.int .u32 x, .int .u32 0, .int .u32 0, .int .u32 0, .slice none 0 0] 26) (.cells #[.int .u32 0, .int .u32 0, .int .u32 0, .int .u32 0, .slice none 0 0] 26)
  have hz0 := hz 0 hn1
  have a_0 := (hW0.cell (p := ⟨N, 3, none⟩) hN).trans (hc 0 hn1)
  have b0 : 1 < n → _ := fun h => (hW0.cell (p := ⟨N, 4, none⟩) hN).trans (hc 1 h)
  have c0 : 2 < n → _ := fun h => (hW0.cell (p := ⟨N, 5, none⟩) hN).trans (hc 2 h)
  have hz1 := hz 1
  have hz2 := hz 2
  have hi0 : (0 : Int) < n := by omega
  clear hc hz
  unfold dnT
  generalize z 0 = z0 at *
  generalize z 1 = z1 at *
  generalize z 2 = z2 at *
  by_cases q0 : 1 < z0
  · rw [if_pos q0]
    clear b0 c0
    go_enter Tryd.func74, Tryd.ntmps74
    go_wp2_with (refine wpList_store_whole rfl 26 _ _ rfl (w.heap.size + 1) #[.int .u32 x, .int .u32 0, .int .u32 0, .int .u32 0, .slice none 0 0] rfl rfl _ _ hQ0 infoRp rfl (by simp [Value.oneCell']) ?_; intro w9 hC9 hg9 hs9)
    obtain ⟨v0, v1, v2, v3, v4⟩ := five_at hC9
    refine bodyPost_ret (v := .tuple #[.agg #[.int .u32 x, .int .u32 0, .int .u32 0, .int .u32 0, .slice none 0 0], .bool false, .bool false]) (by simp [results, Tryd.results74, go_sem, v0, v1, v2, v3, v4]) rfl ?_
    exact ⟨rfl, told_end hW0 (by omega) hg9⟩
  rw [if_neg q0]
  by_cases q1 : n = 1
  · subst q1
    rw [if_pos rfl]
    clear b0 c0
    go_enter Tryd.func74, Tryd.ntmps74
    go_wp2_with (refine wpList_store_whole rfl 26 _ _ rfl (w.heap.size + 1) #[.int .u32 x, .int .u32 0, .int .u32 0, .int .u32 0, .slice none 0 0] rfl rfl _ _ hQ0 infoRp rfl (by simp [Value.oneCell']) ?_; intro w9 hC9 hg9 hs9)
    obtain ⟨v0, v1, v2, v3, v4⟩ := five_at hC9
    refine bodyPost_ret (v := .tuple #[.agg #[.int .u32 x, .int .u32 0, .int .u32 0, .int .u32 0, .slice none 0 0], .bool true, .bool true]) (by simp [results, Tryd.results74, go_sem, v0, v1, v2, v3, v4]) rfl ?_
    exact ⟨rfl, told_end hW0 (by omega) hg9⟩
  rw [if_neg q1]
  have hn2 : 1 < n := by omega
  have hi1 : (1 : Int) < n := by omega
  have b_0 := b0 hn2
  replace hz1 := hz1 hn2
  clear b0
  have q1i : ¬ (n : Int) = 1 := by omega
  by_cases q2 : z0 = 1
  · subst q2
    rw [if_pos rfl]
    go_enter Tryd.func74, Tryd.ntmps74
    go_wp2_with (first
      | (refine wpList_store_field rfl 23 _ _ rfl w.heap.size 1 (.int .u32 101) rfl rfl _ _ hR1 infoA1 (by simp) rfl #[.int .u32 x, .int .u32 101, .int .u32 z1, .int .u32 0, .slice none 0 0] rfl ?_; intro w2 hR2 hg2 hs2; have hQ2 := grown_box hg2 hQ1 (by omega); have hW2 := told_end hW1 (Nat.le_refl _) hg2; obtain ⟨y0_2, y1_2, y2_2, y3_2, y4_2⟩ := five_at hR2; have b_2 := grown_cell hg2 b_1 (by omega))
      | (refine wpList_store_field rfl 22 _ _ rfl w.heap.size 2 (.int .u32 z1) rfl rfl _ _ hR0 infoU1 (by simp) rfl #[.int .u32 x, .int .u32 0, .int .u32 z1, .int .u32 0, .slice none 0 0] rfl ?_; intro w1 hR1 hg1 hs1; have hQ1 := grown_box hg1 hQ0 (by omega); have hW1 := told_end hW0 (Nat.le_refl _) hg1; obtain ⟨y0_1, y1_1, y2_1, y3_1, y4_1⟩ := five_at hR1; have a_1 := grown_cell hg1 a_0 (by omega); have b_1 := grown_cell hg1 b_0 (by omega)))
    clear hR0 hQ0 hW0 hsz a_0 b_0 c0 hQ1 hR1 hW1 a_1 b_1 hg1 hg2 hs1 hs2 y0_1 y1_1 y2_1 y3_1 y4_1
    have fz4 : ∀ i, w2.frozen? ⟨w.heap.size + 1, i, none⟩ = false := fun i => by simp [World.frozen?, hQ2]
    obtain ⟨u0, u1, u2, u3, u4⟩ := five_at hQ2
    have hne : ¬ N = w.heap.size + 1 := by omega
    have hne2 : ¬ w.heap.size = w.heap.size + 1 := by omega
    obtain ⟨hC9, hg9⟩ := five_store hQ2 (.int .u32 x) (.int .u32 101) (.int .u32 z1) (.int .u32 0) (.slice none 0 0)
    have hfin := below_drew0 (told_end hW2 (show w.heap.size ≤ w.heap.size + 1 by omega) hg9)
    have hC9' : (((((w2.setCell ⟨w.heap.size + 1, 0, none⟩ (.int .u32 x)).setCell ⟨w.heap.size + 1, 1, none⟩ (.int .u32 101)).setCell ⟨w.heap.size + 1, 2, none⟩ (.int .u32 z1)).setCell ⟨w.heap.size + 1, 3, none⟩ (.int .u32 0)).setCell ⟨w.heap.size + 1, 4, none⟩ (.slice none 0 0)).drew.heap[w.heap.size + 1]? = _ := hC9
    clear hC9 hg9
    by_cases hz1' : 1 ≤ z1
    · have hd : decide (1 ≤ z1) = true := decide_eq_true hz1'
      go_big_region
      all_goals
        clear fz4 u0 u1 u2 u3 u4 hQ2 hR2 hW2 b_2 y0_2 y1_2 y2_2 y3_2 y4_2
        generalize World.drew _ = w9 at *
        go_wp2
        obtain ⟨v0, v1, v2, v3, v4⟩ := five_at hC9'
        refine bodyPost_ret (v := .tuple #[.agg #[.int .u32 x, .int .u32 101, .int .u32 z1, .int .u32 0, .slice none 0 0], .bool false, .bool (decide (z1 ≤ 7))]) (by simp [results, Tryd.results74, go_sem, v0, v1, v2, v3, v4]) rfl ?_
        exact ⟨by have hq := decide_eq_true (p := 1 ≤ z1) (by omega); rw [hq]; rfl, hfin⟩
    · have hd : decide (1 ≤ z1) = false := decide_eq_false hz1'
      go_big_region
      all_goals
        clear fz4 u0 u1 u2 u3 u4 hQ2 hR2 hW2 b_2 y0_2 y1_2 y2_2 y3_2 y4_2
        generalize World.drew _ = w9 at *
        go_wp2
        obtain ⟨v0, v1, v2, v3, v4⟩ := five_at hC9'
        refine bodyPost_ret (v := .tuple #[.agg #[.int .u32 x, .int .u32 101, .int .u32 z1, .int .u32 0, .slice none 0 0], .bool false, .bool false]) (by simp [results, Tryd.results74, go_sem, v0, v1, v2, v3, v4]) rfl ?_
        exact ⟨rfl, hfin⟩
  rw [if_neg q2]
  by_cases q3 : n = 2
  · subst q3
    rw [if_pos rfl]
    clear c0
    go_enter Tryd.func74, Tryd.ntmps74
    go_wp2_with (first
      | (refine wpList_store_whole rfl 26 _ _ rfl (w.heap.size + 1) #[.int .u32 x, .int .u32 100, .int .u32 z1, .int .u32 0, .slice none 0 0] rfl rfl _ _ hQ2 infoRp rfl (by simp [Value.oneCell']) ?_; intro w9 hC9 hg9 hs9)
      | (refine wpList_store_field rfl 23 _ _ rfl w.heap.size 1 (.int .u32 100) rfl rfl _ _ hR1 infoA1 (by simp) rfl #[.int .u32 x, .int .u32 100, .int .u32 z1, .int .u32 0, .slice none 0 0] rfl ?_; intro w2 hR2 hg2 hs2; have hQ2 := grown_box hg2 hQ1 (by omega); have hW2 := told_end hW1 (Nat.le_refl _) hg2; obtain ⟨y0_2, y1_2, y2_2, y3_2, y4_2⟩ := five_at hR2; have b_2 := grown_cell hg2 b_1 (by omega))
      | (refine wpList_store_field rfl 22 _ _ rfl w.heap.size 2 (.int .u32 z1) rfl rfl _ _ hR0 infoU1 (by simp) rfl #[.int .u32 x, .int .u32 0, .int .u32 z1, .int .u32 0, .slice none 0 0] rfl ?_; intro w1 hR1 hg1 hs1; have hQ1 := grown_box hg1 hQ0 (by omega); have hW1 := told_end hW0 (Nat.le_refl _) hg1; obtain ⟨y0_1, y1_1, y2_1, y3_1, y4_1⟩ := five_at hR1; have a_1 := grown_cell hg1 a_0 (by omega); have b_1 := grown_cell hg1 b_0 (by omega)))
    obtain ⟨v0, v1, v2, v3, v4⟩ := five_at hC9
    refine bodyPost_ret (v := .tuple #[.agg #[.int .u32 x, .int .u32 100, .int .u32 z1, .int .u32 0, .slice none 0 0], .bool true, .bool true]) (by simp [results, Tryd.results74, go_sem, v0, v1, v2, v3, v4]) rfl ?_
    exact ⟨rfl, told_end hW2 (by omega) hg9⟩
  rw [if_neg q3]
  have hn3 : 2 < n := by omega
  have hi2 : (2 : Int) < n := by omega
  have c_0 := c0 hn3
  replace hz2 := hz2 hn3
  clear c0
  have q3i : ¬ (n : Int) = 2 := by omega
  go_enter Tryd.func74, Tryd.ntmps74
  go_wp2_with (first
    | (refine wpList_store_whole rfl 26 _ _ rfl (w.heap.size + 1) #[.int .u32 x, .int .u32 100, .int .u32 z1, .int .u32 z2, .slice none 0 0] rfl rfl _ _ hQ3 infoRp rfl (by simp [Value.oneCell']) ?_; intro w9 hC9 hg9 hs9)
    | (refine wpList_store_field rfl 22 _ _ rfl w.heap.size 3 (.int .u32 z2) rfl rfl _ _ hR2 infoU1 (by simp) rfl #[.int .u32 x, .int .u32 100, .int .u32 z1, .int .u32 z2, .slice none 0 0] rfl ?_; intro w3 hR3 hg3 hs3; have hQ3 := grown_box hg3 hQ2 (by omega); have hW3 := told_end hW2 (Nat.le_refl _) hg3; obtain ⟨y0_3, y1_3, y2_3, y3_3, y4_3⟩ := five_at hR3)
    | (refine wpList_store_field rfl 23 _ _ rfl w.heap.size 1 (.int .u32 100) rfl rfl _ _ hR1 infoA1 (by simp) rfl #[.int .u32 x, .int .u32 100, .int .u32 z1, .int .u32 0, .slice none 0 0] rfl ?_; intro w2 hR2 hg2 hs2; have hQ2 := grown_box hg2 hQ1 (by omega); have hW2 := told_end hW1 (Nat.le_refl _) hg2; obtain ⟨y0_2, y1_2, y2_2, y3_2, y4_2⟩ := five_at hR2; have c_2 := grown_cell hg2 c_1 (by omega))
    | (refine wpList_store_field rfl 22 _ _ rfl w.heap.size 2 (.int .u32 z1) rfl rfl _ _ hR0 infoU1 (by simp) rfl #[.int .u32 x, .int .u32 0, .int .u32 z1, .int .u32 0, .slice none 0 0] rfl ?_; intro w1 hR1 hg1 hs1; have hQ1 := grown_box hg1 hQ0 (by omega); have hW1 := told_end hW0 (Nat.le_refl _) hg1; obtain ⟨y0_1, y1_1, y2_1, y3_1, y4_1⟩ := five_at hR1; have a_1 := grown_cell hg1 a_0 (by omega); have b_1 := grown_cell hg1 b_0 (by omega); have c_1 := grown_cell hg1 c_0 (by omega)))
  obtain ⟨v0, v1, v2, v3, v4⟩ := five_at hC9
  refine bodyPost_ret (v := .tuple #[.agg #[.int .u32 x, .int .u32 100, .int .u32 z1, .int .u32 z2, .slice none 0 0], .bool false, .bool true]) (by simp [results, Tryd.results74, go_sem, v0, v1, v2, v3, v4]) rfl ?_
  exact ⟨rfl, told_end hW3 (by omega) hg9⟩

set_option maxRecDepth 100000 in
set_option maxHeartbeats 2000000 in
theorem accepted_any (x : Int) (N n cap : Nat) (z : Nat → Int) (w : World) (hN : N < w.heap.size) (hn1 : 1 ≤ n) (hn5 : n ≤ 5) (hnc : n ≤ cap) (hcm : cap ≤ 9223372036854775807) (hz : ∀ i, i < n → 0 ≤ z i ∧ z i ≤ 4294967295) (hc : ∀ i, i < n → w.cell? ⟨N, 3 + i, none⟩ = some (.int .u32 (z i))) :
    Calls Tryd.prog 75 #[.agg #[.int .u32 x, .int .u32 0, .int .u32 0, .int .u32 0, .slice none 0 0], .slice (some ⟨N, 3, none⟩) n cap] w fun e W' => ToldP w x (acT n z) e W' := by
  obtain ⟨hR0, hQ0, hW0, hsz⟩ := two_boxes w (.cells #[.int .u32 x, .int .u32 0, .int .u32 0, .int .u32 0, .slice none 0 0] 26) (.cells #[.int .u32 0, .int .u32 0, .int .u32 0, .int .u32 0, .slice none 0 0] 26)
  have hc0 := fun i h => (hW0.cell (p := ⟨N, 3 + i, none⟩) hN).trans (hc i h)
  clear hc
  rcases (by omega : n = 1 ∨ n = 2 ∨ n = 3 ∨ n = 4 ∨ n = 5) with rfl | rfl | rfl | rfl | rfl
  · have a_0 := hc0 0 (by omega)
    have hz0 := hz 0 (by omega)
    unfold acT
    rw [if_pos (by omega)]
    simp only [Nat.reduceAdd] at a_0
    rw [show 1 - 1 = 0 from rfl]
    generalize z 0 = z0 at *
    clear hc0 hz
    by_cases q0 : z0 = 0
    · subst q0
      rw [if_pos rfl]
      go_enter Tryd.func75, Tryd.ntmps75
      go_wp2_with (refine wpList_store_whole rfl 26 _ _ rfl (w.heap.size + 1) #[.int .u32 x, .int .u32 0, .int .u32 0, .int .u32 0, .slice none 0 0] rfl rfl _ _ hQ0 infoRp rfl (by simp [Value.oneCell']) ?_; intro w9 hC9 hg9 hs9)
      obtain ⟨v0, v1, v2, v3, v4⟩ := five_at hC9
      refine bodyPost_ret (v := .tuple #[.agg #[.int .u32 x, .int .u32 0, .int .u32 0, .int .u32 0, .slice none 0 0], .bool true, .bool true]) (by simp [results, Tryd.results75, go_sem, v0, v1, v2, v3, v4]) rfl ?_
      exact ⟨rfl, told_end hW0 (by omega) hg9⟩
    · rw [if_neg q0]
      go_enter Tryd.func75, Tryd.ntmps75
      go_wp2_with (refine wpList_store_whole rfl 26 _ _ rfl (w.heap.size + 1) #[.int .u32 x, .int .u32 0, .int .u32 0, .int .u32 0, .slice none 0 0] rfl rfl _ _ hQ0 infoRp rfl (by simp [Value.oneCell']) ?_; intro w9 hC9 hg9 hs9)
      obtain ⟨v0, v1, v2, v3, v4⟩ := five_at hC9
      refine bodyPost_ret (v := .tuple #[.agg #[.int .u32 x, .int .u32 0, .int .u32 0, .int .u32 0, .slice none 0 0], .bool false, .bool false]) (by simp [results, Tryd.results75, go_sem, v0, v1, v2, v3, v4]) rfl ?_
      exact ⟨rfl, told_end hW0 (by omega) hg9⟩
  · have a_0 := hc0 1 (by omega)
    have hz0 := hz 1 (by omega)
    unfold acT
    rw [if_pos (by omega)]
    simp only [Nat.reduceAdd] at a_0
    rw [show 2 - 1 = 1 from rfl]
    generalize z 1 = z0 at *
    clear hc0 hz
    by_cases q0 : z0 = 0
    · subst q0
      rw [if_pos rfl]
      go_enter Tryd.func75, Tryd.ntmps75
      go_wp2_with (refine wpList_store_whole rfl 26 _ _ rfl (w.heap.size + 1) #[.int .u32 x, .int .u32 0, .int .u32 0, .int .u32 0, .slice none 0 0] rfl rfl _ _ hQ0 infoRp rfl (by simp [Value.oneCell']) ?_; intro w9 hC9 hg9 hs9)
      obtain ⟨v0, v1, v2, v3, v4⟩ := five_at hC9
      refine bodyPost_ret (v := .tuple #[.agg #[.int .u32 x, .int .u32 0, .int .u32 0, .int .u32 0, .slice none 0 0], .bool true, .bool true]) (by simp [results, Tryd.results75, go_sem, v0, v1, v2, v3, v4]) rfl ?_
      exact ⟨rfl, told_end hW0 (by omega) hg9⟩
    · rw [if_neg q0]
      go_enter Tryd.func75, Tryd.ntmps75
      go_wp2_with (refine wpList_store_whole rfl 26 _ _ rfl (w.heap.size + 1) #[.int .u32 x, .int .u32 0, .int .u32 0, .int .u32 0, .slice none 0 0] rfl rfl _ _ hQ0 infoRp rfl (by simp [Value.oneCell']) ?_; intro w9 hC9 hg9 hs9)
      obtain ⟨v0, v1, v2, v3, v4⟩ := five_at hC9
      refine bodyPost_ret (v := .tuple #[.agg #[.int .u32 x, .int .u32 0, .int .u32 0, .int .u32 0, .slice none 0 0], .bool false, .bool false]) (by simp [results, Tryd.results75, go_sem, v0, v1, v2, v3, v4]) rfl ?_
      exact ⟨rfl, told_end hW0 (by omega) hg9⟩
  · have a_0 := hc0 2 (by omega)
    have hz2 := hz 2 (by omega)
    unfold acT
    rw [if_neg (by omega)]
    simp only [Nat.reduceAdd] at a_0
    generalize z 2 = z2 at *
    generalize z 3 = z3 at *
    generalize z 4 = z4 at *
    clear hc0 hz
    by_cases q0 : 4 < z2
    · rw [if_pos q0]
      go_enter Tryd.func75, Tryd.ntmps75
      go_wp2_with (first
        | (refine wpList_store_whole rfl 26 _ _ rfl (w.heap.size + 1) #[.int .u32 x, .int .u32 z2, .int .u32 0, .int .u32 0, .slice none 0 0] rfl rfl _ _ hQ1 infoRp rfl (by simp [Value.oneCell']) ?_; intro w9 hC9 hg9 hs9)
        | (refine wpList_store_field rfl 23 _ _ rfl w.heap.size 1 (.int .u32 z2) rfl rfl _ _ hR0 infoA1 (by simp) rfl #[.int .u32 x, .int .u32 z2, .int .u32 0, .int .u32 0, .slice none 0 0] rfl ?_; intro w1 hR1 hg1 hs1; have hQ1 := grown_box hg1 hQ0 (by omega); have hW1 := told_end hW0 (Nat.le_refl _) hg1; obtain ⟨y0_1, y1_1, y2_1, y3_1, y4_1⟩ := five_at hR1; have a_1 := grown_cell hg1 a_0 (by omega)))
      obtain ⟨v0, v1, v2, v3, v4⟩ := five_at hC9
      refine bodyPost_ret (v := .tuple #[.agg #[.int .u32 x, .int .u32 z2, .int .u32 0, .int .u32 0, .slice none 0 0], .bool false, .bool false]) (by simp [results, Tryd.results75, go_sem, v0, v1, v2, v3, v4]) rfl ?_
      exact ⟨rfl, told_end hW1 (by omega) hg9⟩
    rw [if_neg q0]
    by_cases q1 : z2 = 2
    · subst q1
      rw [if_neg (by simp), if_pos (by omega)]
      go_enter Tryd.func75, Tryd.ntmps75
      go_wp2_with (first
        | (refine wpList_store_whole rfl 26 _ _ rfl (w.heap.size + 1) #[.int .u32 x, .int .u32 2, .int .u32 0, .int .u32 0, .slice none 0 0] rfl rfl _ _ hQ1 infoRp rfl (by simp [Value.oneCell']) ?_; intro w9 hC9 hg9 hs9)
        | (refine wpList_store_field rfl 23 _ _ rfl w.heap.size 1 (.int .u32 2) rfl rfl _ _ hR0 infoA1 (by simp) rfl #[.int .u32 x, .int .u32 2, .int .u32 0, .int .u32 0, .slice none 0 0] rfl ?_; intro w1 hR1 hg1 hs1; have hQ1 := grown_box hg1 hQ0 (by omega); have hW1 := told_end hW0 (Nat.le_refl _) hg1; obtain ⟨y0_1, y1_1, y2_1, y3_1, y4_1⟩ := five_at hR1; have a_1 := grown_cell hg1 a_0 (by omega)))
      obtain ⟨v0, v1, v2, v3, v4⟩ := five_at hC9
      refine bodyPost_ret (v := .tuple #[.agg #[.int .u32 x, .int .u32 2, .int .u32 0, .int .u32 0, .slice none 0 0], .bool true, .bool true]) (by simp [results, Tryd.results75, go_sem, v0, v1, v2, v3, v4]) rfl ?_
      exact ⟨rfl, told_end hW1 (by omega) hg9⟩
    · rw [if_pos q1]
      by_cases hp : z2 = 0
      · subst hp
        go_enter Tryd.func75, Tryd.ntmps75
        go_wp2_with (first
          | (refine wpList_store_whole rfl 26 _ _ rfl (w.heap.size + 1) #[.int .u32 x, .int .u32 0, .int .u32 0, .int .u32 0, .slice none 0 0] rfl rfl _ _ hQ1 infoRp rfl (by simp [Value.oneCell']) ?_; intro w9 hC9 hg9 hs9)
          | (refine wpList_store_field rfl 23 _ _ rfl w.heap.size 1 (.int .u32 0) rfl rfl _ _ hR0 infoA1 (by simp) rfl #[.int .u32 x, .int .u32 0, .int .u32 0, .int .u32 0, .slice none 0 0] rfl ?_; intro w1 hR1 hg1 hs1; have hQ1 := grown_box hg1 hQ0 (by omega); have hW1 := told_end hW0 (Nat.le_refl _) hg1; obtain ⟨y0_1, y1_1, y2_1, y3_1, y4_1⟩ := five_at hR1; have a_1 := grown_cell hg1 a_0 (by omega)))
        obtain ⟨v0, v1, v2, v3, v4⟩ := five_at hC9
        refine bodyPost_ret (v := .tuple #[.agg #[.int .u32 x, .int .u32 0, .int .u32 0, .int .u32 0, .slice none 0 0], .bool false, .bool true]) (by simp [results, Tryd.results75, go_sem, v0, v1, v2, v3, v4]) rfl ?_
        exact ⟨rfl, told_end hW1 (by omega) hg9⟩
      · skip
        go_enter Tryd.func75, Tryd.ntmps75
        go_wp2_with (first
          | (refine wpList_store_whole rfl 26 _ _ rfl (w.heap.size + 1) #[.int .u32 x, .int .u32 z2, .int .u32 0, .int .u32 0, .slice none 0 0] rfl rfl _ _ hQ1 infoRp rfl (by simp [Value.oneCell']) ?_; intro w9 hC9 hg9 hs9)
          | (refine wpList_store_field rfl 23 _ _ rfl w.heap.size 1 (.int .u32 z2) rfl rfl _ _ hR0 infoA1 (by simp) rfl #[.int .u32 x, .int .u32 z2, .int .u32 0, .int .u32 0, .slice none 0 0] rfl ?_; intro w1 hR1 hg1 hs1; have hQ1 := grown_box hg1 hQ0 (by omega); have hW1 := told_end hW0 (Nat.le_refl _) hg1; obtain ⟨y0_1, y1_1, y2_1, y3_1, y4_1⟩ := five_at hR1; have a_1 := grown_cell hg1 a_0 (by omega)))
        obtain ⟨v0, v1, v2, v3, v4⟩ := five_at hC9
        refine bodyPost_ret (v := .tuple #[.agg #[.int .u32 x, .int .u32 z2, .int .u32 0, .int .u32 0, .slice none 0 0], .bool false, .bool true]) (by simp [results, Tryd.results75, go_sem, v0, v1, v2, v3, v4]) rfl ?_
        exact ⟨rfl, told_end hW1 (by omega) hg9⟩
  · have a_0 := hc0 2 (by omega)
    have hz2 := hz 2 (by omega)
    have p_0 := hc0 3 (by omega)
    have hzp := hz 3 (by omega)
    unfold acT
    rw [if_neg (by omega)]
    simp only [Nat.reduceAdd] at a_0 p_0
    generalize z 2 = z2 at *
    generalize z 3 = z3 at *
    generalize z 4 = z4 at *
    clear hc0 hz
    by_cases q0 : 4 < z2
    · rw [if_pos q0]
      by_cases hp : z3 = 0
      · subst hp
        go_enter Tryd.func75, Tryd.ntmps75
        go_wp2_with (first
          | (refine wpList_store_whole rfl 26 _ _ rfl (w.heap.size + 1) #[.int .u32 x, .int .u32 z2, .int .u32 0, .int .u32 0, .slice none 0 0] rfl rfl _ _ hQ1 infoRp rfl (by simp [Value.oneCell']) ?_; intro w9 hC9 hg9 hs9)
          | (refine wpList_store_field rfl 23 _ _ rfl w.heap.size 1 (.int .u32 z2) rfl rfl _ _ hR0 infoA1 (by simp) rfl #[.int .u32 x, .int .u32 z2, .int .u32 0, .int .u32 0, .slice none 0 0] rfl ?_; intro w1 hR1 hg1 hs1; have hQ1 := grown_box hg1 hQ0 (by omega); have hW1 := told_end hW0 (Nat.le_refl _) hg1; obtain ⟨y0_1, y1_1, y2_1, y3_1, y4_1⟩ := five_at hR1; have a_1 := grown_cell hg1 a_0 (by omega)))
        obtain ⟨v0, v1, v2, v3, v4⟩ := five_at hC9
        refine bodyPost_ret (v := .tuple #[.agg #[.int .u32 x, .int .u32 z2, .int .u32 0, .int .u32 0, .slice none 0 0], .bool false, .bool false]) (by simp [results, Tryd.results75, go_sem, v0, v1, v2, v3, v4]) rfl ?_
        exact ⟨rfl, told_end hW1 (by omega) hg9⟩
      · skip
        go_enter Tryd.func75, Tryd.ntmps75
        go_wp2_with (first
          | (refine wpList_store_whole rfl 26 _ _ rfl (w.heap.size + 1) #[.int .u32 x, .int .u32 z2, .int .u32 0, .int .u32 0, .slice none 0 0] rfl rfl _ _ hQ1 infoRp rfl (by simp [Value.oneCell']) ?_; intro w9 hC9 hg9 hs9)
          | (refine wpList_store_field rfl 23 _ _ rfl w.heap.size 1 (.int .u32 z2) rfl rfl _ _ hR0 infoA1 (by simp) rfl #[.int .u32 x, .int .u32 z2, .int .u32 0, .int .u32 0, .slice none 0 0] rfl ?_; intro w1 hR1 hg1 hs1; have hQ1 := grown_box hg1 hQ0 (by omega); have hW1 := told_end hW0 (Nat.le_refl _) hg1; obtain ⟨y0_1, y1_1, y2_1, y3_1, y4_1⟩ := five_at hR1; have a_1 := grown_cell hg1 a_0 (by omega)))
        obtain ⟨v0, v1, v2, v3, v4⟩ := five_at hC9
        refine bodyPost_ret (v := .tuple #[.agg #[.int .u32 x, .int .u32 z2, .int .u32 0, .int .u32 0, .slice none 0 0], .bool false, .bool false]) (by simp [results, Tryd.results75, go_sem, v0, v1, v2, v3, v4]) rfl ?_
        exact ⟨rfl, told_end hW1 (by omega) hg9⟩
    rw [if_neg q0]
    by_cases q1 : z2 = 2
    · subst q1
      rw [if_neg (by simp), if_pos (by omega)]
      by_cases hp : z3 = 0
      · subst hp
        go_enter Tryd.func75, Tryd.ntmps75
        go_wp2_with (first
          | (refine wpList_store_whole rfl 26 _ _ rfl (w.heap.size + 1) #[.int .u32 x, .int .u32 2, .int .u32 0, .int .u32 0, .slice none 0 0] rfl rfl _ _ hQ1 infoRp rfl (by simp [Value.oneCell']) ?_; intro w9 hC9 hg9 hs9)
          | (refine wpList_store_field rfl 23 _ _ rfl w.heap.size 1 (.int .u32 2) rfl rfl _ _ hR0 infoA1 (by simp) rfl #[.int .u32 x, .int .u32 2, .int .u32 0, .int .u32 0, .slice none 0 0] rfl ?_; intro w1 hR1 hg1 hs1; have hQ1 := grown_box hg1 hQ0 (by omega); have hW1 := told_end hW0 (Nat.le_refl _) hg1; obtain ⟨y0_1, y1_1, y2_1, y3_1, y4_1⟩ := five_at hR1; have a_1 := grown_cell hg1 a_0 (by omega)))
        obtain ⟨v0, v1, v2, v3, v4⟩ := five_at hC9
        refine bodyPost_ret (v := .tuple #[.agg #[.int .u32 x, .int .u32 2, .int .u32 0, .int .u32 0, .slice none 0 0], .bool true, .bool true]) (by simp [results, Tryd.results75, go_sem, v0, v1, v2, v3, v4]) rfl ?_
        exact ⟨rfl, told_end hW1 (by omega) hg9⟩
      · skip
        go_enter Tryd.func75, Tryd.ntmps75
        go_wp2_with (first
          | (refine wpList_store_whole rfl 26 _ _ rfl (w.heap.size + 1) #[.int .u32 x, .int .u32 2, .int .u32 0, .int .u32 0, .slice none 0 0] rfl rfl _ _ hQ1 infoRp rfl (by simp [Value.oneCell']) ?_; intro w9 hC9 hg9 hs9)
          | (refine wpList_store_field rfl 23 _ _ rfl w.heap.size 1 (.int .u32 2) rfl rfl _ _ hR0 infoA1 (by simp) rfl #[.int .u32 x, .int .u32 2, .int .u32 0, .int .u32 0, .slice none 0 0] rfl ?_; intro w1 hR1 hg1 hs1; have hQ1 := grown_box hg1 hQ0 (by omega); have hW1 := told_end hW0 (Nat.le_refl _) hg1; obtain ⟨y0_1, y1_1, y2_1, y3_1, y4_1⟩ := five_at hR1; have a_1 := grown_cell hg1 a_0 (by omega)))
        obtain ⟨v0, v1, v2, v3, v4⟩ := five_at hC9
        refine bodyPost_ret (v := .tuple #[.agg #[.int .u32 x, .int .u32 2, .int .u32 0, .int .u32 0, .slice none 0 0], .bool true, .bool true]) (by simp [results, Tryd.results75, go_sem, v0, v1, v2, v3, v4]) rfl ?_
        exact ⟨rfl, told_end hW1 (by omega) hg9⟩
    · rw [if_pos q1]
      by_cases hp : z3 = 0
      · subst hp
        go_enter Tryd.func75, Tryd.ntmps75
        go_wp2_with (first
          | (refine wpList_store_whole rfl 26 _ _ rfl (w.heap.size + 1) #[.int .u32 x, .int .u32 z2, .int .u32 0, .int .u32 0, .slice none 0 0] rfl rfl _ _ hQ1 infoRp rfl (by simp [Value.oneCell']) ?_; intro w9 hC9 hg9 hs9)
          | (refine wpList_store_field rfl 23 _ _ rfl w.heap.size 1 (.int .u32 z2) rfl rfl _ _ hR0 infoA1 (by simp) rfl #[.int .u32 x, .int .u32 z2, .int .u32 0, .int .u32 0, .slice none 0 0] rfl ?_; intro w1 hR1 hg1 hs1; have hQ1 := grown_box hg1 hQ0 (by omega); have hW1 := told_end hW0 (Nat.le_refl _) hg1; obtain ⟨y0_1, y1_1, y2_1, y3_1, y4_1⟩ := five_at hR1; have a_1 := grown_cell hg1 a_0 (by omega)))
        obtain ⟨v0, v1, v2, v3, v4⟩ := five_at hC9
        refine bodyPost_ret (v := .tuple #[.agg #[.int .u32 x, .int .u32 z2, .int .u32 0, .int .u32 0, .slice none 0 0], .bool false, .bool true]) (by simp [results, Tryd.results75, go_sem, v0, v1, v2, v3, v4]) rfl ?_
        exact ⟨rfl, told_end hW1 (by omega) hg9⟩
      · skip
        go_enter Tryd.func75, Tryd.ntmps75
        go_wp2_with (first
          | (refine wpList_store_whole rfl 26 _ _ rfl (w.heap.size + 1) #[.int .u32 x, .int .u32 z2, .int .u32 0, .int .u32 0, .slice none 0 0] rfl rfl _ _ hQ1 infoRp rfl (by simp [Value.oneCell']) ?_; intro w9 hC9 hg9 hs9)
          | (refine wpList_store_field rfl 23 _ _ rfl w.heap.size 1 (.int .u32 z2) rfl rfl _ _ hR0 infoA1 (by simp) rfl #[.int .u32 x, .int .u32 z2, .int .u32 0, .int .u32 0, .slice none 0 0] rfl ?_; intro w1 hR1 hg1 hs1; have hQ1 := grown_box hg1 hQ0 (by omega); have hW1 := told_end hW0 (Nat.le_refl _) hg1; obtain ⟨y0_1, y1_1, y2_1, y3_1, y4_1⟩ := five_at hR1; have a_1 := grown_cell hg1 a_0 (by omega)))
        obtain ⟨v0, v1, v2, v3, v4⟩ := five_at hC9
        refine bodyPost_ret (v := .tuple #[.agg #[.int .u32 x, .int .u32 z2, .int .u32 0, .int .u32 0, .slice none 0 0], .bool false, .bool true]) (by simp [results, Tryd.results75, go_sem, v0, v1, v2, v3, v4]) rfl ?_
        exact ⟨rfl, told_end hW1 (by omega) hg9⟩
  · have a_0 := hc0 2 (by omega)
    have hz2 := hz 2 (by omega)
    have p_0 := hc0 4 (by omega)
    have hzp := hz 4 (by omega)
    have d_0 := hc0 3 (by omega)
    have hz3 := hz 3 (by omega)
    unfold acT
    rw [if_neg (by omega)]
    simp only [Nat.reduceAdd] at a_0 p_0 d_0
    generalize z 2 = z2 at *
    generalize z 3 = z3 at *
    generalize z 4 = z4 at *
    clear hc0 hz
    by_cases q0 : 4 < z2
    · rw [if_pos q0]
      by_cases hp : z4 = 0
      · subst hp
        go_enter Tryd.func75, Tryd.ntmps75
        go_wp2_with (first
          | (refine wpList_store_whole rfl 26 _ _ rfl (w.heap.size + 1) #[.int .u32 x, .int .u32 z2, .int .u32 0, .int .u32 0, .slice none 0 0] rfl rfl _ _ hQ1 infoRp rfl (by simp [Value.oneCell']) ?_; intro w9 hC9 hg9 hs9)
          | (refine wpList_store_field rfl 23 _ _ rfl w.heap.size 1 (.int .u32 z2) rfl rfl _ _ hR0 infoA1 (by simp) rfl #[.int .u32 x, .int .u32 z2, .int .u32 0, .int .u32 0, .slice none 0 0] rfl ?_; intro w1 hR1 hg1 hs1; have hQ1 := grown_box hg1 hQ0 (by omega); have hW1 := told_end hW0 (Nat.le_refl _) hg1; obtain ⟨y0_1, y1_1, y2_1, y3_1, y4_1⟩ := five_at hR1; have a_1 := grown_cell hg1 a_0 (by omega)))
        obtain ⟨v0, v1, v2, v3, v4⟩ := five_at hC9
        refine bodyPost_ret (v := .tuple #[.agg #[.int .u32 x, .int .u32 z2, .int .u32 0, .int .u32 0, .slice none 0 0], .bool false, .bool false]) (by simp [results, Tryd.results75, go_sem, v0, v1, v2, v3, v4]) rfl ?_
        exact ⟨rfl, told_end hW1 (by omega) hg9⟩
      · skip
        go_enter Tryd.func75, Tryd.ntmps75
        go_wp2_with (first
          | (refine wpList_store_whole rfl 26 _ _ rfl (w.heap.size + 1) #[.int .u32 x, .int .u32 z2, .int .u32 0, .int .u32 0, .slice none 0 0] rfl rfl _ _ hQ1 infoRp rfl (by simp [Value.oneCell']) ?_; intro w9 hC9 hg9 hs9)
          | (refine wpList_store_field rfl 23 _ _ rfl w.heap.size 1 (.int .u32 z2) rfl rfl _ _ hR0 infoA1 (by simp) rfl #[.int .u32 x, .int .u32 z2, .int .u32 0, .int .u32 0, .slice none 0 0] rfl ?_; intro w1 hR1 hg1 hs1; have hQ1 := grown_box hg1 hQ0 (by omega); have hW1 := told_end hW0 (Nat.le_refl _) hg1; obtain ⟨y0_1, y1_1, y2_1, y3_1, y4_1⟩ := five_at hR1; have a_1 := grown_cell hg1 a_0 (by omega)))
        obtain ⟨v0, v1, v2, v3, v4⟩ := five_at hC9
        refine bodyPost_ret (v := .tuple #[.agg #[.int .u32 x, .int .u32 z2, .int .u32 0, .int .u32 0, .slice none 0 0], .bool false, .bool false]) (by simp [results, Tryd.results75, go_sem, v0, v1, v2, v3, v4]) rfl ?_
        exact ⟨rfl, told_end hW1 (by omega) hg9⟩
    rw [if_neg q0]
    by_cases q1 : z2 = 2
    · subst q1
      rw [if_neg (by simp), if_neg (by omega)]
      by_cases hp : z4 = 0
      · subst hp
        go_enter Tryd.func75, Tryd.ntmps75
        go_wp2_with (first
          | (refine wpList_store_whole rfl 26 _ _ rfl (w.heap.size + 1) #[.int .u32 x, .int .u32 2, .int .u32 z3, .int .u32 0, .slice none 0 0] rfl rfl _ _ hQ3 infoRp rfl (by simp [Value.oneCell']) ?_; intro w9 hC9 hg9 hs9)
          | (refine wpList_store_field rfl 22 _ _ rfl w.heap.size 3 (.int .u32 0) rfl rfl _ _ hR2 infoU1 (by simp) rfl #[.int .u32 x, .int .u32 2, .int .u32 z3, .int .u32 0, .slice none 0 0] rfl ?_; intro w3 hR3 hg3 hs3; have hQ3 := grown_box hg3 hQ2 (by omega); have hW3 := told_end hW2 (Nat.le_refl _) hg3; obtain ⟨y0_3, y1_3, y2_3, y3_3, y4_3⟩ := five_at hR3)
          | (refine wpList_store_field rfl 22 _ _ rfl w.heap.size 2 (.int .u32 z3) rfl rfl _ _ hR1 infoU1 (by simp) rfl #[.int .u32 x, .int .u32 2, .int .u32 z3, .int .u32 0, .slice none 0 0] rfl ?_; intro w2 hR2 hg2 hs2; have hQ2 := grown_box hg2 hQ1 (by omega); have hW2 := told_end hW1 (Nat.le_refl _) hg2; obtain ⟨y0_2, y1_2, y2_2, y3_2, y4_2⟩ := five_at hR2; have p_2 := grown_cell hg2 p_1 (by omega))
          | (refine wpList_store_field rfl 23 _ _ rfl w.heap.size 1 (.int .u32 2) rfl rfl _ _ hR0 infoA1 (by simp) rfl #[.int .u32 x, .int .u32 2, .int .u32 0, .int .u32 0, .slice none 0 0] rfl ?_; intro w1 hR1 hg1 hs1; have hQ1 := grown_box hg1 hQ0 (by omega); have hW1 := told_end hW0 (Nat.le_refl _) hg1; obtain ⟨y0_1, y1_1, y2_1, y3_1, y4_1⟩ := five_at hR1; have a_1 := grown_cell hg1 a_0 (by omega); have d_1 := grown_cell hg1 d_0 (by omega); have p_1 := grown_cell hg1 p_0 (by omega)))
        obtain ⟨v0, v1, v2, v3, v4⟩ := five_at hC9
        refine bodyPost_ret (v := .tuple #[.agg #[.int .u32 x, .int .u32 2, .int .u32 z3, .int .u32 0, .slice none 0 0], .bool false, .bool true]) (by simp [results, Tryd.results75, go_sem, v0, v1, v2, v3, v4]) rfl ?_
        exact ⟨rfl, told_end hW3 (by omega) hg9⟩
      · skip
        go_enter Tryd.func75, Tryd.ntmps75
        go_wp2_with (first
          | (refine wpList_store_whole rfl 26 _ _ rfl (w.heap.size + 1) #[.int .u32 x, .int .u32 2, .int .u32 z3, .int .u32 z4, .slice none 0 0] rfl rfl _ _ hQ3 infoRp rfl (by simp [Value.oneCell']) ?_; intro w9 hC9 hg9 hs9)
          | (refine wpList_store_field rfl 22 _ _ rfl w.heap.size 3 (.int .u32 z4) rfl rfl _ _ hR2 infoU1 (by simp) rfl #[.int .u32 x, .int .u32 2, .int .u32 z3, .int .u32 z4, .slice none 0 0] rfl ?_; intro w3 hR3 hg3 hs3; have hQ3 := grown_box hg3 hQ2 (by omega); have hW3 := told_end hW2 (Nat.le_refl _) hg3; obtain ⟨y0_3, y1_3, y2_3, y3_3, y4_3⟩ := five_at hR3)
          | (refine wpList_store_field rfl 22 _ _ rfl w.heap.size 2 (.int .u32 z3) rfl rfl _ _ hR1 infoU1 (by simp) rfl #[.int .u32 x, .int .u32 2, .int .u32 z3, .int .u32 0, .slice none 0 0] rfl ?_; intro w2 hR2 hg2 hs2; have hQ2 := grown_box hg2 hQ1 (by omega); have hW2 := told_end hW1 (Nat.le_refl _) hg2; obtain ⟨y0_2, y1_2, y2_2, y3_2, y4_2⟩ := five_at hR2; have p_2 := grown_cell hg2 p_1 (by omega))
          | (refine wpList_store_field rfl 23 _ _ rfl w.heap.size 1 (.int .u32 2) rfl rfl _ _ hR0 infoA1 (by simp) rfl #[.int .u32 x, .int .u32 2, .int .u32 0, .int .u32 0, .slice none 0 0] rfl ?_; intro w1 hR1 hg1 hs1; have hQ1 := grown_box hg1 hQ0 (by omega); have hW1 := told_end hW0 (Nat.le_refl _) hg1; obtain ⟨y0_1, y1_1, y2_1, y3_1, y4_1⟩ := five_at hR1; have a_1 := grown_cell hg1 a_0 (by omega); have d_1 := grown_cell hg1 d_0 (by omega); have p_1 := grown_cell hg1 p_0 (by omega)))
        obtain ⟨v0, v1, v2, v3, v4⟩ := five_at hC9
        refine bodyPost_ret (v := .tuple #[.agg #[.int .u32 x, .int .u32 2, .int .u32 z3, .int .u32 z4, .slice none 0 0], .bool false, .bool true]) (by simp [results, Tryd.results75, go_sem, v0, v1, v2, v3, v4]) rfl ?_
        exact ⟨rfl, told_end hW3 (by omega) hg9⟩
    · rw [if_pos q1]
      by_cases hp : z4 = 0
      · subst hp
        go_enter Tryd.func75, Tryd.ntmps75
        go_wp2_with (first
          | (refine wpList_store_whole rfl 26 _ _ rfl (w.heap.size + 1) #[.int .u32 x, .int .u32 z2, .int .u32 0, .int .u32 0, .slice none 0 0] rfl rfl _ _ hQ1 infoRp rfl (by simp [Value.oneCell']) ?_; intro w9 hC9 hg9 hs9)
          | (refine wpList_store_field rfl 23 _ _ rfl w.heap.size 1 (.int .u32 z2) rfl rfl _ _ hR0 infoA1 (by simp) rfl #[.int .u32 x, .int .u32 z2, .int .u32 0, .int .u32 0, .slice none 0 0] rfl ?_; intro w1 hR1 hg1 hs1; have hQ1 := grown_box hg1 hQ0 (by omega); have hW1 := told_end hW0 (Nat.le_refl _) hg1; obtain ⟨y0_1, y1_1, y2_1, y3_1, y4_1⟩ := five_at hR1; have a_1 := grown_cell hg1 a_0 (by omega)))
        obtain ⟨v0, v1, v2, v3, v4⟩ := five_at hC9
        refine bodyPost_ret (v := .tuple #[.agg #[.int .u32 x, .int .u32 z2, .int .u32 0, .int .u32 0, .slice none 0 0], .bool false, .bool true]) (by simp [results, Tryd.results75, go_sem, v0, v1, v2, v3, v4]) rfl ?_
        exact ⟨rfl, told_end hW1 (by omega) hg9⟩
      · skip
        go_enter Tryd.func75, Tryd.ntmps75
        go_wp2_with (first
          | (refine wpList_store_whole rfl 26 _ _ rfl (w.heap.size + 1) #[.int .u32 x, .int .u32 z2, .int .u32 0, .int .u32 0, .slice none 0 0] rfl rfl _ _ hQ1 infoRp rfl (by simp [Value.oneCell']) ?_; intro w9 hC9 hg9 hs9)
          | (refine wpList_store_field rfl 23 _ _ rfl w.heap.size 1 (.int .u32 z2) rfl rfl _ _ hR0 infoA1 (by simp) rfl #[.int .u32 x, .int .u32 z2, .int .u32 0, .int .u32 0, .slice none 0 0] rfl ?_; intro w1 hR1 hg1 hs1; have hQ1 := grown_box hg1 hQ0 (by omega); have hW1 := told_end hW0 (Nat.le_refl _) hg1; obtain ⟨y0_1, y1_1, y2_1, y3_1, y4_1⟩ := five_at hR1; have a_1 := grown_cell hg1 a_0 (by omega)))
        obtain ⟨v0, v1, v2, v3, v4⟩ := five_at hC9
        refine bodyPost_ret (v := .tuple #[.agg #[.int .u32 x, .int .u32 z2, .int .u32 0, .int .u32 0, .slice none 0 0], .bool false, .bool true]) (by simp [results, Tryd.results75, go_sem, v0, v1, v2, v3, v4]) rfl ?_
        exact ⟨rfl, told_end hW1 (by omega) hg9⟩
end Go.Proofs.YtmjhgpmeikpbkaaDoor
