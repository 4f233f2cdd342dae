/- The document's 'told'. -/
import Derived.Test.YtmjhgpmeikpbkaaDoorRefTd
import Derived.Deep.RegionWith
namespace Go.Proofs.YtmjhgpmeikpbkaaDoor
set_option linter.unusedVariables false
open Go.RowKit

theorem cut4_from (N n cap : Nat) (hn : 3 ≤ n) (hnc : n ≤ cap) (hc3 : 3 < cap) :
    ∀ W, (Instr.slice 62 (.slice (some ⟨N, 0, none⟩) n cap) (some (.int .i64 3)) none none).run Tryd.prog W = .ok (.slice (some ⟨N, 3, none⟩) (n - 3) (cap - 3)) W := by
  have he : Tryd.prog.elem 62 = 22 := by kernel_rfl
  have hu : Tryd.prog.underlying 62 = some (.slice (Tryd.prog.elem 62)) := by rw [he]; exact Tryd.underlying62
  intro W
  rw [run_slice_l W 62 (some ⟨N, 0, none⟩) n cap hu .i64 3 (by omega) (by omega)]
  have h3 : ¬ cap = 3 := by omega
  simp [go_sem, h3, Addr.add]

set_option maxRecDepth 100000 in
set_option maxHeartbeats 2000000 in
theorem told_any (N n cap : Nat) (z : Nat → Int) (w : World) (hN : N < w.heap.size) (hn1 : 1 ≤ n) (hn8 : n ≤ 8) (hnc : n ≤ cap) (hcm : cap ≤ 9223372036854775807) (hz : ∀ i, i < n → 0 ≤ z i ∧ z i ≤ 4294967295) (hc : ∀ i, i < n → w.cell? ⟨N, i, none⟩ = some (.int .u32 (z i))) :
    Calls Tryd.prog 53 #[.slice (some ⟨N, 0, none⟩) n cap] w fun e W' => ToldP w (z 0) (tdT n z) e W' := by
  obtain ⟨hQ0, hR0, hW0, hsz⟩ := two_boxes w (.cells #[.int .u32 0, .int .u32 0, .int .u32 0, .int .u32 0, .slice none 0 0] 26) (.cells #[.int .u32 (z 0), .int .u32 0, .int .u32 0, .int .u32 0, .slice none 0 0] 26)
  have hc0 := fun i h => (hW0.cell (p := ⟨N, i, none⟩) hN).trans (hc i h)
  have a0 := hc0 0 hn1
  have p0 := (((Below.refl w.heap.size w).alloc (Nat.le_refl _) (.cells #[.int .u32 0, .int .u32 0, .int .u32 0, .int .u32 0, .slice none 0 0] 26)).cell (p := ⟨N, 0, none⟩) hN).trans (hc 0 hn1)
  have hi0 : (0 : Int) < n := by omega
  unfold tdT
  generalize z 0 = x at *
  by_cases q1 : n = 1
  · subst q1
    rw [if_pos rfl]
    clear hc0 hc hz
    go_enter Tryd.func53, Tryd.ntmps53
    go_wp2_with (refine wpList_store_whole rfl 26 _ _ rfl w.heap.size #[.int .u32 x, .int .u32 0, .int .u32 0, .int .u32 0, .slice none 0 0] rfl rfl _ _ hQ0 infoRp rfl (by simp [Value.oneCell']) ?_; intro w9 hC9 hg9 hs9)
    obtain ⟨v0, v1, v2, v3, v4⟩ := five_at hC9
    refine bodyPost_ret (v := .tuple #[.agg #[.int .u32 x, .int .u32 0, .int .u32 0, .int .u32 0, .slice none 0 0], .bool true, .bool true]) (by simp [results, Tryd.results53, go_sem, v0, v1, v2, v3, v4]) rfl ?_
    exact ⟨rfl, told_end hW0 (Nat.le_refl _) hg9⟩
  rw [if_neg q1]
  have q1i : ¬ (n : Int) = 1 := by omega
  have hi1 : (1 : Int) < n := by omega
  have a1 := hc0 1 (by omega)
  have hz1 := hz 1 (by omega)
  generalize z 1 = z1 at *
  by_cases q2 : z1 = 1
  case neg =>
    rw [if_pos q2]
    clear hc0 hc hz
    go_enter Tryd.func53, Tryd.ntmps53
    go_wp2_with (refine wpList_store_whole rfl 26 _ _ rfl w.heap.size #[.int .u32 x, .int .u32 0, .int .u32 0, .int .u32 0, .slice none 0 0] rfl rfl _ _ hQ0 infoRp rfl (by simp [Value.oneCell']) ?_; intro w9 hC9 hg9 hs9)
    obtain ⟨v0, v1, v2, v3, v4⟩ := five_at hC9
    refine bodyPost_ret (v := .tuple #[.agg #[.int .u32 x, .int .u32 0, .int .u32 0, .int .u32 0, .slice none 0 0], .bool false, .bool false]) (by simp [results, Tryd.results53, go_sem, v0, v1, v2, v3, v4]) rfl ?_
    exact ⟨rfl, told_end hW0 (Nat.le_refl _) hg9⟩
  subst q2
  rw [if_neg (by simp)]
  by_cases q3 : n = 2
  · subst q3
    rw [if_pos rfl]
    clear hc0 hc hz
    go_enter Tryd.func53, Tryd.ntmps53
    go_wp2_with (refine wpList_store_whole rfl 26 _ _ rfl w.heap.size #[.int .u32 x, .int .u32 0, .int .u32 0, .int .u32 0, .slice none 0 0] rfl rfl _ _ hQ0 infoRp rfl (by simp [Value.oneCell']) ?_; intro w9 hC9 hg9 hs9)
    obtain ⟨v0, v1, v2, v3, v4⟩ := five_at hC9
    refine bodyPost_ret (v := .tuple #[.agg #[.int .u32 x, .int .u32 0, .int .u32 0, .int .u32 0, .slice none 0 0], .bool true, .bool true]) (by simp [results, Tryd.results53, go_sem, v0, v1, v2, v3, v4]) rfl ?_
    exact ⟨rfl, told_end hW0 (Nat.le_refl _) hg9⟩
  rw [if_neg q3]
  have q3i : ¬ (n : Int) = 2 := by omega
  have hi2 : (2 : Int) < n := by omega
  have a2 := hc0 2 (by omega)
  have hz2 := hz 2 (by omega)
  generalize z 2 = z2 at *
  by_cases q4 : 1 < z2
  · rw [if_pos q4]
    clear hc0 hc hz
    go_enter Tryd.func53, Tryd.ntmps53
    go_wp2_with (refine wpList_store_whole rfl 26 _ _ rfl w.heap.size #[.int .u32 x, .int .u32 0, .int .u32 0, .int .u32 0, .slice none 0 0] rfl rfl _ _ hQ0 infoRp rfl (by simp [Value.oneCell']) ?_; intro w9 hC9 hg9 hs9)
    obtain ⟨v0, v1, v2, v3, v4⟩ := five_at hC9
    refine bodyPost_ret (v := .tuple #[.agg #[.int .u32 x, .int .u32 0, .int .u32 0, .int .u32 0, .slice none 0 0], .bool false, .bool false]) (by simp [results, Tryd.results53, go_sem, v0, v1, v2, v3, v4]) rfl ?_
    exact ⟨rfl, told_end hW0 (Nat.le_refl _) hg9⟩
  rw [if_neg q4]
  by_cases q5 : n = 3
  · subst q5
    rw [if_pos rfl]
    clear hc0 hc hz
    go_enter Tryd.func53, Tryd.ntmps53
    go_wp2_with (refine wpList_store_whole rfl 26 _ _ rfl w.heap.size #[.int .u32 x, .int .u32 0, .int .u32 0, .int .u32 0, .slice none 0 0] rfl rfl _ _ hQ0 infoRp rfl (by simp [Value.oneCell']) ?_; intro w9 hC9 hg9 hs9)
    obtain ⟨v0, v1, v2, v3, v4⟩ := five_at hC9
    refine bodyPost_ret (v := .tuple #[.agg #[.int .u32 x, .int .u32 0, .int .u32 0, .int .u32 0, .slice none 0 0], .bool true, .bool true]) (by simp [results, Tryd.results53, go_sem, v0, v1, v2, v3, v4]) rfl ?_
    exact ⟨rfl, told_end hW0 (Nat.le_refl _) hg9⟩
  rw [if_neg q5]
  have q5i : ¬ (n : Int) = 3 := by omega
  by_cases q6 : z2 = 1
  · subst q6
    rw [if_pos rfl]
    obtain ⟨t, ht⟩ : ∃ t, t = dnT (n - 3) (fun i => z (3 + i)) := ⟨_, rfl⟩
    have hcall := fun (V : World) hV hcV => denied_any x N (n - 3) (cap - 3) (fun i => z (3 + i)) V hV (by omega) (by omega) (by omega) (fun i hi => hz (3 + i) (by omega)) hcV
    rw [← ht] at hcall ⊢
    clear ht
    have hsl := cut4_from N n cap (by omega) hnc (by omega)
    go_enter Tryd.func53, Tryd.ntmps53
    go_wp2_with fail
    clear p0 a0
    generalize (w.alloc (.cells #[.int .u32 0, .int .u32 0, .int .u32 0, .int .u32 0, .slice none 0 0] 26)).alloc (.cells #[.int .u32 x, .int .u32 0, .int .u32 0, .int .u32 0, .slice none 0 0] 26) = W at *
    obtain ⟨b, hbb⟩ : ∃ b, b = w.heap.size := ⟨_, rfl⟩
    rw [← hbb] at hQ0 hR0 hsz hW0 hN ⊢
    have HH : Hid (b = w.heap.size) := hbb
    clear hbb
    have hbW : Below W.heap.size W W.drew := ⟨rfl, rfl, rfl, Nat.le_refl _, fun _ _ => rfl⟩
    have hQd := (hbW.block b (by omega)).trans hQ0
    have hRd := (hbW.block (b + 1) (by omega)).trans hR0
    have S1 := five_at hRd
    have hcW : ∀ i, i < n - 3 → W.drew.cell? ⟨N, 3 + i, none⟩ = some (.int .u32 (z (3 + i))) := fun i hi => (hbW.cell (p := ⟨N, 3 + i, none⟩) (by show N < _; omega)).trans (hc0 (3 + i) (by omega))
    have hNW : N < W.drew.heap.size := by have := hbW.size; omega
    replace hcall := hcall W.drew hNW hcW
    clear hcW hc0 hc hz
    go_region_held3 (fun w' => w'.cell? ⟨b + 1, 0, none⟩ = some (.int .u32 x) ∧ w'.cell? ⟨b + 1, 1, none⟩ = some (.int .u32 0) ∧ w'.cell? ⟨b + 1, 2, none⟩ = some (.int .u32 0) ∧ w'.cell? ⟨b + 1, 3, none⟩ = some (.int .u32 0) ∧ w'.cell? ⟨b + 1, 4, none⟩ = some (.slice none 0 0)) (first | with_reducible exact S1 | with_reducible exact S2 | with_reducible exact S3) (first
      | (go_at_call 74; refine hcall.mono ?_; rintro e w2 ⟨rfl, hb5⟩; have k1b := (hb5.block b (by show b < _; have := hbW.size; omega)).trans hQd; have k2b := (hb5.block (b + 1) (by show b + 1 < _; have := hbW.size; omega)).trans hRd; have S2 := five_at k2b; have fz : ∀ i, w2.frozen? ⟨b, i, none⟩ = false := (fun i => by simp [World.frozen?, k1b]); have z3 := five_at k1b
         obtain ⟨kR, hgR⟩ := five_store k1b (.int .u32 x) (.int .u32 t.h) (.int .u32 t.l) (.int .u32 t.g) (.slice none 0 0)
         have S3 := five_at ((hgR.block (b + 1) (Array.getElem?_eq_some_iff.1 k2b).1 (fun e => by injection e with e; omega)).trans k2b)))
    all_goals
      have hBw : Below b w w2 := (hW0.trans (hbW.mono (by omega))).trans (hb5.mono (by have := hbW.size; omega))
      have hfin := hBw.grown hgR (by have := hBw.size; rw [HH.out]; omega) (fun k e => by cases e; omega)
      clear S1 S2 S3 z3 fz k1b k2b hQd hRd hb5 hbW hBw hgR hcall
      generalize ((((w2.setCell ⟨b, 0, none⟩ (.int .u32 x)).setCell ⟨b, 1, none⟩ (.int .u32 t.h)).setCell ⟨b, 2, none⟩ (.int .u32 t.l)).setCell ⟨b, 3, none⟩ (.int .u32 t.g)).setCell ⟨b, 4, none⟩ (.slice none 0 0) = Wf at *
      obtain ⟨v0, v1, v2, v3, v4⟩ := five_at kR
      go_wp2
      refine bodyPost_ret (v := .tuple #[.agg #[.int .u32 x, .int .u32 t.h, .int .u32 t.l, .int .u32 t.g, .slice none 0 0], .bool t.more, .bool t.ok]) (by simp [results, Tryd.results53, go_sem, v0, v1, v2, v3, v4]) rfl ⟨rfl, ?_⟩
      rw [← HH.out]; exact hfin
  · have q7 : z2 = 0 := by omega
    subst q7
    rw [if_neg (by decide)]
    obtain ⟨t, ht⟩ : ∃ t, t = acT (n - 3) (fun i => z (3 + i)) := ⟨_, rfl⟩
    have hcall := fun (V : World) hV hcV => accepted_any x N (n - 3) (cap - 3) (fun i => z (3 + i)) V hV (by omega) (by omega) (by omega) (by omega) (fun i hi => hz (3 + i) (by omega)) hcV
    rw [← ht] at hcall ⊢
    clear ht
    have hsl := cut4_from N n cap (by omega) hnc (by omega)
    go_enter Tryd.func53, Tryd.ntmps53
    go_wp2_with fail
    clear p0 a0
    generalize (w.alloc (.cells #[.int .u32 0, .int .u32 0, .int .u32 0, .int .u32 0, .slice none 0 0] 26)).alloc (.cells #[.int .u32 x, .int .u32 0, .int .u32 0, .int .u32 0, .slice none 0 0] 26) = W at *
    obtain ⟨b, hbb⟩ : ∃ b, b = w.heap.size := ⟨_, rfl⟩
    rw [← hbb] at hQ0 hR0 hsz hW0 hN ⊢
    have HH : Hid (b = w.heap.size) := hbb
    clear hbb
    have hbW : Below W.heap.size W W.drew := ⟨rfl, rfl, rfl, Nat.le_refl _, fun _ _ => rfl⟩
    have hQd := (hbW.block b (by omega)).trans hQ0
    have hRd := (hbW.block (b + 1) (by omega)).trans hR0
    have S1 := five_at hRd
    have hcW : ∀ i, i < n - 3 → W.drew.cell? ⟨N, 3 + i, none⟩ = some (.int .u32 (z (3 + i))) := fun i hi => (hbW.cell (p := ⟨N, 3 + i, none⟩) (by show N < _; omega)).trans (hc0 (3 + i) (by omega))
    have hNW : N < W.drew.heap.size := by have := hbW.size; omega
    replace hcall := hcall W.drew hNW hcW
    clear hcW hc0 hc hz
    go_region_held3 (fun w' => w'.cell? ⟨b + 1, 0, none⟩ = some (.int .u32 x) ∧ w'.cell? ⟨b + 1, 1, none⟩ = some (.int .u32 0) ∧ w'.cell? ⟨b + 1, 2, none⟩ = some (.int .u32 0) ∧ w'.cell? ⟨b + 1, 3, none⟩ = some (.int .u32 0) ∧ w'.cell? ⟨b + 1, 4, none⟩ = some (.slice none 0 0)) (first | with_reducible exact S1 | with_reducible exact S2 | with_reducible exact S3) (first
      | (go_at_call 75; refine hcall.mono ?_; rintro e w2 ⟨rfl, hb5⟩; have k1b := (hb5.block b (by show b < _; have := hbW.size; omega)).trans hQd; have k2b := (hb5.block (b + 1) (by show b + 1 < _; have := hbW.size; omega)).trans hRd; have S2 := five_at k2b; have fz : ∀ i, w2.frozen? ⟨b, i, none⟩ = false := (fun i => by simp [World.frozen?, k1b]); have z3 := five_at k1b
         obtain ⟨kR, hgR⟩ := five_store k1b (.int .u32 x) (.int .u32 t.h) (.int .u32 t.l) (.int .u32 t.g) (.slice none 0 0)
         have S3 := five_at ((hgR.block (b + 1) (Array.getElem?_eq_some_iff.1 k2b).1 (fun e => by injection e with e; omega)).trans k2b)))
    all_goals
      have hBw : Below b w w2 := (hW0.trans (hbW.mono (by omega))).trans (hb5.mono (by have := hbW.size; omega))
      have hfin := hBw.grown hgR (by have := hBw.size; rw [HH.out]; omega) (fun k e => by cases e; omega)
      clear S1 S2 S3 z3 fz k1b k2b hQd hRd hb5 hbW hBw hgR hcall
      generalize ((((w2.setCell ⟨b, 0, none⟩ (.int .u32 x)).setCell ⟨b, 1, none⟩ (.int .u32 t.h)).setCell ⟨b, 2, none⟩ (.int .u32 t.l)).setCell ⟨b, 3, none⟩ (.int .u32 t.g)).setCell ⟨b, 4, none⟩ (.slice none 0 0) = Wf at *
      obtain ⟨v0, v1, v2, v3, v4⟩ := five_at kR
      go_wp2
      refine bodyPost_ret (v := .tuple #[.agg #[.int .u32 x, .int .u32 t.h, .int .u32 t.l, .int .u32 t.g, .slice none 0 0], .bool t.more, .bool t.ok]) (by simp [results, Tryd.results53, go_sem, v0, v1, v2, v3, v4]) rfl ⟨rfl, ?_⟩
      rw [← HH.out]; exact hfin
end Go.Proofs.YtmjhgpmeikpbkaaDoor
