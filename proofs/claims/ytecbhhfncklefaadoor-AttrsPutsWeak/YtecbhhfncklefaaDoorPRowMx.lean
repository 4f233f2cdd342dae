/- 'row' of the program: parts one behind another are a part; nothing that was there turns. -/
import Derived.Test.YtecbhhfncklefaaDoorAppendEachPPartMx
namespace Go.Proofs.YtecbhhfncklefaaDoor
set_option linter.unusedVariables false
open Go.RowKit

theorem infoRows : (Tryd.prog.info? 29).map (fun i => (i.zero, i.size, i.bytes)) = some (some (.slice none 0 0), 1, 24) := by kernel_rfl

theorem one_news {w : World} {p : Addr} {v : Value} (h : w.cell? p = some v) : ∀ j u, [v][j]? = some u → w.cell? (p.add j) = some u := by
  intro j u hj
  match j with
  | 0 => cases hj; simpa [Addr.add] using h
  | j + 1 => simp at hj

set_option maxRecDepth 100000 in
set_option maxHeartbeats 2000000 in
theorem row1_any (xs : List Tl) (b n cap h : Nat) (w : World) (hn : xs.length = n) (hn0 : 0 < n) (hnm : n ≤ 1000) (hm : (allZ xs).length ≤ 1000000)
    (hcell : w.cell? ⟨h, 0, none⟩ = some (.slice (some ⟨b, 0, none⟩) n cap)) (hc : ∀ i, (hi : i < xs.length) → w.cell? ⟨b, i, none⟩ = some xs[i].v) (ht : ∀ x ∈ xs, x.At w) :
    Calls Tryd.prog 76 #[.pointer (some ⟨h, 0, none⟩)] w (Told1 (allM xs) (allZ xs) w) := by
  obtain ⟨i0, hi, hz0, hz1, hz2⟩ := info_parts infoRows
  go_enter Tryd.func76, Tryd.ntmps76
  go_wp2
  go_loopw [2, 7] (fun v i wr => ∃ (k : Nat) (ps : List Part), k ≤ n ∧ i = .int .i64 k ∧ ps.length = k ∧ allM (xs.take k) = true ∧ allOf ps = allZ (xs.take k) ∧ wr.ownsRow w.heap.size 29 1 v k (ps.map Part.v) ∧ (∀ p ∈ ps, p.Mine wr w.heap.size) ∧ Below w.heap.size w wr) (fun _ i _ => n - (intOf i).toNat)
  case atStart => exact ⟨0, [], by omega, rfl, rfl, rfl, rfl, own_empty _ _ _, by simp, Below.refl _ _⟩
  case round =>
    obtain ⟨k, ps, hk, rfl, hpk, hall, hof, hown, hmine, hB⟩ := hrel
    by_cases hlt : k < n
    · have hcx := hc k (by omega)
      have hlb : b < w.heap.size := World.block_lt_of_cell? _ _ hcx
      replace hcx : wr.cell? ⟨b, k, none⟩ = _ := (hB.cell (p := ⟨b, k, none⟩) hlb).trans hcx
      obtain ⟨K, caps, hv, hen, hcall⟩ := ht xs[k] (List.getElem_mem _)
      rw [hv] at hcx
      have hcall1 := hcall wr hB
      go_wp2_with fail
      refine hcall1.mono ?_
      rintro e w1 ⟨hb1, ⟨hm1, v1, rfl, ho1⟩ | ⟨hm1, rfl⟩⟩
      · obtain ⟨a1, c1, rfl, hs1, hn1, hn2, hn3⟩ := own_val ho1 rfl
        have hB1 := hB.trans (hb1.mono hB.size)
        have hbl : Below w1.heap.size w1 (w1.alloc (.cells #[.slice a1 xs[k].zs.length c1] 29)) := (Below.refl _ _).alloc (Nat.le_refl _) _
        have hB2 := hB1.trans (hbl.mono hB1.size)
        have hown2 := own_below (own_below hown hb1) hbl
        have hmine2 : ∀ p ∈ ps, p.Mine (w1.alloc (.cells #[.slice a1 xs[k].zs.length c1] 29)) w.heap.size := fun p hp => ((hmine p hp).below hb1).below hbl
        have hnew2 : Part.Mine ⟨a1, xs[k].zs.length, c1, xs[k].zs⟩ (w1.alloc (.cells #[.slice a1 xs[k].zs.length c1] 29)) w.heap.size := ⟨rfl, own_base (own_below ho1 hbl) hB.size⟩
        have hl2 : (w1.alloc (.cells #[.slice a1 xs[k].zs.length c1] 29)).cell? ⟨w1.heap.size, 0, none⟩ = some (.slice a1 xs[k].zs.length c1) := by simp
        have hz2' := allZ_take (xs := xs) (k := k) (by omega)
        have hall2 := allM_take (xs := xs) (k := k) (by omega)
        rw [hall, hm1] at hall2
        go_wp2_with (at_builtin; go_loud (refine wpList_append_each _ rfl _ _ 88 rfl w.heap.size 29 i0 (.slice none 0 0) 1 24 Tryd.underlying88 hi hz0 hz1 hz2 rfl (by decide) u2 k _ rfl hown2 (some ⟨w1.heap.size, 0, none⟩) 1 1 [.slice a1 xs[k].zs.length c1] rfl (by simp) (by simp) (fun b e => by cases e; exact one_news hl2) (by simp [Value.oneCell']) (by unfold maxLen; omega) (by omega) hB2.size ?_); intro v3 w3 hown3 hgrow3)
        have hB3 : Below w.heap.size w w3 := hB2.grown hgrow3 hB2.size (fun k e => own_low hown2 e)
        have hmine3 : ∀ p ∈ ps ++ [⟨a1, xs[k].zs.length, c1, xs[k].zs⟩], p.Mine w3 w.heap.size := fun p hp => by
          rcases List.mem_append.1 hp with hp | hp
          · exact (hmine2 p hp).other hown2 hgrow3
          · obtain rfl := List.mem_singleton.1 hp
            exact hnew2.other hown2 hgrow3
        go_round
        case rel => exact ⟨k + 1, ps ++ [⟨a1, xs[k].zs.length, c1, xs[k].zs⟩], by omega, by go_num, by simp [hpk], hall2, by rw [hz2', ← hof]; simp [allOf], by simpa [Part.v] using hown3, hmine3, hB3⟩
        case measure => simp [intOf]; omega
      · go_wp2
        exact ⟨rfl, hB.trans (hb1.mono hB.size), .inr ⟨allM_low (by omega) hm1, rfl⟩⟩
    · obtain rfl : k = n := by omega
      rw [List.take_of_length_le (by omega)] at hall hof
      obtain ⟨g, c, rfl, hgc, hcells⟩ := own_cells hown hpk hn0
      have hin : ∀ p ∈ ps, p.In wr := fun p hp => (hmine p hp).isIn
      clear hcell hc ht hmine hown
      go_wp2_with (go_at_call 63; refine (concat_cap ps g k c wr hpk (by omega) hcells hin (by rw [hof]; omega)).mono ?_; rintro e w2 ⟨v2, rfl, hown2, hb2⟩)
      go_ret
      rw [hof] at hown2
      rw [hall]
      exact ⟨hB.trans (hb2.mono hB.size), .inl ⟨rfl, v2, rfl, own_base hown2 hB.size⟩⟩

/-- The closure's number is a function's of the program's own. -/
theorem enter_row : ∀ (args : Array Value) (w : World), (callFunc 76 args).run Tryd.prog w = .ok (.enter 76 args) w := fun _ _ => by simp [go_sem]

set_option maxRecDepth 100000 in
set_option maxHeartbeats 1000000 in
theorem row_any (xs : List Tl) (b n cap : Nat) (w : World) (hn : xs.length = n) (hn0 : 0 < n) (hnm : n ≤ 1000) (hm : (allZ xs).length ≤ 1000000)
    (hc : ∀ i, (hi : i < xs.length) → w.cell? ⟨b, i, none⟩ = some xs[i].v) (ht : ∀ x ∈ xs, x.At w) :
    Calls Tryd.prog 37 #[.slice (some ⟨b, 0, none⟩) n cap] w fun e w' => ∃ v, e = .returned v ∧ Tells w' v (allM xs) (allZ xs) ∧ Below w.heap.size w w' := by
  have hmf : ∀ (fn : Fn) (first cap : Array Value) (w : World), (Instr.makeFunc fn first cap).run Tryd.prog w = .ok (.func fn first cap) w := fun _ _ _ _ => rfl
  go_enter Tryd.func37, Tryd.ntmps37
  go_wp2
  go_ret
  have hb1 : Below w.heap.size w (w.alloc (.cells #[.slice (some ⟨b, 0, none⟩) n cap] 77)) := (Below.refl _ _).alloc (Nat.le_refl _) _
  have hcell : (w.alloc (.cells #[.slice (some ⟨b, 0, none⟩) n cap] 77)).cell? ⟨w.heap.size, 0, none⟩ = some (.slice (some ⟨b, 0, none⟩) n cap) := by simp
  have hlt := World.block_lt_of_cell? _ _ hcell
  refine ⟨_, rfl, ⟨_, _, rfl, enter_row, fun W hW => ?_⟩, hb1⟩
  refine row1_any xs b n cap w.heap.size W hn hn0 hnm hm ((hW.cell (p := ⟨w.heap.size, 0, none⟩) hlt).trans hcell) (fun i hi => ?_) (fun x hx => ((ht x hx).next hb1).next hW)
  have h0 := hc i hi
  have hl0 := World.block_lt_of_cell? _ _ h0
  exact ((hb1.trans (hW.mono (by simp))).cell (p := ⟨b, i, none⟩) hl0).trans h0
end Go.Proofs.YtecbhhfncklefaaDoor
