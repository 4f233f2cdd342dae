/- The document's 'GetWeak': what is got of bytes, all of it or nothing; nothing that was there turns. -/
import Derived.Test.YtecbhhfncklefaaRefWRMx
import Derived.Test.YtecbhhfncklefaaPGetWMx
namespace Go.Proofs.Ytecbhhfncklefaa
set_option linter.unusedVariables false
open Go.RowKit

set_option maxRecDepth 100000 in
set_option maxHeartbeats 4000000 in
theorem refgetw_any : WGet 14 := by
  intro a len cap zs W hlc hm hz hb hs
  obtain ⟨E, hE⟩ : ∃ E, weakC.gE zs = E := ⟨_, rfl⟩
  obtain ⟨N, hN⟩ : ∃ N, weakC.gN zs = N := ⟨_, rfl⟩
  obtain ⟨U, hU⟩ : ∃ U, weakC.gV zs = U := ⟨_, rfl⟩
  have hbad : E ≠ 0 → U = zeroW ∧ N = 0 := fun h => by
    have := weakC.bad (zs := zs) (by rw [hE]; exact h)
    rw [hU, hN] at this
    exact this
  rw [hE, hN, hU]
  have b0 : Below W.heap.size W (W.alloc (.cells #[.bool false, .int .u64 0, .int .u32 0, .int .u32 0, .int .u32 0, .int .u32 0, .bool false, .int .u32 0, .int .u32 0, .int .u32 0, .int .u32 0, .int .u32 0, .int .u64 0, .int .u64 0, .int .u64 0, .int .u32 0, .int .u32 0, .int .u32 0, .int .u32 0, .int .u32 0, .int .u32 0] 43)) := (Below.refl _ _).alloc (Nat.le_refl _) _
  have x0 := World.alloc_heap_new W (.cells #[.bool false, .int .u64 0, .int .u32 0, .int .u32 0, .int .u32 0, .int .u32 0, .bool false, .int .u32 0, .int .u32 0, .int .u32 0, .int .u32 0, .int .u32 0, .int .u64 0, .int .u64 0, .int .u64 0, .int .u32 0, .int .u32 0, .int .u32 0, .int .u32 0, .int .u32 0, .int .u32 0] 43)
  have b1 := b0.alloc b0.size (.cells #[.slice a len cap, .int .i64 0, .int .i64 0] 60)
  have r1 := World.alloc_heap_new (W.alloc (.cells #[.bool false, .int .u64 0, .int .u32 0, .int .u32 0, .int .u32 0, .int .u32 0, .bool false, .int .u32 0, .int .u32 0, .int .u32 0, .int .u32 0, .int .u32 0, .int .u64 0, .int .u64 0, .int .u64 0, .int .u32 0, .int .u32 0, .int .u32 0, .int .u32 0, .int .u32 0, .int .u32 0] 43)) (.cells #[.slice a len cap, .int .i64 0, .int .i64 0] 60)
  rw [show (W.alloc (.cells #[.bool false, .int .u64 0, .int .u32 0, .int .u32 0, .int .u32 0, .int .u32 0, .bool false, .int .u32 0, .int .u32 0, .int .u32 0, .int .u32 0, .int .u32 0, .int .u64 0, .int .u64 0, .int .u64 0, .int .u32 0, .int .u32 0, .int .u32 0, .int .u32 0, .int .u32 0, .int .u32 0] 43)).heap.size = W.heap.size + 1 by simp] at r1
  replace x0 := (Below.heap_alloc (W.alloc (.cells #[.bool false, .int .u64 0, .int .u32 0, .int .u32 0, .int .u32 0, .int .u32 0, .bool false, .int .u32 0, .int .u32 0, .int .u32 0, .int .u32 0, .int .u32 0, .int .u64 0, .int .u64 0, .int .u64 0, .int .u32 0, .int .u32 0, .int .u32 0, .int .u32 0, .int .u32 0, .int .u32 0] 43)) (.cells #[.slice a len cap, .int .i64 0, .int .i64 0] 60) W.heap.size (by simp)).trans x0
  have R : Rr ((W.alloc (.cells #[.bool false, .int .u64 0, .int .u32 0, .int .u32 0, .int .u32 0, .int .u32 0, .bool false, .int .u32 0, .int .u32 0, .int .u32 0, .int .u32 0, .int .u32 0, .int .u64 0, .int .u64 0, .int .u64 0, .int .u32 0, .int .u32 0, .int .u32 0, .int .u32 0, .int .u32 0, .int .u32 0] 43)).alloc (.cells #[.slice a len cap, .int .i64 0, .int .i64 0] 60)) (W.heap.size + 1) a len cap ⟨zs, 0, 0⟩ := r1
  have hs1 := hs.below b1
  have hlt1 : W.heap.size + 1 < ((W.alloc (.cells #[.bool false, .int .u64 0, .int .u32 0, .int .u32 0, .int .u32 0, .int .u32 0, .bool false, .int .u32 0, .int .u32 0, .int .u32 0, .int .u32 0, .int .u32 0, .int .u64 0, .int .u64 0, .int .u64 0, .int .u32 0, .int .u32 0, .int .u32 0, .int .u32 0, .int .u32 0, .int .u32 0] 43)).alloc (.cells #[.slice a len cap, .int .i64 0, .int .i64 0] 60)).heap.size := R.lt
  clear r1 hs
  go_enter Try.func14, Try.ntmps14
  go_wp2_with fail
  generalize ((W.alloc (.cells #[.bool false, .int .u64 0, .int .u32 0, .int .u32 0, .int .u32 0, .int .u32 0, .bool false, .int .u32 0, .int .u32 0, .int .u32 0, .int .u32 0, .int .u32 0, .int .u64 0, .int .u64 0, .int .u64 0, .int .u32 0, .int .u32 0, .int .u32 0, .int .u32 0, .int .u32 0, .int .u32 0] 43)).alloc (.cells #[.slice a len cap, .int .i64 0, .int .i64 0] 60)) = V1 at *
  refine (rd_weak (W.heap.size + 1) a len cap zs ⟨zs, 0, 0⟩ V1 R (on_start zs) hlc hm hz hb hs1).mono ?_
  rintro e V2 ⟨v, s', rfl, hR, hO, haft, hg⟩
  obtain ⟨he, hv⟩ := aft_end haft
  rw [hE] at he
  rw [hU, hN] at hv
  clear hE hN hU haft
  have B2 := b1.grown hg b1.size (fun k e => by have := Option.some.inj e; omega)
  have x2 := (hg.block W.heap.size (Array.getElem?_eq_some_iff.1 x0).1 (fun e => by have := Option.some.inj e; omega)).trans x0
  obtain ⟨cs, hcs, hsz, h1, hnu⟩ := wkV_row v
  rw [hcs]
  have hi : (Try.prog.info? 43).map (·.size) = some cs.size := by rw [hsz]; exact wk_info
  have z3 := World.alloc_heap_new V2 (.cells #[.bool false, .int .u64 0, .int .u32 0, .int .u32 0, .int .u32 0, .int .u32 0, .bool false, .int .u32 0, .int .u32 0, .int .u32 0, .int .u32 0, .int .u32 0, .int .u64 0, .int .u64 0, .int .u64 0, .int .u32 0, .int .u32 0, .int .u32 0, .int .u32 0, .int .u32 0, .int .u32 0] 43)
  have hqlt : W.heap.size + 1 < V2.heap.size := hR.lt
  have hbA : Below V2.heap.size V2 (V2.alloc (.cells #[.bool false, .int .u64 0, .int .u32 0, .int .u32 0, .int .u32 0, .int .u32 0, .bool false, .int .u32 0, .int .u32 0, .int .u32 0, .int .u32 0, .int .u32 0, .int .u64 0, .int .u64 0, .int .u64 0, .int .u32 0, .int .u32 0, .int .u32 0, .int .u32 0, .int .u32 0, .int .u32 0] 43)) := (Below.refl _ _).alloc (Nat.le_refl _) _
  have hRA := hR.next hbA
  have xA := (hbA.block _ (Array.getElem?_eq_some_iff.1 x2).1).trans x2
  have BA := B2.alloc B2.size (.cells #[.bool false, .int .u64 0, .int .u32 0, .int .u32 0, .int .u32 0, .int .u32 0, .bool false, .int .u32 0, .int .u32 0, .int .u32 0, .int .u32 0, .int .u32 0, .int .u64 0, .int .u64 0, .int .u64 0, .int .u32 0, .int .u32 0, .int .u32 0, .int .u32 0, .int .u32 0, .int .u32 0] 43)
  clear b0 x0 b1 R hs1 hg B2 x2 hR hbA
  by_cases h0 : s'.e = 0
  · obtain ⟨rfl, rfl⟩ := hv h0
    have hE0 : E = 0 := by rw [← he]; exact h0
    subst hE0
    have hne : (s'.e != 0) = false := by simp [h0]
    clear hv hbad he h0
    go_wp2_with (refine wpList_store_whole rfl 43 _ _ rfl V2.heap.size cs rfl rfl 43 #[.bool false, .int .u64 0, .int .u32 0, .int .u32 0, .int .u32 0, .int .u32 0, .bool false, .int .u32 0, .int .u32 0, .int .u32 0, .int .u32 0, .int .u32 0, .int .u64 0, .int .u64 0, .int .u64 0, .int .u32 0, .int .u32 0, .int .u32 0, .int .u32 0, .int .u32 0, .int .u32 0] ?_ hi (by rw [hsz]; rfl) h1 ?_; exact z3; intro V3 x3 hg3 hs3; have hR3 : Rr V3 (W.heap.size + 1) a len cap s' := (hg3.block _ hRA.lt (fun e => by have := Option.some.inj e; omega)).trans hRA; obtain ⟨c0, c1, c2, f1, f2⟩ := hR3.c)
    have y3 := (hg3.block W.heap.size (Array.getElem?_eq_some_iff.1 xA).1 (fun e => by have := Option.some.inj e; omega)).trans xA
    have B3 := BA.grown hg3 BA.size (fun k e => by have := Option.some.inj e; omega)
    generalize hq : V2.heap.size = q at *
    clear xA BA hg3 hs3 z3 hRA hR3
    have S4 : V3.drew.heap[q]? = some (.cells cs 43) ∧ V3.drew.cell? ⟨W.heap.size + 1, 1, none⟩ = some (.int .i64 (s'.n : Int)) := And.intro x3 c1
    have y4 : V3.drew.heap[W.heap.size]? = some (.cells #[.bool false, .int .u64 0, .int .u32 0, .int .u32 0, .int .u32 0, .int .u32 0, .bool false, .int .u32 0, .int .u32 0, .int .u32 0, .int .u32 0, .int .u32 0, .int .u64 0, .int .u64 0, .int .u64 0, .int .u32 0, .int .u32 0, .int .u32 0, .int .u32 0, .int .u32 0, .int .u32 0] 43) := y3
    have B4 := B3.drew
    refine wp_region_noPanic ?_
    refine wp_region_held_drew (S := fun w' => w'.heap[q]? = some (.cells cs 43) ∧ w'.cell? ⟨W.heap.size + 1, 1, none⟩ = some (.int .i64 (s'.n : Int))) (by kernel_rfl) (by assumption) (fun hHeld => ?_)
    clear x3 y3 B3 c0 c1 c2 f1 f2
    generalize V3.drew = V4 at *
    refine wpAnyH_take (i := 0) (v := .agg cs) rfl (by kernel_rfl) (by kernel_rfl) (by kernel_rfl) (fun _ _ _ h => h) (Or.inl ⟨by rfl, ?ya0⟩) (by assumption) ?_
    case ya0 => intro w hSw; exact run_load_row _ _ rfl q rfl _ _ (0, 0) _ hSw.1 Try.underlying43 rfl hi
    simp only [Act.put, List.getElem_toArray, List.getElem_cons_zero, List.setIfInBounds_toArray, List.set_cons_zero, List.set_cons_succ]
    refine wpAnyH_take (i := 1) (v := ?va1) rfl (by kernel_rfl) (by kernel_rfl) (by kernel_rfl) (fun _ _ _ h => h) (Or.inl ⟨by rfl, ?ya1⟩) (by assumption) ?_
    case ya1 => intro w hSw; obtain ⟨_, hSw⟩ := hSw; go_simp; first | done | with_reducible rfl
    simp only [Act.put, List.getElem_toArray, List.getElem_cons_zero, List.getElem_cons_succ, List.setIfInBounds_toArray, List.set_cons_zero, List.set_cons_succ]
    refine wpAnyH_take (i := 2) (v := ?va2) rfl (by kernel_rfl) (by kernel_rfl) (by kernel_rfl) (fun _ _ _ h => h) (Or.inl ⟨by rfl, ?ya2⟩) (by assumption) ?_
    case ya2 => intro w hSw; obtain ⟨_, hSw⟩ := hSw; go_simp; first | done | with_reducible rfl
    simp only [Act.put, List.getElem_toArray, List.getElem_cons_zero, List.getElem_cons_succ, List.setIfInBounds_toArray, List.set_cons_zero, List.set_cons_succ]
    refine wpAnyH_take (i := 3) (v := ?va3) rfl (by kernel_rfl) (by kernel_rfl) (by kernel_rfl) (fun _ _ _ h => h) (Or.inl ⟨by rfl, ?ya3⟩) (by assumption) ?_
    case ya3 => intro w hSw; obtain ⟨_, hSw⟩ := hSw; go_simp; first | done | with_reducible rfl
    simp only [Act.put, List.getElem_toArray, List.getElem_cons_zero, List.getElem_cons_succ, List.setIfInBounds_toArray, List.set_cons_zero, List.set_cons_succ]
    refine wpAnyH_take (i := 4) (v := .int .i64 (s'.n : Int)) rfl (by kernel_rfl) (by kernel_rfl) (by kernel_rfl) (fun _ _ _ h => h) (Or.inl ⟨by rfl, ?ya4⟩) (by assumption) ?_
    case ya4 => intro w hSw; obtain ⟨_, hSw⟩ := hSw; go_simp; first | done | with_reducible rfl
    simp only [Act.put, List.getElem_toArray, List.getElem_cons_zero, List.getElem_cons_succ, List.setIfInBounds_toArray, List.set_cons_zero, List.set_cons_succ]
    refine wpAnyH_ready (rs := [5]) (by kernel_rfl) (by simp) ?_
    refine AllReadyH.cons rfl (fun K hK => ?_) AllReadyH.nil
    rw [if_pos (by rfl)]
    refine wp_store_letter 43 _ _ rfl W.heap.size cs rfl rfl 43 #[.bool false, .int .u64 0, .int .u32 0, .int .u32 0, .int .u32 0, .int .u32 0, .bool false, .int .u32 0, .int .u32 0, .int .u32 0, .int .u32 0, .int .u32 0, .int .u64 0, .int .u64 0, .int .u64 0, .int .u32 0, .int .u32 0, .int .u32 0, .int .u32 0, .int .u32 0, .int .u32 0] y4 hi (by rw [hsz]; rfl) h1 ?_
    intro V5 x5 hg5 hs5
    have q5 := (hg5.block q (Array.getElem?_eq_some_iff.1 S4.1).1 (fun e => by have := Option.some.inj e; omega)).trans S4.1
    have c5 : V5.cell? ⟨W.heap.size + 1, 1, none⟩ = some (.int .i64 (s'.n : Int)) := by
      have hl := World.block_lt_of_cell? _ _ S4.2
      have hb := hg5.block (W.heap.size + 1) hl (fun e => by have := Option.some.inj e; omega)
      have hc := S4.2
      simp only [World.cell?, hb] at hc ⊢
      exact hc
    have B5 := B4.grown hg5 B4.size (fun k e => by have := Option.some.inj e; omega)
    have S5 := And.intro q5 c5
    refine hK.out _ _ S5 (fun hHeld => ?_)
    clear hK K S4 y4 B4 hg5 hs5
    try simp only [Act.put, List.getElem_toArray, List.getElem_cons_zero, List.getElem_cons_succ]
    refine wpAnyH_take (i := 6) (v := ?va6) rfl (by kernel_rfl) (by kernel_rfl) (by kernel_rfl) (fun _ _ _ h => h) (Or.inl ⟨by rfl, ?ya6⟩) (by assumption) ?_
    case ya6 => intro w hSw; obtain ⟨_, hSw⟩ := hSw; go_simp; first | done | with_reducible rfl
    simp only [Act.put, List.getElem_toArray, List.getElem_cons_zero, List.getElem_cons_succ, List.setIfInBounds_toArray, List.set_cons_zero, List.set_cons_succ]
    refine wpAnyH_take (i := 7) (v := ?va7) rfl (by kernel_rfl) (by kernel_rfl) (by kernel_rfl) (fun _ _ _ h => h) (Or.inl ⟨by rfl, ?ya7⟩) (by assumption) ?_
    case ya7 => intro w hSw; obtain ⟨_, hSw⟩ := hSw; go_simp; first | done | with_reducible rfl
    simp only [Act.put, List.getElem_toArray, List.getElem_cons_zero, List.getElem_cons_succ, List.setIfInBounds_toArray, List.set_cons_zero, List.set_cons_succ]
    refine wpAnyH_done (by kernel_rfl) ?_ _
    refine NoPanic.normal ?_
    go_wp2
    exact bodyPost_ret (results_row_tmp2 rfl _ _ W.heap.size 43 cs (0, 0) _ (by rfl) x5 Try.underlying43 rfl hi) rfl ⟨v, rfl, by have hx : wkV v = _ := hcs; simp only [wkV] at hx; rw [hx]; rfl, B5⟩
  · obtain ⟨rfl, rfl⟩ := hbad (by rw [← he]; exact h0)
    have hne : (s'.e != 0) = true := by simpa using h0
    subst he
    clear hv hbad h0
    go_wp2_with (refine wpList_store_whole rfl 43 _ _ rfl V2.heap.size cs rfl rfl 43 #[.bool false, .int .u64 0, .int .u32 0, .int .u32 0, .int .u32 0, .int .u32 0, .bool false, .int .u32 0, .int .u32 0, .int .u32 0, .int .u32 0, .int .u32 0, .int .u64 0, .int .u64 0, .int .u64 0, .int .u32 0, .int .u32 0, .int .u32 0, .int .u32 0, .int .u32 0, .int .u32 0] ?_ hi (by rw [hsz]; rfl) h1 ?_; exact z3; intro V3 x3 hg3 hs3; have hR3 : Rr V3 (W.heap.size + 1) a len cap s' := (hg3.block _ hRA.lt (fun e => by have := Option.some.inj e; omega)).trans hRA; obtain ⟨c0, c1, c2, f1, f2⟩ := hR3.c)
    have y3 := (hg3.block W.heap.size (Array.getElem?_eq_some_iff.1 xA).1 (fun e => by have := Option.some.inj e; omega)).trans xA
    have B3 := BA.grown hg3 BA.size (fun k e => by have := Option.some.inj e; omega)
    generalize hq : V2.heap.size = q at *
    clear xA BA hg3 hs3 z3 hRA hR3
    have S4 : V3.drew.cell? ⟨W.heap.size + 1, 2, none⟩ = some (.int .i64 s'.e) := c2
    have y4 : V3.drew.heap[W.heap.size]? = some (.cells #[.bool false, .int .u64 0, .int .u32 0, .int .u32 0, .int .u32 0, .int .u32 0, .bool false, .int .u32 0, .int .u32 0, .int .u32 0, .int .u32 0, .int .u32 0, .int .u64 0, .int .u64 0, .int .u64 0, .int .u32 0, .int .u32 0, .int .u32 0, .int .u32 0, .int .u32 0, .int .u32 0] 43) := y3
    have B4 := B3.drew
    refine wp_region_noPanic ?_
    refine wp_region_held_drew (S := fun w' => w'.cell? ⟨W.heap.size + 1, 2, none⟩ = some (.int .i64 s'.e)) (by kernel_rfl) (by assumption) (fun hHeld => ?_)
    clear x3 y3 B3 c0 c1 c2 f1 f2
    generalize V3.drew = V4 at *
    refine wpAnyH_take (i := 0) (v := .agg #[.bool false, .int .u64 0, .int .u32 0, .int .u32 0, .int .u32 0, .int .u32 0, .bool false, .int .u32 0, .int .u32 0, .int .u32 0, .int .u32 0, .int .u32 0, .int .u64 0, .int .u64 0, .int .u64 0, .int .u32 0, .int .u32 0, .int .u32 0, .int .u32 0, .int .u32 0, .int .u32 0]) rfl (by kernel_rfl) (by kernel_rfl) (by kernel_rfl) (fun _ _ _ h => h) (Or.inl ⟨by rfl, ?yb0⟩) (by assumption) ?_
    case yb0 => intro w hSw; go_simp; first | done | with_reducible rfl
    simp only [Act.put, List.getElem_toArray, List.getElem_cons_zero, List.setIfInBounds_toArray, List.set_cons_zero, List.set_cons_succ]
    refine wpAnyH_take (i := 1) (v := ?vb1) rfl (by kernel_rfl) (by kernel_rfl) (by kernel_rfl) (fun _ _ _ h => h) (Or.inl ⟨by rfl, ?yb1⟩) (by assumption) ?_
    case yb1 => intro w hSw; go_simp; first | done | with_reducible rfl
    simp only [Act.put, List.getElem_toArray, List.getElem_cons_zero, List.getElem_cons_succ, List.setIfInBounds_toArray, List.set_cons_zero, List.set_cons_succ]
    refine wpAnyH_take (i := 2) (v := ?vb2) rfl (by kernel_rfl) (by kernel_rfl) (by kernel_rfl) (fun _ _ _ h => h) (Or.inl ⟨by rfl, ?yb2⟩) (by assumption) ?_
    case yb2 => intro w hSw; go_simp; first | done | with_reducible rfl
    simp only [Act.put, List.getElem_toArray, List.getElem_cons_zero, List.getElem_cons_succ, List.setIfInBounds_toArray, List.set_cons_zero, List.set_cons_succ]
    refine wpAnyH_take (i := 3) (v := ?vb3) rfl (by kernel_rfl) (by kernel_rfl) (by kernel_rfl) (fun _ _ _ h => h) (Or.inl ⟨by rfl, ?yb3⟩) (by assumption) ?_
    case yb3 => intro w hSw; go_simp; first | done | with_reducible rfl
    simp only [Act.put, List.getElem_toArray, List.getElem_cons_zero, List.getElem_cons_succ, List.setIfInBounds_toArray, List.set_cons_zero, List.set_cons_succ]
    refine wpAnyH_take (i := 4) (v := .int .i64 s'.e) rfl (by kernel_rfl) (by kernel_rfl) (by kernel_rfl) (fun _ _ _ h => h) (Or.inl ⟨by rfl, ?yb4⟩) (by assumption) ?_
    case yb4 => intro w hSw; go_simp; first | done | with_reducible rfl
    simp only [Act.put, List.getElem_toArray, List.getElem_cons_zero, List.getElem_cons_succ, List.setIfInBounds_toArray, List.set_cons_zero, List.set_cons_succ]
    refine wpAnyH_ready (rs := [5]) (by kernel_rfl) (by simp) ?_
    refine AllReadyH.cons rfl (fun K hK => ?_) AllReadyH.nil
    rw [if_pos (by rfl)]
    refine wp_store_letter 43 _ _ rfl W.heap.size #[.bool false, .int .u64 0, .int .u32 0, .int .u32 0, .int .u32 0, .int .u32 0, .bool false, .int .u32 0, .int .u32 0, .int .u32 0, .int .u32 0, .int .u32 0, .int .u64 0, .int .u64 0, .int .u64 0, .int .u32 0, .int .u32 0, .int .u32 0, .int .u32 0, .int .u32 0, .int .u32 0] rfl rfl 43 #[.bool false, .int .u64 0, .int .u32 0, .int .u32 0, .int .u32 0, .int .u32 0, .bool false, .int .u32 0, .int .u32 0, .int .u32 0, .int .u32 0, .int .u32 0, .int .u64 0, .int .u64 0, .int .u64 0, .int .u32 0, .int .u32 0, .int .u32 0, .int .u32 0, .int .u32 0, .int .u32 0] y4 wk_info rfl (by simp [Value.oneCell']) ?_
    intro V5 x5 hg5 hs5
    have c5 : V5.cell? ⟨W.heap.size + 1, 2, none⟩ = some (.int .i64 s'.e) := by
      have hl := World.block_lt_of_cell? _ _ S4
      have hb := hg5.block (W.heap.size + 1) hl (fun e => by have := Option.some.inj e; omega)
      have hc := S4
      simp only [World.cell?, hb] at hc ⊢
      exact hc
    have B5 := B4.grown hg5 B4.size (fun k e => by have := Option.some.inj e; omega)
    refine hK.out _ _ c5 (fun hHeld => ?_)
    clear hK K S4 y4 B4 hg5 hs5
    try simp only [Act.put, List.getElem_toArray, List.getElem_cons_zero, List.getElem_cons_succ]
    refine wpAnyH_take (i := 6) (v := ?vb6) rfl (by kernel_rfl) (by kernel_rfl) (by kernel_rfl) (fun _ _ _ h => h) (Or.inl ⟨by rfl, ?yb6⟩) (by assumption) ?_
    case yb6 => intro w hSw; go_simp; first | done | with_reducible rfl
    simp only [Act.put, List.getElem_toArray, List.getElem_cons_zero, List.getElem_cons_succ, List.setIfInBounds_toArray, List.set_cons_zero, List.set_cons_succ]
    refine wpAnyH_take (i := 7) (v := ?vb7) rfl (by kernel_rfl) (by kernel_rfl) (by kernel_rfl) (fun _ _ _ h => h) (Or.inl ⟨by rfl, ?yb7⟩) (by assumption) ?_
    case yb7 => intro w hSw; go_simp; first | done | with_reducible rfl
    simp only [Act.put, List.getElem_toArray, List.getElem_cons_zero, List.getElem_cons_succ, List.setIfInBounds_toArray, List.set_cons_zero, List.set_cons_succ]
    refine wpAnyH_done (by kernel_rfl) ?_ _
    refine NoPanic.normal ?_
    go_wp2
    exact bodyPost_ret (results_row_tmp2 rfl _ _ W.heap.size 43 #[.bool false, .int .u64 0, .int .u32 0, .int .u32 0, .int .u32 0, .int .u32 0, .bool false, .int .u32 0, .int .u32 0, .int .u32 0, .int .u32 0, .int .u32 0, .int .u64 0, .int .u64 0, .int .u64 0, .int .u32 0, .int .u32 0, .int .u32 0, .int .u32 0, .int .u32 0, .int .u32 0] (0, 0) _ (by rfl) x5 Try.underlying43 rfl wk_info) rfl ⟨zeroW, rfl, rfl, B5⟩
end Go.Proofs.Ytecbhhfncklefaa
