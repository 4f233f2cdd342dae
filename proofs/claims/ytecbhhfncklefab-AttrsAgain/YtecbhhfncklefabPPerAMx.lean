/- 'perhapsNext' of the reader: what is told of a node; nothing but the reader turns. -/
import Derived.Test.YtecbhhfncklefabPNodeGMx
import Derived.Test.YtecbhhfncklefabAliveEndPPerNMx
namespace Go.Proofs.Ytecbhhfncklefab
set_option linter.unusedVariables false
open Go.RowKit

set_option maxRecDepth 100000 in
set_option maxHeartbeats 2000000 in
theorem perna_any (W : World) (h : Nat) (a : Option Addr) (len cap : Nat) (zs : List Int) (s : Rd) (R : Rb W h a len cap zs s) (he : s.e = 0) :
    Calls Try.prog 68 #[.pointer (some ⟨h, 0, none⟩), .func (.func 23) #[] #[]] W (Got (optC attrC) (fun x => .tuple #[.bool x.1, attV x.2]) W h a len cap zs s) := by
  have hB1 : Below W.heap.size W (W.alloc (.cells #[.int .u32 0, .int .u32 0, .int .u32 0, .int .u32 0, .int .u32 0, .int .u64 0, .int .u64 0, .int .u64 0, .int .u32 0, .int .u32 0, .int .u32 0, .int .u32 0, .int .u32 0, .int .u32 0] 28)) := (Below.refl _ _).alloc (Nat.le_refl _) _
  have z1 := World.alloc_heap_new W (.cells #[.int .u32 0, .int .u32 0, .int .u32 0, .int .u32 0, .int .u32 0, .int .u64 0, .int .u64 0, .int .u64 0, .int .u32 0, .int .u32 0, .int .u32 0, .int .u32 0, .int .u32 0, .int .u32 0] 28)
  have R1 := R.next hB1
  have hwh : W.heap.size ≠ h := Nat.ne_of_gt R.lt
  have g1 := grown_below hB1 (some h)
  go_enter Try.func68, Try.ntmps68
  go_wp2_with fail
  generalize (W.alloc (.cells #[.int .u32 0, .int .u32 0, .int .u32 0, .int .u32 0, .int .u32 0, .int .u64 0, .int .u64 0, .int .u64 0, .int .u32 0, .int .u32 0, .int .u32 0, .int .u32 0, .int .u32 0, .int .u32 0] 28)) = W1 at *
  refine (rdyes_any W1 h a len cap zs s R1 he).mono ?_
  rintro e W2 ⟨hg2, v, s2, haft2, ⟨h2, rfl, hR2⟩ | ⟨h2, rfl⟩⟩
  · have z2 := (hg2.block _ (Array.getElem?_eq_some_iff.1 z1).1 (fun e => hwh (Option.some.inj e))).trans z1
    have g2 := g1.trans hg2
    clear R R1 z1 hB1 g1 hg2
    cases v with
    | true =>
      go_wp2_with fail
      refine (rdnode_any W2 h a len cap zs s2 hR2 h2).mono ?_
      rintro e W3 ⟨hg3, u, s3, haft3, ⟨h3, rfl, hR3⟩ | ⟨h3, rfl⟩⟩
      · have hd : Aft (optC attrC) s (true, u) s3 := aft_dep haft2 (.inl ⟨rfl, haft3⟩)
        have z3 := (hg3.block _ (Array.getElem?_eq_some_iff.1 z2).1 (fun e => hwh (Option.some.inj e))).trans z2
        have g3 := g2.trans hg3
        clear z2 g2 hg3 hR2
        go_wp2_with (refine wpList_store_whole rfl _ _ _ rfl W.heap.size _ rfl rfl 28 _ z3 at_info rfl (by simp [Value.oneCell']) ?_; intro W9 hr9 hg9 hs9)
        have hR9 := hR3.other hg9 hwh (seg_past hR3.seg z3 (no_u8 (by simp [noU8])) hg9)
        exact bodyPost_ret (results_tmp_row (u := 4) (p := 5) (ty := 28) rfl _ _ W.heap.size 28 _ (0, 0) _ (by rfl) hr9 Try.underlying28 rfl (by kernel_rfl)) rfl ⟨g3.andThen hg9 (fun j e => .inl (Nat.le_of_eq (Option.some.inj e))), (true, u), s3, hd, .inl ⟨h3, rfl, hR9⟩⟩
      · have hd : Aft (optC attrC) s (true, u) s3 := aft_dep haft2 (.inl ⟨rfl, haft3⟩)
        have g3 := g2.trans hg3
        go_wp2
        exact ⟨rfl, g3, _, _, hd, .inr ⟨h3, rfl⟩⟩
    | false =>
      have hd : Aft (optC attrC) s (false, attrC.zero) s2 := aft_dep haft2 (.inr ⟨rfl, rfl, rfl⟩)
      have hq := W2.heap.size
      have hB3 : Below W2.heap.size W2 (W2.alloc (.cells #[.int .u32 0, .int .u32 0, .int .u32 0, .int .u32 0, .int .u32 0, .int .u64 0, .int .u64 0, .int .u64 0, .int .u32 0, .int .u32 0, .int .u32 0, .int .u32 0, .int .u32 0, .int .u32 0] 28)) := (Below.refl _ _).alloc (Nat.le_refl _) _
      have n3 := World.alloc_heap_new W2 (.cells #[.int .u32 0, .int .u32 0, .int .u32 0, .int .u32 0, .int .u32 0, .int .u64 0, .int .u64 0, .int .u64 0, .int .u32 0, .int .u32 0, .int .u32 0, .int .u32 0, .int .u32 0, .int .u32 0] 28)
      have hR3 := hR2.next hB3
      have z3 := (hB3.block _ (Array.getElem?_eq_some_iff.1 z2).1).trans z2
      have hlt2 : W.heap.size < W2.heap.size := (Array.getElem?_eq_some_iff.1 z2).1
      have g3 := g2.trans (grown_below hB3 (some h))
      clear z2 g2 hR2 hq hB3
      go_wp2_with fail
      generalize (W2.alloc (.cells #[.int .u32 0, .int .u32 0, .int .u32 0, .int .u32 0, .int .u32 0, .int .u64 0, .int .u64 0, .int .u64 0, .int .u32 0, .int .u32 0, .int .u32 0, .int .u32 0, .int .u32 0, .int .u32 0] 28)) = W3 at *
      generalize W2.heap.size = q at *
      have hdr := below_draw W3
      have hR4 := hR3.next hdr
      have z4 : W3.drew.heap[W.heap.size]? = _ := z3
      have n4 : W3.drew.heap[q]? = _ := n3
      have g4 := g3.trans (grown_drew W3 (some h))
      refine wp_region_held_drew (S := fun w' => w'.heap[q]? = some (.cells #[.int .u32 0, .int .u32 0, .int .u32 0, .int .u32 0, .int .u32 0, .int .u64 0, .int .u64 0, .int .u64 0, .int .u32 0, .int .u32 0, .int .u32 0, .int .u32 0, .int .u32 0, .int .u32 0] 28)) (by kernel_rfl) n4 (fun hHeld => ?_)
      generalize W3.drew = W4 at *
      refine wpAnyH_take (i := 0) (v := .agg #[.int .u32 0, .int .u32 0, .int .u32 0, .int .u32 0, .int .u32 0, .int .u64 0, .int .u64 0, .int .u64 0, .int .u32 0, .int .u32 0, .int .u32 0, .int .u32 0, .int .u32 0, .int .u32 0]) rfl (by kernel_rfl) (by kernel_rfl) (by kernel_rfl) (fun _ _ _ h => h) (Or.inl ⟨by rfl, ?y0⟩) (by assumption) ?_
      case y0 => intro w hSw; exact run_load_row _ _ rfl q rfl _ _ (0, 0) _ hSw Try.underlying28 rfl at_info
      simp only [Act.put, List.getElem_toArray, List.getElem_cons_zero, List.setIfInBounds_toArray, List.set_cons_zero, List.set_cons_succ]
      refine wpAnyH_take (i := 1) (v := ?v1) rfl (by kernel_rfl) (by kernel_rfl) (by kernel_rfl) (fun _ _ _ h => h) (Or.inl ⟨by rfl, ?y1⟩) (by assumption) ?_
      case y1 => intro w hSw; go_simp; first | done | with_reducible rfl
      simp only [Act.put, List.getElem_toArray, List.getElem_cons_zero, List.getElem_cons_succ, List.setIfInBounds_toArray, List.set_cons_zero, List.set_cons_succ]
      refine wpAnyH_ready (rs := [2]) (by kernel_rfl) (by simp) ?_
      refine AllReadyH.cons rfl (fun K hK => ?_) AllReadyH.nil
      rw [if_pos (by rfl)]
      refine wp_store_letter 28 _ _ rfl W.heap.size _ rfl rfl 28 _ z4 at_info rfl (by simp [Value.oneCell']) ?_
      intro W5 hr5 hg5 hs5
      have n5 : W5.heap[q]? = _ := (hg5.block q (Array.getElem?_eq_some_iff.1 n4).1 (fun e => Nat.ne_of_gt hlt2 (Option.some.inj e))).trans n4
      refine hK.out _ _ n5 (fun hHeld => ?_)
      clear hK K
      try simp only [Act.put, List.getElem_toArray, List.getElem_cons_zero, List.getElem_cons_succ]
      refine wpAnyH_done (by kernel_rfl) ?_ _
      have hR5 := hR4.other hg5 hwh (seg_past hR4.seg z4 (no_u8 (by simp [noU8])) hg5)
      go_wp2
      exact bodyPost_ret (results_tmp_row (u := 4) (p := 5) (ty := 28) rfl _ _ W.heap.size 28 _ (0, 0) _ (by rfl) hr5 Try.underlying28 rfl (by kernel_rfl)) rfl ⟨g4.andThen hg5 (fun j e => .inl (Nat.le_of_eq (Option.some.inj e))), (false, attrC.zero), s2, hd, .inl ⟨h2, rfl, hR5⟩⟩
  · have hd : Aft (optC attrC) s (v, attrC.zero) s2 := by
      cases v with
      | true => exact aft_dep haft2 (.inl ⟨rfl, aft_stick h2 _⟩)
      | false => exact aft_dep haft2 (.inr ⟨rfl, rfl, rfl⟩)
    have g2 := g1.trans hg2
    go_wp2
    exact ⟨rfl, g2, _, _, hd, .inr ⟨h2, rfl⟩⟩
end Go.Proofs.Ytecbhhfncklefab
