/- 'alive' of the law, whole. -/
import Derived.Test.YtecbhhfncklefabAAlive
import Derived.Test.YtecbhhfncklefabGrownCellPCatchPPutPPutAMx
import Derived.Test.YtecbhhfncklefabPPutSPPutWMx
import Derived.Test.YtecbhhfncklefabPGetAMx
import Derived.Test.YtecbhhfncklefabTmpRowPModeMx
import Derived.Test.YtecbhhfncklefabRegRow
namespace Go.Proofs.Ytecbhhfncklefab
set_option linter.unusedVariables false
open Go.RowKit

theorem alive_end (W : World) : Calls Try.prog 9 #[] W fun e W' => e = .returned (.bool true) ∧ Below W.heap.size W W' := alive_any aput_any aget_any sput_any wput_any W
end Go.Proofs.Ytecbhhfncklefab

/- 'perhapsNext' of the reader: numbers; what was told ahead; nothing but the reader turns. -/
namespace Go.Proofs.Ytecbhhfncklefab
set_option linter.unusedVariables false
open Go.RowKit

set_option maxRecDepth 100000 in
set_option maxHeartbeats 1000000 in
theorem pernu_any (F : FuncId) (c : Codec Int) (hen : ∀ (args : Array Value) (w : World), (callFunc F args).run Try.prog w = .ok (.enter F args) w) (hF : Reads F c (fun v => .int .u32 v)) (hz : c.zero = 0)
    (W : World) (h : Nat) (a : Option Addr) (len cap : Nat) (zs : List Int) (s : Rd) (R : Rb W h a len cap zs s) (he : s.e = 0) :
    Calls Try.prog 60 #[.pointer (some ⟨h, 0, none⟩), .func (.func F) #[] #[]] W (Got (optC c) (fun x => .tuple #[.bool x.1, .int .u32 x.2]) W h a len cap zs s) := by
  go_enter Try.func60, Try.ntmps60
  go_wp2_with fail
  refine (rdyes_any W h a len cap zs s R he).mono ?_
  rintro e W2 ⟨hg2, v, s2, haft2, ⟨h2, rfl, hR2⟩ | ⟨h2, rfl⟩⟩
  · cases v with
    | true =>
      go_wp2_with fail
      refine (hF W2 h a len cap zs s2 hR2 h2).mono ?_
      rintro e W3 ⟨hg3, u, s3, haft3, ⟨h3, rfl, hR3⟩ | ⟨h3, rfl⟩⟩
      · have hd : Aft (optC c) s (true, u) s3 := aft_dep haft2 (.inl ⟨rfl, haft3⟩)
        go_wp2
        go_ret2
        exact ⟨hg2.trans hg3, _, _, hd, .inl ⟨h3, rfl, hR3⟩⟩
      · have hd : Aft (optC c) s (true, u) s3 := aft_dep haft2 (.inl ⟨rfl, haft3⟩)
        go_wp2
        exact ⟨rfl, hg2.trans hg3, _, _, hd, .inr ⟨h3, rfl⟩⟩
    | false =>
      have hd : Aft (optC c) s (false, 0) s2 := aft_dep haft2 (.inr ⟨rfl, hz.symm, rfl⟩)
      go_wp2
      go_ret2
      exact ⟨hg2, _, _, hd, .inl ⟨h2, rfl, hR2⟩⟩
  · have hd : Aft (optC c) s (v, c.zero) s2 := by
      cases v with
      | true => exact aft_dep haft2 (.inl ⟨rfl, aft_stick h2 _⟩)
      | false => exact aft_dep haft2 (.inr ⟨rfl, rfl, rfl⟩)
    go_wp2
    exact ⟨rfl, hg2, _, _, hd, .inr ⟨h2, rfl⟩⟩

set_option maxRecDepth 100000 in
set_option maxHeartbeats 1000000 in
theorem pernl_any (F : FuncId) (c : Codec Int) (hen : ∀ (args : Array Value) (w : World), (callFunc F args).run Try.prog w = .ok (.enter F args) w) (hF : Reads F c (fun v => .int .u64 v)) (hz : c.zero = 0)
    (W : World) (h : Nat) (a : Option Addr) (len cap : Nat) (zs : List Int) (s : Rd) (R : Rb W h a len cap zs s) (he : s.e = 0) :
    Calls Try.prog 61 #[.pointer (some ⟨h, 0, none⟩), .func (.func F) #[] #[]] W (Got (optC c) (fun x => .tuple #[.bool x.1, .int .u64 x.2]) W h a len cap zs s) := by
  go_enter Try.func61, Try.ntmps61
  go_wp2_with fail
  refine (rdyes_any W h a len cap zs s R he).mono ?_
  rintro e W2 ⟨hg2, v, s2, haft2, ⟨h2, rfl, hR2⟩ | ⟨h2, rfl⟩⟩
  · cases v with
    | true =>
      go_wp2_with fail
      refine (hF W2 h a len cap zs s2 hR2 h2).mono ?_
      rintro e W3 ⟨hg3, u, s3, haft3, ⟨h3, rfl, hR3⟩ | ⟨h3, rfl⟩⟩
      · have hd : Aft (optC c) s (true, u) s3 := aft_dep haft2 (.inl ⟨rfl, haft3⟩)
        go_wp2
        go_ret2
        exact ⟨hg2.trans hg3, _, _, hd, .inl ⟨h3, rfl, hR3⟩⟩
      · have hd : Aft (optC c) s (true, u) s3 := aft_dep haft2 (.inl ⟨rfl, haft3⟩)
        go_wp2
        exact ⟨rfl, hg2.trans hg3, _, _, hd, .inr ⟨h3, rfl⟩⟩
    | false =>
      have hd : Aft (optC c) s (false, 0) s2 := aft_dep haft2 (.inr ⟨rfl, hz.symm, rfl⟩)
      go_wp2
      go_ret2
      exact ⟨hg2, _, _, hd, .inl ⟨h2, rfl, hR2⟩⟩
  · have hd : Aft (optC c) s (v, c.zero) s2 := by
      cases v with
      | true => exact aft_dep haft2 (.inl ⟨rfl, aft_stick h2 _⟩)
      | false => exact aft_dep haft2 (.inr ⟨rfl, rfl, rfl⟩)
    go_wp2
    exact ⟨rfl, hg2, _, _, hd, .inr ⟨h2, rfl⟩⟩

set_option maxRecDepth 100000 in
set_option maxHeartbeats 2000000 in
theorem pernp_any (W : World) (h : Nat) (a : Option Addr) (len cap : Nat) (zs : List Int) (s : Rd) (R : Rb W h a len cap zs s) (he : s.e = 0) :
    Calls Try.prog 66 #[.pointer (some ⟨h, 0, none⟩), .func (.func 67) #[] #[]] W (Got (optC befC) (fun x => .tuple #[.bool x.1, pasV x.2]) W h a len cap zs s) := by
  have hB1 : Below W.heap.size W (W.alloc (.cells #[.int .u64 0, .int .u32 0, .int .u32 0, .int .u32 0, .int .u32 0] 75)) := (Below.refl _ _).alloc (Nat.le_refl _) _
  have z1 := World.alloc_heap_new W (.cells #[.int .u64 0, .int .u32 0, .int .u32 0, .int .u32 0, .int .u32 0] 75)
  have R1 := R.next hB1
  have hwh : W.heap.size ≠ h := Nat.ne_of_gt R.lt
  have g1 := grown_below hB1 (some h)
  go_enter Try.func66, Try.ntmps66
  go_wp2_with fail
  generalize (W.alloc (.cells #[.int .u64 0, .int .u32 0, .int .u32 0, .int .u32 0, .int .u32 0] 75)) = W1 at *
  refine (rdyes_any W1 h a len cap zs s R1 he).mono ?_
  rintro e W2 ⟨hg2, v, s2, haft2, ⟨h2, rfl, hR2⟩ | ⟨h2, rfl⟩⟩
  · have z2 := (hg2.block _ (Array.getElem?_eq_some_iff.1 z1).1 (fun e => hwh (Option.some.inj e))).trans z1
    have g2 := g1.trans hg2
    clear R R1 z1 hB1 g1 hg2
    cases v with
    | true =>
      go_wp2_with fail
      refine (rdbefore_any W2 h a len cap zs s2 hR2 h2).mono ?_
      rintro e W3 ⟨hg3, u, s3, haft3, ⟨h3, rfl, hR3⟩ | ⟨h3, rfl⟩⟩
      · have hd : Aft (optC befC) s (true, u) s3 := aft_dep haft2 (.inl ⟨rfl, haft3⟩)
        have z3 := (hg3.block _ (Array.getElem?_eq_some_iff.1 z2).1 (fun e => hwh (Option.some.inj e))).trans z2
        have g3 := g2.trans hg3
        clear z2 g2 hg3 hR2
        go_wp2_with (refine wpList_store_whole rfl _ _ _ rfl W.heap.size _ rfl rfl 75 _ z3 past_size rfl (by simp [Value.oneCell']) ?_; intro W9 hr9 hg9 hs9)
        have hR9 := hR3.other hg9 hwh (seg_past hR3.seg z3 (fun i v hv n e => by subst e; rcases i with _ | _ | _ | _ | _ | i <;> simp at hv) hg9)
        exact bodyPost_ret (results_tmp_row (u := 4) (p := 5) (ty := 75) rfl _ _ W.heap.size 75 _ (0, 0) _ (by rfl) hr9 Try.underlying75 rfl (by kernel_rfl)) rfl ⟨g3.andThen hg9 (fun j e => .inl (Nat.le_of_eq (Option.some.inj e))), (true, u), s3, hd, .inl ⟨h3, rfl, hR9⟩⟩
      · have hd : Aft (optC befC) s (true, u) s3 := aft_dep haft2 (.inl ⟨rfl, haft3⟩)
        have g3 := g2.trans hg3
        go_wp2
        exact ⟨rfl, g3, _, _, hd, .inr ⟨h3, rfl⟩⟩
    | false =>
      have hd : Aft (optC befC) s (false, befC.zero) s2 := aft_dep haft2 (.inr ⟨rfl, rfl, rfl⟩)
      have hq := W2.heap.size
      have hB3 : Below W2.heap.size W2 (W2.alloc (.cells #[.int .u64 0, .int .u32 0, .int .u32 0, .int .u32 0, .int .u32 0] 75)) := (Below.refl _ _).alloc (Nat.le_refl _) _
      have n3 := World.alloc_heap_new W2 (.cells #[.int .u64 0, .int .u32 0, .int .u32 0, .int .u32 0, .int .u32 0] 75)
      have hR3 := hR2.next hB3
      have z3 := (hB3.block _ (Array.getElem?_eq_some_iff.1 z2).1).trans z2
      have hlt2 : W.heap.size < W2.heap.size := (Array.getElem?_eq_some_iff.1 z2).1
      have g3 := g2.trans (grown_below hB3 (some h))
      clear z2 g2 hR2 hq hB3
      go_wp2_with fail
      generalize (W2.alloc (.cells #[.int .u64 0, .int .u32 0, .int .u32 0, .int .u32 0, .int .u32 0] 75)) = W3 at *
      generalize W2.heap.size = q at *
      have hdr := below_draw W3
      have hR4 := hR3.next hdr
      have z4 : W3.drew.heap[W.heap.size]? = _ := z3
      have n4 : W3.drew.heap[q]? = _ := n3
      have g4 := g3.trans (grown_drew W3 (some h))
      refine wp_region_held_drew (S := fun w' => w'.heap[q]? = some (.cells #[.int .u64 0, .int .u32 0, .int .u32 0, .int .u32 0, .int .u32 0] 75)) (by kernel_rfl) n4 (fun hHeld => ?_)
      generalize W3.drew = W4 at *
      refine wpAnyH_take (i := 0) (v := .agg #[.int .u64 0, .int .u32 0, .int .u32 0, .int .u32 0, .int .u32 0]) rfl (by kernel_rfl) (by kernel_rfl) (by kernel_rfl) (fun _ _ _ h => h) (Or.inl ⟨by rfl, ?y0⟩) (by assumption) ?_
      case y0 => intro w hSw; exact run_load_row _ _ rfl q rfl _ _ (0, 0) _ hSw Try.underlying75 rfl past_size
      simp only [Act.put, List.getElem_toArray, List.getElem_cons_zero, List.setIfInBounds_toArray, List.set_cons_zero, List.set_cons_succ]
      refine wpAnyH_take (i := 1) (v := ?v1) rfl (by kernel_rfl) (by kernel_rfl) (by kernel_rfl) (fun _ _ _ h => h) (Or.inl ⟨by rfl, ?y1⟩) (by assumption) ?_
      case y1 => intro w hSw; go_simp; first | done | with_reducible rfl
      simp only [Act.put, List.getElem_toArray, List.getElem_cons_zero, List.getElem_cons_succ, List.setIfInBounds_toArray, List.set_cons_zero, List.set_cons_succ]
      refine wpAnyH_ready (rs := [2]) (by kernel_rfl) (by simp) ?_
      refine AllReadyH.cons rfl (fun K hK => ?_) AllReadyH.nil
      rw [if_pos (by rfl)]
      refine wp_store_letter 75 _ _ rfl W.heap.size _ rfl rfl 75 _ z4 past_size rfl (by simp [Value.oneCell']) ?_
      intro W5 hr5 hg5 hs5
      have n5 : W5.heap[q]? = _ := (hg5.block q (Array.getElem?_eq_some_iff.1 n4).1 (fun e => Nat.ne_of_gt hlt2 (Option.some.inj e))).trans n4
      refine hK.out _ _ n5 (fun hHeld => ?_)
      clear hK K
      try simp only [Act.put, List.getElem_toArray, List.getElem_cons_zero, List.getElem_cons_succ]
      refine wpAnyH_done (by kernel_rfl) ?_ _
      have hR5 := hR4.other hg5 hwh (seg_past hR4.seg z4 (fun i v hv n e => by subst e; rcases i with _ | _ | _ | _ | _ | i <;> simp at hv) hg5)
      go_wp2
      exact bodyPost_ret (results_tmp_row (u := 4) (p := 5) (ty := 75) rfl _ _ W.heap.size 75 _ (0, 0) _ (by rfl) hr5 Try.underlying75 rfl (by kernel_rfl)) rfl ⟨g4.andThen hg5 (fun j e => .inl (Nat.le_of_eq (Option.some.inj e))), (false, befC.zero), s2, hd, .inl ⟨h2, rfl, hR5⟩⟩
  · have hd : Aft (optC befC) s (v, befC.zero) s2 := by
      cases v with
      | true => exact aft_dep haft2 (.inl ⟨rfl, aft_stick h2 _⟩)
      | false => exact aft_dep haft2 (.inr ⟨rfl, rfl, rfl⟩)
    have g2 := g1.trans hg2
    go_wp2
    exact ⟨rfl, g2, _, _, hd, .inr ⟨h2, rfl⟩⟩
end Go.Proofs.Ytecbhhfncklefab
