/- 'attrs.Get' of the program: what is got of bytes, all of it or nothing; nothing that was there turns. -/
import Derived.Test.YtecbhhfncklefacPNodeGMx
import Derived.Test.YtecbhhfncklefacPCatchGRowTmpCPGetKRowTmp2Mx
import Derived.Test.YtecbhhfncklefacAForms
namespace Go.Proofs.Ytecbhhfncklefac
set_option linter.unusedVariables false
open Go.RowKit

theorem attV_row (x : Atr) : ∃ cs : Array Value, attV x = .agg cs ∧ cs.size = 14 ∧ cs.all (·.oneCell') = true ∧ cs.all noU8 = true := ⟨_, rfl, rfl, by simp [Value.oneCell'], by simp [noU8]⟩
set_option maxRecDepth 100000 in
set_option maxHeartbeats 4000000 in
theorem geta_any (a : Option Addr) (len cap : Nat) (zs : List Int) (W : World) (hlc : len ≤ cap) (hm : cap ≤ 9223372036854775807) (hz : zs.length = len) (hb : Byt zs) (hs : Seg W a zs) :
    Calls Try.prog 32 #[.slice a len cap, .func (.func 33) #[] #[]] W fun e w' => e = .returned (.tuple #[attV (attrC.gV zs), .int .i64 (attrC.gN zs : Int), .int .i64 (attrC.gE zs)]) ∧ Below W.heap.size W w' := by
  have hmf : ∀ (fn : Fn) (first cap : Array Value) (w : World), (Instr.makeFunc fn first cap).run Try.prog w = .ok (.func fn first cap) w := fun _ _ _ _ => rfl
  obtain ⟨E, hE⟩ : ∃ E, attrC.gE zs = E := ⟨_, rfl⟩
  obtain ⟨N, hN⟩ : ∃ N, attrC.gN zs = N := ⟨_, rfl⟩
  obtain ⟨U, hU⟩ : ∃ U, attrC.gV zs = U := ⟨_, rfl⟩
  have hbad : E ≠ 0 → U = zeroA ∧ N = 0 := fun h => by
    have := attrC.bad (zs := zs) (by rw [hE]; exact h)
    rw [hU, hN] at this
    exact this
  rw [hE, hN, hU]
  have b0 : Below W.heap.size W (W.alloc (.cells #[.int .u32 0, .int .u32 0, .int .u32 0, .int .u32 0, .int .u32 0, .int .u64 0, .int .u64 0, .int .u64 0, .int .u32 0, .int .u32 0, .int .u32 0, .int .u32 0, .int .u32 0, .int .u32 0] 28)) := (Below.refl _ _).alloc (Nat.le_refl _) _
  have x0 := World.alloc_heap_new W (.cells #[.int .u32 0, .int .u32 0, .int .u32 0, .int .u32 0, .int .u32 0, .int .u64 0, .int .u64 0, .int .u64 0, .int .u32 0, .int .u32 0, .int .u32 0, .int .u32 0, .int .u32 0, .int .u32 0] 28)
  have b1 := b0.alloc b0.size (.cells #[.int .i64 0] 31)
  have e1 := World.alloc_heap_new (W.alloc (.cells #[.int .u32 0, .int .u32 0, .int .u32 0, .int .u32 0, .int .u32 0, .int .u64 0, .int .u64 0, .int .u64 0, .int .u32 0, .int .u32 0, .int .u32 0, .int .u32 0, .int .u32 0, .int .u32 0] 28)) (.cells #[.int .i64 0] 31)
  have b2 := b1.alloc b1.size (.cells #[.slice a len cap, .int .i64 0] 82)
  have r2 := World.alloc_heap_new ((W.alloc (.cells #[.int .u32 0, .int .u32 0, .int .u32 0, .int .u32 0, .int .u32 0, .int .u64 0, .int .u64 0, .int .u64 0, .int .u32 0, .int .u32 0, .int .u32 0, .int .u32 0, .int .u32 0, .int .u32 0] 28)).alloc (.cells #[.int .i64 0] 31)) (.cells #[.slice a len cap, .int .i64 0] 82)
  rw [show ((W.alloc (.cells #[.int .u32 0, .int .u32 0, .int .u32 0, .int .u32 0, .int .u32 0, .int .u64 0, .int .u64 0, .int .u64 0, .int .u32 0, .int .u32 0, .int .u32 0, .int .u32 0, .int .u32 0, .int .u32 0] 28)).alloc (.cells #[.int .i64 0] 31)).heap.size = W.heap.size + 2 by simp] at r2
  rw [show (W.alloc (.cells #[.int .u32 0, .int .u32 0, .int .u32 0, .int .u32 0, .int .u32 0, .int .u64 0, .int .u64 0, .int .u64 0, .int .u32 0, .int .u32 0, .int .u32 0, .int .u32 0, .int .u32 0, .int .u32 0] 28)).heap.size = W.heap.size + 1 by simp] at e1
  replace e1 := (Below.heap_alloc ((W.alloc (.cells #[.int .u32 0, .int .u32 0, .int .u32 0, .int .u32 0, .int .u32 0, .int .u64 0, .int .u64 0, .int .u64 0, .int .u32 0, .int .u32 0, .int .u32 0, .int .u32 0, .int .u32 0, .int .u32 0] 28)).alloc (.cells #[.int .i64 0] 31)) (.cells #[.slice a len cap, .int .i64 0] 82) (W.heap.size + 1) (by simp)).trans e1
  replace x0 := (Below.heap_alloc ((W.alloc (.cells #[.int .u32 0, .int .u32 0, .int .u32 0, .int .u32 0, .int .u32 0, .int .u64 0, .int .u64 0, .int .u64 0, .int .u32 0, .int .u32 0, .int .u32 0, .int .u32 0, .int .u32 0, .int .u32 0] 28)).alloc (.cells #[.int .i64 0] 31)) (.cells #[.slice a len cap, .int .i64 0] 82) W.heap.size (by simp; omega)).trans ((Below.heap_alloc (W.alloc (.cells #[.int .u32 0, .int .u32 0, .int .u32 0, .int .u32 0, .int .u32 0, .int .u64 0, .int .u64 0, .int .u64 0, .int .u32 0, .int .u32 0, .int .u32 0, .int .u32 0, .int .u32 0, .int .u32 0] 28)) (.cells #[.int .i64 0] 31) W.heap.size (by simp)).trans x0)
  have R : Rb (((W.alloc (.cells #[.int .u32 0, .int .u32 0, .int .u32 0, .int .u32 0, .int .u32 0, .int .u64 0, .int .u64 0, .int .u64 0, .int .u32 0, .int .u32 0, .int .u32 0, .int .u32 0, .int .u32 0, .int .u32 0] 28)).alloc (.cells #[.int .i64 0] 31)).alloc (.cells #[.slice a len cap, .int .i64 0] 82)) (W.heap.size + 2) a len cap zs ⟨zs, 0, 0⟩ := ⟨r2, on_start zs, hlc, hm, hz, hb, hs.below b2⟩
  go_enter_defers Try.func32, Try.ntmps32
  go_wp2_with fail
  generalize (((W.alloc (.cells #[.int .u32 0, .int .u32 0, .int .u32 0, .int .u32 0, .int .u32 0, .int .u64 0, .int .u64 0, .int .u64 0, .int .u32 0, .int .u32 0, .int .u32 0, .int .u32 0, .int .u32 0, .int .u32 0] 28)).alloc (.cells #[.int .i64 0] 31)).alloc (.cells #[.slice a len cap, .int .i64 0] 82)) = V1 at *
  clear b0 b1 r2 hs
  refine (rdnode_any V1 (W.heap.size + 2) a len cap zs ⟨zs, 0, 0⟩ R rfl).mono ?_
  rintro e V2 ⟨hg, v, s', haft, hc⟩
  obtain ⟨he, hv⟩ := aft_end haft
  rw [hE] at he
  rw [hU, hN] at hv
  clear hE hN hU
  have B2 := b2.grown hg b2.size (fun k e => by have := Option.some.inj e; omega)
  have x2 := (hg.block W.heap.size (Array.getElem?_eq_some_iff.1 x0).1 (fun e => by have := Option.some.inj e; omega)).trans x0
  have e2 := (hg.block (W.heap.size + 1) (Array.getElem?_eq_some_iff.1 e1).1 (fun e => by have := Option.some.inj e; omega)).trans e1
  clear hg x0 e1 b2 R haft
  rcases hc with ⟨h0, rfl, hR⟩ | ⟨h0, rfl⟩
  · obtain ⟨rfl, rfl⟩ := hv h0
    rw [h0] at he
    subst he
    obtain ⟨cs, hcs, hsz, h1, hnu⟩ := attV_row v
    rw [hcs]
    have hi : (Try.prog.info? 28).map (·.size) = some cs.size := by rw [hsz]; exact at_info
    clear hv hbad
    go_wp2_with (refine wpList_store_whole rfl 28 _ _ rfl W.heap.size cs rfl rfl 28 #[.int .u32 0, .int .u32 0, .int .u32 0, .int .u32 0, .int .u32 0, .int .u64 0, .int .u64 0, .int .u64 0, .int .u32 0, .int .u32 0, .int .u32 0, .int .u32 0, .int .u32 0, .int .u32 0] ?_ hi (by rw [hsz]; rfl) h1 ?_; exact x2; intro V3 x3 hg3 hs3)
    have e3 := (hg3.block (W.heap.size + 1) (Array.getElem?_eq_some_iff.1 e2).1 (fun e => by have := Option.some.inj e; omega)).trans e2
    have c3 : V3.cell? ⟨W.heap.size + 2, 1, none⟩ = some (.int .i64 (s'.n : Int)) := by
      have := (hg3.block (W.heap.size + 2) hR.lt (fun e => by have := Option.some.inj e; omega)).trans hR.box
      simp [World.cell?, this]
    have B3 := B2.grown hg3 B2.size (fun k e => by have := Option.some.inj e; omega)
    clear x2 e2 B2 hg3 hs3 hR
    have B4 := B3.drew
    have S4 : V3.drew.heap[W.heap.size]? = some (.cells cs 28) ∧ V3.drew.cell? ⟨W.heap.size + 2, 1, none⟩ = some (.int .i64 (s'.n : Int)) := And.intro x3 c3
    have e4 : V3.drew.heap[W.heap.size + 1]? = _ := e3
    refine wp_region_noPanic ?_
    refine wp_region_held_drew (S := fun w' => w'.heap[W.heap.size]? = some (.cells cs 28) ∧ w'.cell? ⟨W.heap.size + 2, 1, none⟩ = some (.int .i64 (s'.n : Int))) (by kernel_rfl) (by assumption) (fun hHeld => ?_)
    clear x3 c3 e3 B3
    generalize V3.drew = V4 at *
    refine wpAnyH_take (i := 0) (v := .agg cs) rfl (by kernel_rfl) (by kernel_rfl) (by kernel_rfl) (fun _ _ _ h => h) (Or.inl ⟨by rfl, ?y0⟩) (by assumption) ?_
    case y0 => intro w hSw; exact run_load_row _ _ rfl W.heap.size rfl _ _ (0, 0) _ hSw.1 Try.underlying28 rfl hi
    simp only [Act.put, List.getElem_toArray, List.getElem_cons_zero, List.setIfInBounds_toArray, List.set_cons_zero, List.set_cons_succ]
    refine wpAnyH_take (i := 1) (v := ?v1) rfl (by kernel_rfl) (by kernel_rfl) (by kernel_rfl) (fun _ _ _ h => h) (Or.inl ⟨by rfl, ?y1⟩) (by assumption) ?_
    case y1 => intro w hSw; go_simp; first | done | with_reducible rfl
    simp only [Act.put, List.getElem_toArray, List.getElem_cons_zero, List.getElem_cons_succ, List.setIfInBounds_toArray, List.set_cons_zero, List.set_cons_succ]
    refine wpAnyH_take (i := 2) (v := .int .i64 (s'.n : Int)) rfl (by kernel_rfl) (by kernel_rfl) (by kernel_rfl) (fun _ _ _ h => h) (Or.inl ⟨by rfl, ?y2⟩) (by assumption) ?_
    case y2 => intro w hSw; obtain ⟨_, hSw⟩ := hSw; go_simp; first | done | with_reducible rfl
    simp only [Act.put, List.getElem_toArray, List.getElem_cons_zero, List.getElem_cons_succ, List.setIfInBounds_toArray, List.set_cons_zero, List.set_cons_succ]
    refine wpAnyH_ready (rs := [3]) (by kernel_rfl) (by simp) ?_
    refine AllReadyH.cons rfl (fun K hK => ?_) AllReadyH.nil
    rw [if_pos (by rfl)]
    refine wp_store_letter 28 _ _ rfl W.heap.size cs rfl rfl 28 cs S4.1 hi rfl h1 ?_
    intro V5 x5 hg5 hs5
    have e5 := (hg5.block (W.heap.size + 1) (Array.getElem?_eq_some_iff.1 e4).1 (fun e => by have := Option.some.inj e; omega)).trans e4
    have c5 : V5.cell? ⟨W.heap.size + 2, 1, none⟩ = some (.int .i64 (s'.n : Int)) := by
      have hl := World.block_lt_of_cell? _ _ S4.2
      have hb := hg5.block (W.heap.size + 2) hl (fun e => by have := Option.some.inj e; omega)
      have hc := S4.2
      simp only [World.cell?, hb] at hc ⊢
      exact hc
    have B5 := B4.grown hg5 B4.size (fun k e => by have := Option.some.inj e; omega)
    have S5 := And.intro x5 c5
    refine hK.out _ _ S5 (fun hHeld => ?_)
    clear hK K S4 e4 B4 hg5 hs5
    try simp only [Act.put, List.getElem_toArray, List.getElem_cons_zero, List.getElem_cons_succ]
    refine wpAnyH_take (i := 4) (v := ?v4) rfl (by kernel_rfl) (by kernel_rfl) (by kernel_rfl) (fun _ _ _ h => h) (Or.inl ⟨by rfl, ?y4⟩) (by assumption) ?_
    case y4 => intro w hSw; go_simp; first | done | with_reducible rfl
    simp only [Act.put, List.getElem_toArray, List.getElem_cons_zero, List.getElem_cons_succ, List.setIfInBounds_toArray, List.set_cons_zero, List.set_cons_succ]
    refine wpAnyH_ready (rs := [5]) (by kernel_rfl) (by simp) ?_
    refine AllReadyH.cons rfl (fun K hK => ?_) AllReadyH.nil
    rw [if_pos (by rfl)]
    refine wp_field_letter 31 _ _ rfl (W.heap.size + 1) 0 (.int .i64 0) rfl rfl 31 _ e5 sz_err (by simp) rfl #[.int .i64 0] rfl ?_
    intro V6 e6 hg6 hs6
    have x6 := (hg6.block W.heap.size (Array.getElem?_eq_some_iff.1 x5).1 (fun e => by have := Option.some.inj e; omega)).trans x5
    have c6 : V6.cell? ⟨W.heap.size + 2, 1, none⟩ = some (.int .i64 (s'.n : Int)) := by
      have hl := World.block_lt_of_cell? _ _ c5
      have hb := hg6.block (W.heap.size + 2) hl (fun e => by have := Option.some.inj e; omega)
      simp only [World.cell?, hb] at c5 ⊢
      exact c5
    have B6 := B5.grown hg6 B5.size (fun k e => by have := Option.some.inj e; omega)
    have S6 := And.intro x6 c6
    refine hK.out _ _ S6 (fun hHeld => ?_)
    clear hK K S5 e5 B5 hg6 hs6 x5 c5
    try simp only [Act.put, List.getElem_toArray, List.getElem_cons_zero, List.getElem_cons_succ]
    refine wpAnyH_done (by kernel_rfl) ?_ _
    refine NoPanic.normal ?_
    go_wp2
    refine leaves_cons (f := 47) (args := #[.pointer (some ⟨W.heap.size + 1, 0, none⟩)]) (by simp) (by simp [go_sem]) ?_
    refine (idle_geta ⟨W.heap.size + 1, 0, none⟩ 0 V6 (by simp [World.cell?, e6]) (by simp [World.frozen?, e6])).mono ?_
    rintro e u' V7 ⟨rfl, rfl, rfl⟩
    have e7 := setCell_same (k := 0) e6 (.int .i64 0)
    have g7 := grown_cell V6 (W.heap.size + 1) 0 (.int .i64 0)
    have x7 := (g7.block W.heap.size (Array.getElem?_eq_some_iff.1 x6).1 (fun e => by have := Option.some.inj e; omega)).trans x6
    have B7 := B6.grown g7 B6.size (fun k e => by have := Option.some.inj e; omega)
    exact ⟨_, results_row_tmp_cell rfl _ _ W.heap.size (W.heap.size + 1) 28 cs (0, 0) _ (.int .i64 0) (by rfl) (by rfl) x7 Try.underlying28 rfl hi (load_err e7), by rw [hcs]; rfl, B7⟩
  · subst he
    obtain ⟨rfl, rfl⟩ := hbad h0
    clear hv hbad
    go_wp2
    refine leaves_cons (f := 47) (args := #[.pointer (some ⟨W.heap.size + 1, 0, none⟩)]) (by simp) (by simp [go_sem]) ?_
    refine (caught_geta ⟨W.heap.size + 1, 0, none⟩ 0 s'.e [] V2 (by simp [World.cell?, e2]) (by simp [World.frozen?, e2])).mono ?_
    rintro e u' V7 ⟨rfl, rfl, rfl⟩
    have e7 := setCell_same (k := 0) e2 (.int .i64 s'.e)
    have g7 := grown_cell V2 (W.heap.size + 1) 0 (.int .i64 s'.e)
    have x7 := (g7.block W.heap.size (Array.getElem?_eq_some_iff.1 x2).1 (fun e => by have := Option.some.inj e; omega)).trans x2
    have B7 := B2.grown g7 B2.size (fun k e => by have := Option.some.inj e; omega)
    exact ⟨_, results_row_tmp_cell rfl _ _ W.heap.size (W.heap.size + 1) 28 #[.int .u32 0, .int .u32 0, .int .u32 0, .int .u32 0, .int .u32 0, .int .u64 0, .int .u64 0, .int .u64 0, .int .u32 0, .int .u32 0, .int .u32 0, .int .u32 0, .int .u32 0, .int .u32 0] (0, 0) _ (.int .i64 s'.e) (by rfl) (by rfl) x7 Try.underlying28 rfl at_info (load_err e7), rfl, B7⟩

set_option maxRecDepth 100000 in
set_option maxHeartbeats 2000000 in
theorem aget_any : AGet 16 := by
  intro a len cap zs w hlc hm hz hb hs
  have hB0 : Below w.heap.size w (w.alloc (.cells #[.int .u32 0, .int .u32 0, .int .u32 0, .int .u32 0, .int .u32 0, .int .u64 0, .int .u64 0, .int .u64 0, .int .u32 0, .int .u32 0, .int .u32 0, .int .u32 0, .int .u32 0, .int .u32 0] 28)) := (Below.refl _ _).alloc (Nat.le_refl _) _
  have x0 := World.alloc_heap_new w (.cells #[.int .u32 0, .int .u32 0, .int .u32 0, .int .u32 0, .int .u32 0, .int .u64 0, .int .u64 0, .int .u64 0, .int .u32 0, .int .u32 0, .int .u32 0, .int .u32 0, .int .u32 0, .int .u32 0] 28)
  have hg := fun W hS => geta_any a len cap zs W hlc hm hz hb hS
  obtain ⟨V, hV⟩ : ∃ V, V = attrC.gV zs := ⟨_, rfl⟩
  rw [← hV] at hg
  generalize attrC.gN zs = N at *
  generalize attrC.gE zs = E at *
  obtain ⟨cs, hcs, hsz, h1, -⟩ := attV_row V
  rw [hcs] at hg
  have hi : (Try.prog.info? 28).map (·.size) = some cs.size := by rw [hsz]; exact at_info
  go_enter Try.func16, Try.ntmps16
  go_wp2_with fail
  generalize (w.alloc (.cells #[.int .u32 0, .int .u32 0, .int .u32 0, .int .u32 0, .int .u32 0, .int .u64 0, .int .u64 0, .int .u64 0, .int .u32 0, .int .u32 0, .int .u32 0, .int .u32 0, .int .u32 0, .int .u32 0] 28)) = W1 at *
  refine (hg W1 (hs.below hB0)).mono ?_
  rintro e W2 ⟨rfl, hb2⟩
  have hB2 := hB0.trans (hb2.mono hB0.size)
  have x2 := (hb2.block _ (Array.getElem?_eq_some_iff.1 x0).1).trans x0
  clear hg hs x0 hB0 hb2
  go_wp2_with (refine wpList_store_whole rfl 28 _ _ rfl w.heap.size cs rfl rfl 28 #[.int .u32 0, .int .u32 0, .int .u32 0, .int .u32 0, .int .u32 0, .int .u64 0, .int .u64 0, .int .u64 0, .int .u32 0, .int .u32 0, .int .u32 0, .int .u32 0, .int .u32 0, .int .u32 0] ?_ hi (by rw [hsz]; rfl) h1 ?_; exact x2; intro W3 x3 hg3 hs3)
  refine bodyPost_ret (results_row_tmp2 (p := 2) (u := 3) (v := 4) (ty := 28) rfl _ _ w.heap.size 28 cs (0, 0) _ (by rfl) x3 Try.underlying28 rfl hi) rfl ?_
  have hcs' : .agg #[.int .u32 V.kind, .int .u32 V.mode, .int .u32 V.links, .int .u32 V.user, .int .u32 V.group, .int .u64 V.size, .int .u64 V.used, .int .u64 V.id, .int .u32 V.rs, .int .u32 V.rn, .int .u32 V.ws, .int .u32 V.wn, .int .u32 V.ts, .int .u32 V.tn] = Value.agg cs := hcs
  exact ⟨V, hV, by rw [hcs']; rfl, hB2.grown hg3 hB2.size (fun k e => by have := Option.some.inj e; omega)⟩
end Go.Proofs.Ytecbhhfncklefac
