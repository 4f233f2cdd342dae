/- 'weak' of the reader: what was told ahead and behind, next; nothing but the reader turns. -/
import Derived.Test.YtecbhhfncklefabStoreFieldPBoxMx
import Derived.Test.YtecbhhfncklefabPPerAMx
namespace Go.Proofs.Ytecbhhfncklefab
set_option linter.unusedVariables false
open Go.RowKit

theorem wk_info : (Try.prog.info? 46).map (·.size) = some 21 := by kernel_rfl
theorem keep5g {W W' : World} {q p : Nat} {x0 x1 x2 x3 x4 : Value} (hne : p ≠ q) (hg : W.grownBy W' (some q)) (h : W.cell? ⟨p, 0, none⟩ = some x0 ∧ W.cell? ⟨p, 1, none⟩ = some x1 ∧ W.cell? ⟨p, 2, none⟩ = some x2 ∧ W.cell? ⟨p, 3, none⟩ = some x3 ∧ W.cell? ⟨p, 4, none⟩ = some x4) :
    W'.cell? ⟨p, 0, none⟩ = some x0 ∧ W'.cell? ⟨p, 1, none⟩ = some x1 ∧ W'.cell? ⟨p, 2, none⟩ = some x2 ∧ W'.cell? ⟨p, 3, none⟩ = some x3 ∧ W'.cell? ⟨p, 4, none⟩ = some x4 := by
  have hb := hg.block p (World.block_lt_of_cell? _ _ h.1) (fun e => hne (Option.some.inj e))
  simp only [World.cell?, hb] at h ⊢
  exact h
def wkV (x : Wk) : Value := .agg #[.bool x.hb, .int .u64 x.size, .int .u32 x.ws, .int .u32 x.wn, .int .u32 x.ts, .int .u32 x.tn, .bool x.ha, .int .u32 x.af.kind, .int .u32 x.af.mode, .int .u32 x.af.links, .int .u32 x.af.user, .int .u32 x.af.group, .int .u64 x.af.size, .int .u64 x.af.used, .int .u64 x.af.id, .int .u32 x.af.rs, .int .u32 x.af.rn, .int .u32 x.af.ws, .int .u32 x.af.wn, .int .u32 x.af.ts, .int .u32 x.af.tn]

set_option maxRecDepth 100000 in
set_option maxHeartbeats 8000000 in
theorem rdweak_any : Reads 36 weakC wkV := by
  intro W h a len cap zs s R he
  have hqh : W.heap.size ≠ h := Nat.ne_of_gt R.lt
  have hB1 : Below W.heap.size W (W.alloc (.cells #[.bool false, .int .u64 0, .int .u32 0, .int .u32 0, .int .u32 0, .int .u32 0, .bool false, .int .u32 0, .int .u32 0, .int .u32 0, .int .u32 0, .int .u32 0, .int .u64 0, .int .u64 0, .int .u64 0, .int .u32 0, .int .u32 0, .int .u32 0, .int .u32 0, .int .u32 0, .int .u32 0] 46)) := (Below.refl _ _).alloc (Nat.le_refl _) _
  have N0 : Nd W h a len cap zs W.heap.size 46 (W.alloc (.cells #[.bool false, .int .u64 0, .int .u32 0, .int .u32 0, .int .u32 0, .int .u32 0, .bool false, .int .u32 0, .int .u32 0, .int .u32 0, .int .u32 0, .int .u32 0, .int .u64 0, .int .u64 0, .int .u64 0, .int .u32 0, .int .u32 0, .int .u32 0, .int .u32 0, .int .u32 0, .int .u32 0] 46)) s #[.bool false, .int .u64 0, .int .u32 0, .int .u32 0, .int .u32 0, .int .u32 0, .bool false, .int .u32 0, .int .u32 0, .int .u32 0, .int .u32 0, .int .u32 0, .int .u64 0, .int .u64 0, .int .u64 0, .int .u32 0, .int .u32 0, .int .u32 0, .int .u32 0, .int .u32 0, .int .u32 0] := ⟨grown_below hB1 _, R.next hB1, World.alloc_heap_new W _⟩
  have hsz : (W.alloc (.cells #[.bool false, .int .u64 0, .int .u32 0, .int .u32 0, .int .u32 0, .int .u32 0, .bool false, .int .u32 0, .int .u32 0, .int .u32 0, .int .u32 0, .int .u32 0, .int .u64 0, .int .u64 0, .int .u64 0, .int .u32 0, .int .u32 0, .int .u32 0, .int .u32 0, .int .u32 0, .int .u32 0] 46)).heap.size = W.heap.size + 1 := by simp
  have hlth := R.lt
  clear R hB1
  go_enter Try.func36, Try.ntmps36
  go_wp2_with fail
  generalize (W.alloc (.cells #[.bool false, .int .u64 0, .int .u32 0, .int .u32 0, .int .u32 0, .int .u32 0, .bool false, .int .u32 0, .int .u32 0, .int .u32 0, .int .u32 0, .int .u32 0, .int .u64 0, .int .u64 0, .int .u64 0, .int .u32 0, .int .u32 0, .int .u32 0, .int .u32 0, .int .u32 0, .int .u32 0] 46)) = U0 at *
  have hbp : Below U0.heap.size U0 (U0.alloc (.cells #[.int .u64 0, .int .u32 0, .int .u32 0, .int .u32 0, .int .u32 0] 75)) := (Below.refl _ _).alloc (Nat.le_refl _) _
  have N1 := N0.next hbp
  have p1 := World.alloc_heap_new U0 (.cells #[.int .u64 0, .int .u32 0, .int .u32 0, .int .u32 0, .int .u32 0] 75)
  rw [hsz] at p1
  have hpq : W.heap.size + 1 ≠ W.heap.size := by omega
  have hph : W.heap.size + 1 ≠ h := by omega
  have hp0 : W.heap.size ≤ W.heap.size + 1 := by omega
  have hplt : W.heap.size + 1 < (U0.alloc (.cells #[.int .u64 0, .int .u32 0, .int .u32 0, .int .u32 0, .int .u32 0] 75)).heap.size := by simp [hsz]
  clear N0 hbp hsz hlth
  generalize (U0.alloc (.cells #[.int .u64 0, .int .u32 0, .int .u32 0, .int .u32 0, .int .u32 0] 75)) = V1 at *
  refine (pernp_any V1 h a len cap zs s N1.R he).mono ?_
  rintro e V2 ⟨hg, v1, s1, aft1, ⟨h1, rfl, hR⟩ | ⟨h1, rfl⟩⟩
  rotate_left
  · have hG := N1.g.trans hg
    have hd : Aft weakC s _ s1 := aft_iso (aft_seq aft1 (aft_stick (c := optC attrC) h1 (optC attrC).zero))
    clear N1 hg
    go_wp2
    exact ⟨rfl, hG, _, _, hd, .inr ⟨h1, rfl⟩⟩
  have N2 := N1.call hqh hg hR
  have p2 := (hg.block (W.heap.size + 1) hplt (fun e => hph (Option.some.inj e))).trans p1
  clear hg hR N1 p1 hplt
  unfold pasV
  have c0 : V2.cell? ⟨W.heap.size, 0, none⟩ = some (.bool false) := by simp [World.cell?, N2.z]
  have f0 : V2.frozen? ⟨W.heap.size, 0, none⟩ = false := by simp [World.frozen?, N2.z]
  have M0 : Nd W h a len cap zs W.heap.size 46 (V2.setCell ⟨W.heap.size, 0, none⟩ (.bool v1.1)) s1 #[.bool v1.1, .int .u64 0, .int .u32 0, .int .u32 0, .int .u32 0, .int .u32 0, .bool false, .int .u32 0, .int .u32 0, .int .u32 0, .int .u32 0, .int .u32 0, .int .u64 0, .int .u64 0, .int .u64 0, .int .u32 0, .int .u32 0, .int .u32 0, .int .u32 0, .int .u32 0, .int .u32 0] := N2.store hqh (Nat.le_refl _) (by simp [noU8]) (setCell_same (k := 0) N2.z _) (grown_cell _ _ _ _)
  have p3 : (V2.setCell ⟨W.heap.size, 0, none⟩ (.bool v1.1)).heap[W.heap.size + 1]? = some (.cells #[.int .u64 0, .int .u32 0, .int .u32 0, .int .u32 0, .int .u32 0] 75) := ((grown_cell V2 W.heap.size 0 (.bool v1.1)).block (W.heap.size + 1) (Array.getElem?_eq_some_iff.1 p2).1 (fun e => hpq (Option.some.inj e))).trans p2
  clear N2 p2
  go_wp2_with (refine wpList_store_whole rfl 75 _ _ rfl (W.heap.size + 1) #[.int .u64 v1.2.1, .int .u32 v1.2.2.1.1, .int .u32 v1.2.2.1.2, .int .u32 v1.2.2.2.1, .int .u32 v1.2.2.2.2] rfl rfl 75 #[.int .u64 0, .int .u32 0, .int .u32 0, .int .u32 0, .int .u32 0] ?_ past_size rfl (by simp [Value.oneCell']) ?_; exact p3; intro V3 p4 hg4 hs4)
  have N4 := M0.far hph hpq hp0 p3 (by simp [noU8]) hg4
  clear M0 p3 c0 f0 hg4 hs4
  have d0 : V3.cell? ⟨W.heap.size + 1, 0, none⟩ = some (.int .u64 v1.2.1) := by simp [World.cell?, p4]
  have d1 : V3.cell? ⟨W.heap.size + 1, 1, none⟩ = some (.int .u32 v1.2.2.1.1) := by simp [World.cell?, p4]
  have d2 : V3.cell? ⟨W.heap.size + 1, 2, none⟩ = some (.int .u32 v1.2.2.1.2) := by simp [World.cell?, p4]
  have d3 : V3.cell? ⟨W.heap.size + 1, 3, none⟩ = some (.int .u32 v1.2.2.2.1) := by simp [World.cell?, p4]
  have d4 : V3.cell? ⟨W.heap.size + 1, 4, none⟩ = some (.int .u32 v1.2.2.2.2) := by simp [World.cell?, p4]
  have hqp : W.heap.size + 1 ≠ W.heap.size := by omega
  clear he hpq hph hp0 p4
  have N5 := N4.next (below_draw V3)
  have S0 : V3.drew.cell? ⟨W.heap.size + 1, 0, none⟩ = some (.int .u64 v1.2.1) ∧ V3.drew.cell? ⟨W.heap.size + 1, 1, none⟩ = some (.int .u32 v1.2.2.1.1) ∧ V3.drew.cell? ⟨W.heap.size + 1, 2, none⟩ = some (.int .u32 v1.2.2.1.2) ∧ V3.drew.cell? ⟨W.heap.size + 1, 3, none⟩ = some (.int .u32 v1.2.2.2.1) ∧ V3.drew.cell? ⟨W.heap.size + 1, 4, none⟩ = some (.int .u32 v1.2.2.2.2) := And.intro d0 (And.intro d1 (And.intro d2 (And.intro d3 d4)))
  clear N4 d0 d1 d2 d3 d4
  refine wp_region_held_drew (S := fun w' => w'.cell? ⟨W.heap.size + 1, 0, none⟩ = some (.int .u64 v1.2.1) ∧ w'.cell? ⟨W.heap.size + 1, 1, none⟩ = some (.int .u32 v1.2.2.1.1) ∧ w'.cell? ⟨W.heap.size + 1, 2, none⟩ = some (.int .u32 v1.2.2.1.2) ∧ w'.cell? ⟨W.heap.size + 1, 3, none⟩ = some (.int .u32 v1.2.2.2.1) ∧ w'.cell? ⟨W.heap.size + 1, 4, none⟩ = some (.int .u32 v1.2.2.2.2)) (by kernel_rfl) (by assumption) (fun hHeld => ?_)
  generalize V3.drew = X5 at *
  refine wpAnyH_take (i := 0) (v := ?v0) rfl (by kernel_rfl) (by kernel_rfl) (by kernel_rfl) (fun _ _ _ h => h) (Or.inl ⟨by rfl, ?y0⟩) (by assumption) ?r0
  case y0 => intro w hSw; go_simp; first | done | with_reducible rfl
  simp only [Act.put, List.getElem_toArray, List.getElem_cons_zero, List.setIfInBounds_toArray, List.set_cons_zero, List.set_cons_succ]
  refine wpAnyH_take (i := 1) (v := ?v1) rfl (by kernel_rfl) (by kernel_rfl) (by kernel_rfl) (fun _ _ _ h => h) (Or.inl ⟨by rfl, ?y1⟩) (by assumption) ?r1
  case y1 => intro w hSw; go_simp; first | done | with_reducible rfl
  simp only [Act.put, List.getElem_toArray, List.getElem_cons_zero, List.getElem_cons_succ, List.setIfInBounds_toArray, List.set_cons_zero, List.set_cons_succ]
  refine wpAnyH_take (i := 2) (v := ?v2) rfl (by kernel_rfl) (by kernel_rfl) (by kernel_rfl) (fun _ _ _ h => h) (Or.inl ⟨by rfl, ?y2⟩) (by assumption) ?r2
  case y2 => intro w hSw; go_simp; first | done | with_reducible rfl
  simp only [Act.put, List.getElem_toArray, List.getElem_cons_zero, List.getElem_cons_succ, List.setIfInBounds_toArray, List.set_cons_zero, List.set_cons_succ]
  refine wpAnyH_take (i := 3) (v := ?v3) rfl (by kernel_rfl) (by kernel_rfl) (by kernel_rfl) (fun _ _ _ h => h) (Or.inl ⟨by rfl, ?y3⟩) (by assumption) ?r3
  case y3 => intro w hSw; go_simp; first | done | with_reducible rfl
  simp only [Act.put, List.getElem_toArray, List.getElem_cons_zero, List.getElem_cons_succ, List.setIfInBounds_toArray, List.set_cons_zero, List.set_cons_succ]
  refine wpAnyH_take (i := 4) (v := ?v4) rfl (by kernel_rfl) (by kernel_rfl) (by kernel_rfl) (fun _ _ _ h => h) (Or.inl ⟨by rfl, ?y4⟩) (by assumption) ?r4
  case y4 => intro w hSw; go_simp; first | done | with_reducible rfl
  simp only [Act.put, List.getElem_toArray, List.getElem_cons_zero, List.getElem_cons_succ, List.setIfInBounds_toArray, List.set_cons_zero, List.set_cons_succ]
  refine wpAnyH_take (i := 5) (v := ?v5) rfl (by kernel_rfl) (by kernel_rfl) (by kernel_rfl) (fun _ _ _ h => h) (Or.inl ⟨by rfl, ?y5⟩) (by assumption) ?r5
  case y5 => intro w hSw; go_simp; first | done | with_reducible rfl
  simp only [Act.put, List.getElem_toArray, List.getElem_cons_zero, List.getElem_cons_succ, List.setIfInBounds_toArray, List.set_cons_zero, List.set_cons_succ]
  refine wpAnyH_take (i := 6) (v := ?v6) rfl (by kernel_rfl) (by kernel_rfl) (by kernel_rfl) (fun _ _ _ h => h) (Or.inl ⟨by rfl, ?y6⟩) (by assumption) ?r6
  case y6 => intro w hSw; go_simp; first | done | with_reducible rfl
  simp only [Act.put, List.getElem_toArray, List.getElem_cons_zero, List.getElem_cons_succ, List.setIfInBounds_toArray, List.set_cons_zero, List.set_cons_succ]
  refine wpAnyH_ready (rs := [7]) (by kernel_rfl) (by simp) ?_
  refine AllReadyH.cons rfl (fun K hK => ?_) AllReadyH.nil
  rw [if_pos (by rfl)]
  refine wp_field_letter 24 _ _ rfl W.heap.size 1 (.int .u64 v1.2.1) rfl rfl 46 _ N5.z sz_u64 (by simp) rfl #[.bool v1.1, .int .u64 v1.2.1, .int .u32 0, .int .u32 0, .int .u32 0, .int .u32 0, .bool false, .int .u32 0, .int .u32 0, .int .u32 0, .int .u32 0, .int .u32 0, .int .u64 0, .int .u64 0, .int .u64 0, .int .u32 0, .int .u32 0, .int .u32 0, .int .u32 0, .int .u32 0, .int .u32 0] rfl ?_
  intro X6 hr hg hs
  have N6 := N5.store hqh (Nat.le_refl _) (by simp [noU8]) hr hg
  have S6 := keep5g hqp hg (by assumption)
  refine hK.out _ _ S6 (fun hHeld => ?_)
  clear hK K hr hs hg N5
  try simp only [Act.put, List.getElem_toArray, List.getElem_cons_zero, List.getElem_cons_succ]
  refine wpAnyH_take (i := 8) (v := ?v8) rfl (by kernel_rfl) (by kernel_rfl) (by kernel_rfl) (fun _ _ _ h => h) (Or.inl ⟨by rfl, ?y8⟩) (by assumption) ?r8
  case y8 => intro w hSw; go_simp; first | done | with_reducible rfl
  simp only [Act.put, List.getElem_toArray, List.getElem_cons_zero, List.getElem_cons_succ, List.setIfInBounds_toArray, List.set_cons_zero, List.set_cons_succ]
  refine wpAnyH_ready (rs := [9]) (by kernel_rfl) (by simp) ?_
  refine AllReadyH.cons rfl (fun K hK => ?_) AllReadyH.nil
  rw [if_pos (by rfl)]
  refine wp_part_letter 26 _ _ rfl W.heap.size 2 [.int .u32 v1.2.2.1.1, .int .u32 v1.2.2.1.2] rfl rfl 46 _ N6.z time_size (by simp) (by simp [Value.oneCell']) #[.bool v1.1, .int .u64 v1.2.1, .int .u32 v1.2.2.1.1, .int .u32 v1.2.2.1.2, .int .u32 0, .int .u32 0, .bool false, .int .u32 0, .int .u32 0, .int .u32 0, .int .u32 0, .int .u32 0, .int .u64 0, .int .u64 0, .int .u64 0, .int .u32 0, .int .u32 0, .int .u32 0, .int .u32 0, .int .u32 0, .int .u32 0] rfl ?_
  intro X7 hr hg hs
  have N7 := N6.store hqh (Nat.le_refl _) (by simp [noU8]) hr hg
  have S7 := keep5g hqp hg (by assumption)
  refine hK.out _ _ S7 (fun hHeld => ?_)
  clear hK K hr hs hg N6
  try simp only [Act.put, List.getElem_toArray, List.getElem_cons_zero, List.getElem_cons_succ]
  refine wpAnyH_take (i := 10) (v := ?v10) rfl (by kernel_rfl) (by kernel_rfl) (by kernel_rfl) (fun _ _ _ h => h) (Or.inl ⟨by rfl, ?y10⟩) (by assumption) ?r10
  case y10 => intro w hSw; go_simp; first | done | with_reducible rfl
  simp only [Act.put, List.getElem_toArray, List.getElem_cons_zero, List.getElem_cons_succ, List.setIfInBounds_toArray, List.set_cons_zero, List.set_cons_succ]
  refine wpAnyH_ready (rs := [11]) (by kernel_rfl) (by simp) ?_
  refine AllReadyH.cons rfl (fun K hK => ?_) AllReadyH.nil
  rw [if_pos (by rfl)]
  refine wp_part_letter 26 _ _ rfl W.heap.size 4 [.int .u32 v1.2.2.2.1, .int .u32 v1.2.2.2.2] rfl rfl 46 _ N7.z time_size (by simp) (by simp [Value.oneCell']) #[.bool v1.1, .int .u64 v1.2.1, .int .u32 v1.2.2.1.1, .int .u32 v1.2.2.1.2, .int .u32 v1.2.2.2.1, .int .u32 v1.2.2.2.2, .bool false, .int .u32 0, .int .u32 0, .int .u32 0, .int .u32 0, .int .u32 0, .int .u64 0, .int .u64 0, .int .u64 0, .int .u32 0, .int .u32 0, .int .u32 0, .int .u32 0, .int .u32 0, .int .u32 0] rfl ?_
  intro X8 hr hg hs
  have N8 := N7.store hqh (Nat.le_refl _) (by simp [noU8]) hr hg
  have S8 := keep5g hqp hg (by assumption)
  refine hK.out _ _ S8 (fun hHeld => ?_)
  clear hK K hr hs hg N7
  try simp only [Act.put, List.getElem_toArray, List.getElem_cons_zero, List.getElem_cons_succ]
  refine wpAnyH_done (by kernel_rfl) ?_ _
  clear S0 S6 S7 S8
  go_wp2_with fail
  refine (perna_any X8 h a len cap zs s1 N8.R h1).mono ?_
  rintro e V9 ⟨hg, v2, s2, aft2, ⟨h2, rfl, hR⟩ | ⟨h2, rfl⟩⟩
  rotate_left
  · have hG := N8.g.trans hg
    have hd : Aft weakC s _ s2 := aft_iso (aft_seq aft1 aft2)
    clear N8 hg
    go_wp2
    exact ⟨rfl, hG, _, _, hd, .inr ⟨h2, rfl⟩⟩
  have N9 := N8.call hqh hg hR
  have hd : Aft weakC s (ofRawW (v1, v2)) s2 := aft_iso (aft_seq aft1 aft2)
  clear hg hR N8 aft1 aft2
  unfold attV
  have c6 : V9.cell? ⟨W.heap.size, 6, none⟩ = some (.bool false) := by simp [World.cell?, N9.z]
  have f6 : V9.frozen? ⟨W.heap.size, 6, none⟩ = false := by simp [World.frozen?, N9.z]
  have c7 : V9.cell? ⟨W.heap.size, 7, none⟩ = some (.int .u32 0) := by simp [World.cell?, N9.z]
  have f7 : V9.frozen? ⟨W.heap.size, 7, none⟩ = false := by simp [World.frozen?, N9.z]
  have c8 : V9.cell? ⟨W.heap.size, 8, none⟩ = some (.int .u32 0) := by simp [World.cell?, N9.z]
  have f8 : V9.frozen? ⟨W.heap.size, 8, none⟩ = false := by simp [World.frozen?, N9.z]
  have c9 : V9.cell? ⟨W.heap.size, 9, none⟩ = some (.int .u32 0) := by simp [World.cell?, N9.z]
  have f9 : V9.frozen? ⟨W.heap.size, 9, none⟩ = false := by simp [World.frozen?, N9.z]
  have c10 : V9.cell? ⟨W.heap.size, 10, none⟩ = some (.int .u32 0) := by simp [World.cell?, N9.z]
  have f10 : V9.frozen? ⟨W.heap.size, 10, none⟩ = false := by simp [World.frozen?, N9.z]
  have c11 : V9.cell? ⟨W.heap.size, 11, none⟩ = some (.int .u32 0) := by simp [World.cell?, N9.z]
  have f11 : V9.frozen? ⟨W.heap.size, 11, none⟩ = false := by simp [World.frozen?, N9.z]
  have c12 : V9.cell? ⟨W.heap.size, 12, none⟩ = some (.int .u64 0) := by simp [World.cell?, N9.z]
  have f12 : V9.frozen? ⟨W.heap.size, 12, none⟩ = false := by simp [World.frozen?, N9.z]
  have c13 : V9.cell? ⟨W.heap.size, 13, none⟩ = some (.int .u64 0) := by simp [World.cell?, N9.z]
  have f13 : V9.frozen? ⟨W.heap.size, 13, none⟩ = false := by simp [World.frozen?, N9.z]
  have c14 : V9.cell? ⟨W.heap.size, 14, none⟩ = some (.int .u64 0) := by simp [World.cell?, N9.z]
  have f14 : V9.frozen? ⟨W.heap.size, 14, none⟩ = false := by simp [World.frozen?, N9.z]
  have c15 : V9.cell? ⟨W.heap.size, 15, none⟩ = some (.int .u32 0) := by simp [World.cell?, N9.z]
  have f15 : V9.frozen? ⟨W.heap.size, 15, none⟩ = false := by simp [World.frozen?, N9.z]
  have c16 : V9.cell? ⟨W.heap.size, 16, none⟩ = some (.int .u32 0) := by simp [World.cell?, N9.z]
  have f16 : V9.frozen? ⟨W.heap.size, 16, none⟩ = false := by simp [World.frozen?, N9.z]
  have c17 : V9.cell? ⟨W.heap.size, 17, none⟩ = some (.int .u32 0) := by simp [World.cell?, N9.z]
  have f17 : V9.frozen? ⟨W.heap.size, 17, none⟩ = false := by simp [World.frozen?, N9.z]
  have c18 : V9.cell? ⟨W.heap.size, 18, none⟩ = some (.int .u32 0) := by simp [World.cell?, N9.z]
  have f18 : V9.frozen? ⟨W.heap.size, 18, none⟩ = false := by simp [World.frozen?, N9.z]
  have c19 : V9.cell? ⟨W.heap.size, 19, none⟩ = some (.int .u32 0) := by simp [World.cell?, N9.z]
  have f19 : V9.frozen? ⟨W.heap.size, 19, none⟩ = false := by simp [World.frozen?, N9.z]
  have c20 : V9.cell? ⟨W.heap.size, 20, none⟩ = some (.int .u32 0) := by simp [World.cell?, N9.z]
  have f20 : V9.frozen? ⟨W.heap.size, 20, none⟩ = false := by simp [World.frozen?, N9.z]
  have M0 : Nd W h a len cap zs W.heap.size 46 (V9.setCell ⟨W.heap.size, 6, none⟩ (.bool v2.1)) s2 #[.bool v1.1, .int .u64 v1.2.1, .int .u32 v1.2.2.1.1, .int .u32 v1.2.2.1.2, .int .u32 v1.2.2.2.1, .int .u32 v1.2.2.2.2, .bool v2.1, .int .u32 0, .int .u32 0, .int .u32 0, .int .u32 0, .int .u32 0, .int .u64 0, .int .u64 0, .int .u64 0, .int .u32 0, .int .u32 0, .int .u32 0, .int .u32 0, .int .u32 0, .int .u32 0] := N9.store hqh (Nat.le_refl _) (by simp [noU8]) (setCell_same (k := 6) N9.z _) (grown_cell _ _ _ _)
  have M1 : Nd W h a len cap zs W.heap.size 46 ((V9.setCell ⟨W.heap.size, 6, none⟩ (.bool v2.1)).setCell ⟨W.heap.size, 7, none⟩ (.int .u32 v2.2.kind)) s2 #[.bool v1.1, .int .u64 v1.2.1, .int .u32 v1.2.2.1.1, .int .u32 v1.2.2.1.2, .int .u32 v1.2.2.2.1, .int .u32 v1.2.2.2.2, .bool v2.1, .int .u32 v2.2.kind, .int .u32 0, .int .u32 0, .int .u32 0, .int .u32 0, .int .u64 0, .int .u64 0, .int .u64 0, .int .u32 0, .int .u32 0, .int .u32 0, .int .u32 0, .int .u32 0, .int .u32 0] := M0.store hqh (Nat.le_refl _) (by simp [noU8]) (setCell_same (k := 7) M0.z _) (grown_cell _ _ _ _)
  clear M0
  have M2 : Nd W h a len cap zs W.heap.size 46 (((V9.setCell ⟨W.heap.size, 6, none⟩ (.bool v2.1)).setCell ⟨W.heap.size, 7, none⟩ (.int .u32 v2.2.kind)).setCell ⟨W.heap.size, 8, none⟩ (.int .u32 v2.2.mode)) s2 #[.bool v1.1, .int .u64 v1.2.1, .int .u32 v1.2.2.1.1, .int .u32 v1.2.2.1.2, .int .u32 v1.2.2.2.1, .int .u32 v1.2.2.2.2, .bool v2.1, .int .u32 v2.2.kind, .int .u32 v2.2.mode, .int .u32 0, .int .u32 0, .int .u32 0, .int .u64 0, .int .u64 0, .int .u64 0, .int .u32 0, .int .u32 0, .int .u32 0, .int .u32 0, .int .u32 0, .int .u32 0] := M1.store hqh (Nat.le_refl _) (by simp [noU8]) (setCell_same (k := 8) M1.z _) (grown_cell _ _ _ _)
  clear M1
  have M3 : Nd W h a len cap zs W.heap.size 46 ((((V9.setCell ⟨W.heap.size, 6, none⟩ (.bool v2.1)).setCell ⟨W.heap.size, 7, none⟩ (.int .u32 v2.2.kind)).setCell ⟨W.heap.size, 8, none⟩ (.int .u32 v2.2.mode)).setCell ⟨W.heap.size, 9, none⟩ (.int .u32 v2.2.links)) s2 #[.bool v1.1, .int .u64 v1.2.1, .int .u32 v1.2.2.1.1, .int .u32 v1.2.2.1.2, .int .u32 v1.2.2.2.1, .int .u32 v1.2.2.2.2, .bool v2.1, .int .u32 v2.2.kind, .int .u32 v2.2.mode, .int .u32 v2.2.links, .int .u32 0, .int .u32 0, .int .u64 0, .int .u64 0, .int .u64 0, .int .u32 0, .int .u32 0, .int .u32 0, .int .u32 0, .int .u32 0, .int .u32 0] := M2.store hqh (Nat.le_refl _) (by simp [noU8]) (setCell_same (k := 9) M2.z _) (grown_cell _ _ _ _)
  clear M2
  have M4 : Nd W h a len cap zs W.heap.size 46 (((((V9.setCell ⟨W.heap.size, 6, none⟩ (.bool v2.1)).setCell ⟨W.heap.size, 7, none⟩ (.int .u32 v2.2.kind)).setCell ⟨W.heap.size, 8, none⟩ (.int .u32 v2.2.mode)).setCell ⟨W.heap.size, 9, none⟩ (.int .u32 v2.2.links)).setCell ⟨W.heap.size, 10, none⟩ (.int .u32 v2.2.user)) s2 #[.bool v1.1, .int .u64 v1.2.1, .int .u32 v1.2.2.1.1, .int .u32 v1.2.2.1.2, .int .u32 v1.2.2.2.1, .int .u32 v1.2.2.2.2, .bool v2.1, .int .u32 v2.2.kind, .int .u32 v2.2.mode, .int .u32 v2.2.links, .int .u32 v2.2.user, .int .u32 0, .int .u64 0, .int .u64 0, .int .u64 0, .int .u32 0, .int .u32 0, .int .u32 0, .int .u32 0, .int .u32 0, .int .u32 0] := M3.store hqh (Nat.le_refl _) (by simp [noU8]) (setCell_same (k := 10) M3.z _) (grown_cell _ _ _ _)
  clear M3
  have M5 : Nd W h a len cap zs W.heap.size 46 ((((((V9.setCell ⟨W.heap.size, 6, none⟩ (.bool v2.1)).setCell ⟨W.heap.size, 7, none⟩ (.int .u32 v2.2.kind)).setCell ⟨W.heap.size, 8, none⟩ (.int .u32 v2.2.mode)).setCell ⟨W.heap.size, 9, none⟩ (.int .u32 v2.2.links)).setCell ⟨W.heap.size, 10, none⟩ (.int .u32 v2.2.user)).setCell ⟨W.heap.size, 11, none⟩ (.int .u32 v2.2.group)) s2 #[.bool v1.1, .int .u64 v1.2.1, .int .u32 v1.2.2.1.1, .int .u32 v1.2.2.1.2, .int .u32 v1.2.2.2.1, .int .u32 v1.2.2.2.2, .bool v2.1, .int .u32 v2.2.kind, .int .u32 v2.2.mode, .int .u32 v2.2.links, .int .u32 v2.2.user, .int .u32 v2.2.group, .int .u64 0, .int .u64 0, .int .u64 0, .int .u32 0, .int .u32 0, .int .u32 0, .int .u32 0, .int .u32 0, .int .u32 0] := M4.store hqh (Nat.le_refl _) (by simp [noU8]) (setCell_same (k := 11) M4.z _) (grown_cell _ _ _ _)
  clear M4
  have M6 : Nd W h a len cap zs W.heap.size 46 (((((((V9.setCell ⟨W.heap.size, 6, none⟩ (.bool v2.1)).setCell ⟨W.heap.size, 7, none⟩ (.int .u32 v2.2.kind)).setCell ⟨W.heap.size, 8, none⟩ (.int .u32 v2.2.mode)).setCell ⟨W.heap.size, 9, none⟩ (.int .u32 v2.2.links)).setCell ⟨W.heap.size, 10, none⟩ (.int .u32 v2.2.user)).setCell ⟨W.heap.size, 11, none⟩ (.int .u32 v2.2.group)).setCell ⟨W.heap.size, 12, none⟩ (.int .u64 v2.2.size)) s2 #[.bool v1.1, .int .u64 v1.2.1, .int .u32 v1.2.2.1.1, .int .u32 v1.2.2.1.2, .int .u32 v1.2.2.2.1, .int .u32 v1.2.2.2.2, .bool v2.1, .int .u32 v2.2.kind, .int .u32 v2.2.mode, .int .u32 v2.2.links, .int .u32 v2.2.user, .int .u32 v2.2.group, .int .u64 v2.2.size, .int .u64 0, .int .u64 0, .int .u32 0, .int .u32 0, .int .u32 0, .int .u32 0, .int .u32 0, .int .u32 0] := M5.store hqh (Nat.le_refl _) (by simp [noU8]) (setCell_same (k := 12) M5.z _) (grown_cell _ _ _ _)
  clear M5
  have M7 : Nd W h a len cap zs W.heap.size 46 ((((((((V9.setCell ⟨W.heap.size, 6, none⟩ (.bool v2.1)).setCell ⟨W.heap.size, 7, none⟩ (.int .u32 v2.2.kind)).setCell ⟨W.heap.size, 8, none⟩ (.int .u32 v2.2.mode)).setCell ⟨W.heap.size, 9, none⟩ (.int .u32 v2.2.links)).setCell ⟨W.heap.size, 10, none⟩ (.int .u32 v2.2.user)).setCell ⟨W.heap.size, 11, none⟩ (.int .u32 v2.2.group)).setCell ⟨W.heap.size, 12, none⟩ (.int .u64 v2.2.size)).setCell ⟨W.heap.size, 13, none⟩ (.int .u64 v2.2.used)) s2 #[.bool v1.1, .int .u64 v1.2.1, .int .u32 v1.2.2.1.1, .int .u32 v1.2.2.1.2, .int .u32 v1.2.2.2.1, .int .u32 v1.2.2.2.2, .bool v2.1, .int .u32 v2.2.kind, .int .u32 v2.2.mode, .int .u32 v2.2.links, .int .u32 v2.2.user, .int .u32 v2.2.group, .int .u64 v2.2.size, .int .u64 v2.2.used, .int .u64 0, .int .u32 0, .int .u32 0, .int .u32 0, .int .u32 0, .int .u32 0, .int .u32 0] := M6.store hqh (Nat.le_refl _) (by simp [noU8]) (setCell_same (k := 13) M6.z _) (grown_cell _ _ _ _)
  clear M6
  have M8 : Nd W h a len cap zs W.heap.size 46 (((((((((V9.setCell ⟨W.heap.size, 6, none⟩ (.bool v2.1)).setCell ⟨W.heap.size, 7, none⟩ (.int .u32 v2.2.kind)).setCell ⟨W.heap.size, 8, none⟩ (.int .u32 v2.2.mode)).setCell ⟨W.heap.size, 9, none⟩ (.int .u32 v2.2.links)).setCell ⟨W.heap.size, 10, none⟩ (.int .u32 v2.2.user)).setCell ⟨W.heap.size, 11, none⟩ (.int .u32 v2.2.group)).setCell ⟨W.heap.size, 12, none⟩ (.int .u64 v2.2.size)).setCell ⟨W.heap.size, 13, none⟩ (.int .u64 v2.2.used)).setCell ⟨W.heap.size, 14, none⟩ (.int .u64 v2.2.id)) s2 #[.bool v1.1, .int .u64 v1.2.1, .int .u32 v1.2.2.1.1, .int .u32 v1.2.2.1.2, .int .u32 v1.2.2.2.1, .int .u32 v1.2.2.2.2, .bool v2.1, .int .u32 v2.2.kind, .int .u32 v2.2.mode, .int .u32 v2.2.links, .int .u32 v2.2.user, .int .u32 v2.2.group, .int .u64 v2.2.size, .int .u64 v2.2.used, .int .u64 v2.2.id, .int .u32 0, .int .u32 0, .int .u32 0, .int .u32 0, .int .u32 0, .int .u32 0] := M7.store hqh (Nat.le_refl _) (by simp [noU8]) (setCell_same (k := 14) M7.z _) (grown_cell _ _ _ _)
  clear M7
  have M9 : Nd W h a len cap zs W.heap.size 46 ((((((((((V9.setCell ⟨W.heap.size, 6, none⟩ (.bool v2.1)).setCell ⟨W.heap.size, 7, none⟩ (.int .u32 v2.2.kind)).setCell ⟨W.heap.size, 8, none⟩ (.int .u32 v2.2.mode)).setCell ⟨W.heap.size, 9, none⟩ (.int .u32 v2.2.links)).setCell ⟨W.heap.size, 10, none⟩ (.int .u32 v2.2.user)).setCell ⟨W.heap.size, 11, none⟩ (.int .u32 v2.2.group)).setCell ⟨W.heap.size, 12, none⟩ (.int .u64 v2.2.size)).setCell ⟨W.heap.size, 13, none⟩ (.int .u64 v2.2.used)).setCell ⟨W.heap.size, 14, none⟩ (.int .u64 v2.2.id)).setCell ⟨W.heap.size, 15, none⟩ (.int .u32 v2.2.rs)) s2 #[.bool v1.1, .int .u64 v1.2.1, .int .u32 v1.2.2.1.1, .int .u32 v1.2.2.1.2, .int .u32 v1.2.2.2.1, .int .u32 v1.2.2.2.2, .bool v2.1, .int .u32 v2.2.kind, .int .u32 v2.2.mode, .int .u32 v2.2.links, .int .u32 v2.2.user, .int .u32 v2.2.group, .int .u64 v2.2.size, .int .u64 v2.2.used, .int .u64 v2.2.id, .int .u32 v2.2.rs, .int .u32 0, .int .u32 0, .int .u32 0, .int .u32 0, .int .u32 0] := M8.store hqh (Nat.le_refl _) (by simp [noU8]) (setCell_same (k := 15) M8.z _) (grown_cell _ _ _ _)
  clear M8
  have M10 : Nd W h a len cap zs W.heap.size 46 (((((((((((V9.setCell ⟨W.heap.size, 6, none⟩ (.bool v2.1)).setCell ⟨W.heap.size, 7, none⟩ (.int .u32 v2.2.kind)).setCell ⟨W.heap.size, 8, none⟩ (.int .u32 v2.2.mode)).setCell ⟨W.heap.size, 9, none⟩ (.int .u32 v2.2.links)).setCell ⟨W.heap.size, 10, none⟩ (.int .u32 v2.2.user)).setCell ⟨W.heap.size, 11, none⟩ (.int .u32 v2.2.group)).setCell ⟨W.heap.size, 12, none⟩ (.int .u64 v2.2.size)).setCell ⟨W.heap.size, 13, none⟩ (.int .u64 v2.2.used)).setCell ⟨W.heap.size, 14, none⟩ (.int .u64 v2.2.id)).setCell ⟨W.heap.size, 15, none⟩ (.int .u32 v2.2.rs)).setCell ⟨W.heap.size, 16, none⟩ (.int .u32 v2.2.rn)) s2 #[.bool v1.1, .int .u64 v1.2.1, .int .u32 v1.2.2.1.1, .int .u32 v1.2.2.1.2, .int .u32 v1.2.2.2.1, .int .u32 v1.2.2.2.2, .bool v2.1, .int .u32 v2.2.kind, .int .u32 v2.2.mode, .int .u32 v2.2.links, .int .u32 v2.2.user, .int .u32 v2.2.group, .int .u64 v2.2.size, .int .u64 v2.2.used, .int .u64 v2.2.id, .int .u32 v2.2.rs, .int .u32 v2.2.rn, .int .u32 0, .int .u32 0, .int .u32 0, .int .u32 0] := M9.store hqh (Nat.le_refl _) (by simp [noU8]) (setCell_same (k := 16) M9.z _) (grown_cell _ _ _ _)
  clear M9
  have M11 : Nd W h a len cap zs W.heap.size 46 ((((((((((((V9.setCell ⟨W.heap.size, 6, none⟩ (.bool v2.1)).setCell ⟨W.heap.size, 7, none⟩ (.int .u32 v2.2.kind)).setCell ⟨W.heap.size, 8, none⟩ (.int .u32 v2.2.mode)).setCell ⟨W.heap.size, 9, none⟩ (.int .u32 v2.2.links)).setCell ⟨W.heap.size, 10, none⟩ (.int .u32 v2.2.user)).setCell ⟨W.heap.size, 11, none⟩ (.int .u32 v2.2.group)).setCell ⟨W.heap.size, 12, none⟩ (.int .u64 v2.2.size)).setCell ⟨W.heap.size, 13, none⟩ (.int .u64 v2.2.used)).setCell ⟨W.heap.size, 14, none⟩ (.int .u64 v2.2.id)).setCell ⟨W.heap.size, 15, none⟩ (.int .u32 v2.2.rs)).setCell ⟨W.heap.size, 16, none⟩ (.int .u32 v2.2.rn)).setCell ⟨W.heap.size, 17, none⟩ (.int .u32 v2.2.ws)) s2 #[.bool v1.1, .int .u64 v1.2.1, .int .u32 v1.2.2.1.1, .int .u32 v1.2.2.1.2, .int .u32 v1.2.2.2.1, .int .u32 v1.2.2.2.2, .bool v2.1, .int .u32 v2.2.kind, .int .u32 v2.2.mode, .int .u32 v2.2.links, .int .u32 v2.2.user, .int .u32 v2.2.group, .int .u64 v2.2.size, .int .u64 v2.2.used, .int .u64 v2.2.id, .int .u32 v2.2.rs, .int .u32 v2.2.rn, .int .u32 v2.2.ws, .int .u32 0, .int .u32 0, .int .u32 0] := M10.store hqh (Nat.le_refl _) (by simp [noU8]) (setCell_same (k := 17) M10.z _) (grown_cell _ _ _ _)
  clear M10
  have M12 : Nd W h a len cap zs W.heap.size 46 (((((((((((((V9.setCell ⟨W.heap.size, 6, none⟩ (.bool v2.1)).setCell ⟨W.heap.size, 7, none⟩ (.int .u32 v2.2.kind)).setCell ⟨W.heap.size, 8, none⟩ (.int .u32 v2.2.mode)).setCell ⟨W.heap.size, 9, none⟩ (.int .u32 v2.2.links)).setCell ⟨W.heap.size, 10, none⟩ (.int .u32 v2.2.user)).setCell ⟨W.heap.size, 11, none⟩ (.int .u32 v2.2.group)).setCell ⟨W.heap.size, 12, none⟩ (.int .u64 v2.2.size)).setCell ⟨W.heap.size, 13, none⟩ (.int .u64 v2.2.used)).setCell ⟨W.heap.size, 14, none⟩ (.int .u64 v2.2.id)).setCell ⟨W.heap.size, 15, none⟩ (.int .u32 v2.2.rs)).setCell ⟨W.heap.size, 16, none⟩ (.int .u32 v2.2.rn)).setCell ⟨W.heap.size, 17, none⟩ (.int .u32 v2.2.ws)).setCell ⟨W.heap.size, 18, none⟩ (.int .u32 v2.2.wn)) s2 #[.bool v1.1, .int .u64 v1.2.1, .int .u32 v1.2.2.1.1, .int .u32 v1.2.2.1.2, .int .u32 v1.2.2.2.1, .int .u32 v1.2.2.2.2, .bool v2.1, .int .u32 v2.2.kind, .int .u32 v2.2.mode, .int .u32 v2.2.links, .int .u32 v2.2.user, .int .u32 v2.2.group, .int .u64 v2.2.size, .int .u64 v2.2.used, .int .u64 v2.2.id, .int .u32 v2.2.rs, .int .u32 v2.2.rn, .int .u32 v2.2.ws, .int .u32 v2.2.wn, .int .u32 0, .int .u32 0] := M11.store hqh (Nat.le_refl _) (by simp [noU8]) (setCell_same (k := 18) M11.z _) (grown_cell _ _ _ _)
  clear M11
  have M13 : Nd W h a len cap zs W.heap.size 46 ((((((((((((((V9.setCell ⟨W.heap.size, 6, none⟩ (.bool v2.1)).setCell ⟨W.heap.size, 7, none⟩ (.int .u32 v2.2.kind)).setCell ⟨W.heap.size, 8, none⟩ (.int .u32 v2.2.mode)).setCell ⟨W.heap.size, 9, none⟩ (.int .u32 v2.2.links)).setCell ⟨W.heap.size, 10, none⟩ (.int .u32 v2.2.user)).setCell ⟨W.heap.size, 11, none⟩ (.int .u32 v2.2.group)).setCell ⟨W.heap.size, 12, none⟩ (.int .u64 v2.2.size)).setCell ⟨W.heap.size, 13, none⟩ (.int .u64 v2.2.used)).setCell ⟨W.heap.size, 14, none⟩ (.int .u64 v2.2.id)).setCell ⟨W.heap.size, 15, none⟩ (.int .u32 v2.2.rs)).setCell ⟨W.heap.size, 16, none⟩ (.int .u32 v2.2.rn)).setCell ⟨W.heap.size, 17, none⟩ (.int .u32 v2.2.ws)).setCell ⟨W.heap.size, 18, none⟩ (.int .u32 v2.2.wn)).setCell ⟨W.heap.size, 19, none⟩ (.int .u32 v2.2.ts)) s2 #[.bool v1.1, .int .u64 v1.2.1, .int .u32 v1.2.2.1.1, .int .u32 v1.2.2.1.2, .int .u32 v1.2.2.2.1, .int .u32 v1.2.2.2.2, .bool v2.1, .int .u32 v2.2.kind, .int .u32 v2.2.mode, .int .u32 v2.2.links, .int .u32 v2.2.user, .int .u32 v2.2.group, .int .u64 v2.2.size, .int .u64 v2.2.used, .int .u64 v2.2.id, .int .u32 v2.2.rs, .int .u32 v2.2.rn, .int .u32 v2.2.ws, .int .u32 v2.2.wn, .int .u32 v2.2.ts, .int .u32 0] := M12.store hqh (Nat.le_refl _) (by simp [noU8]) (setCell_same (k := 19) M12.z _) (grown_cell _ _ _ _)
  clear M12
  have M14 : Nd W h a len cap zs W.heap.size 46 (((((((((((((((V9.setCell ⟨W.heap.size, 6, none⟩ (.bool v2.1)).setCell ⟨W.heap.size, 7, none⟩ (.int .u32 v2.2.kind)).setCell ⟨W.heap.size, 8, none⟩ (.int .u32 v2.2.mode)).setCell ⟨W.heap.size, 9, none⟩ (.int .u32 v2.2.links)).setCell ⟨W.heap.size, 10, none⟩ (.int .u32 v2.2.user)).setCell ⟨W.heap.size, 11, none⟩ (.int .u32 v2.2.group)).setCell ⟨W.heap.size, 12, none⟩ (.int .u64 v2.2.size)).setCell ⟨W.heap.size, 13, none⟩ (.int .u64 v2.2.used)).setCell ⟨W.heap.size, 14, none⟩ (.int .u64 v2.2.id)).setCell ⟨W.heap.size, 15, none⟩ (.int .u32 v2.2.rs)).setCell ⟨W.heap.size, 16, none⟩ (.int .u32 v2.2.rn)).setCell ⟨W.heap.size, 17, none⟩ (.int .u32 v2.2.ws)).setCell ⟨W.heap.size, 18, none⟩ (.int .u32 v2.2.wn)).setCell ⟨W.heap.size, 19, none⟩ (.int .u32 v2.2.ts)).setCell ⟨W.heap.size, 20, none⟩ (.int .u32 v2.2.tn)) s2 #[.bool v1.1, .int .u64 v1.2.1, .int .u32 v1.2.2.1.1, .int .u32 v1.2.2.1.2, .int .u32 v1.2.2.2.1, .int .u32 v1.2.2.2.2, .bool v2.1, .int .u32 v2.2.kind, .int .u32 v2.2.mode, .int .u32 v2.2.links, .int .u32 v2.2.user, .int .u32 v2.2.group, .int .u64 v2.2.size, .int .u64 v2.2.used, .int .u64 v2.2.id, .int .u32 v2.2.rs, .int .u32 v2.2.rn, .int .u32 v2.2.ws, .int .u32 v2.2.wn, .int .u32 v2.2.ts, .int .u32 v2.2.tn] := M13.store hqh (Nat.le_refl _) (by simp [noU8]) (setCell_same (k := 20) M13.z _) (grown_cell _ _ _ _)
  clear M13
  have NN := M14
  have hMz := NN.z
  clear N9 M14
  go_wp2_with (first
    | (refine wpList_load_row rfl _ _ rfl W.heap.size rfl 46 #[.bool v1.1, .int .u64 v1.2.1, .int .u32 v1.2.2.1.1, .int .u32 v1.2.2.1.2, .int .u32 v1.2.2.2.1, .int .u32 v1.2.2.2.2, .bool v2.1, .int .u32 v2.2.kind, .int .u32 v2.2.mode, .int .u32 v2.2.links, .int .u32 v2.2.user, .int .u32 v2.2.group, .int .u64 v2.2.size, .int .u64 v2.2.used, .int .u64 v2.2.id, .int .u32 v2.2.rs, .int .u32 v2.2.rn, .int .u32 v2.2.ws, .int .u32 v2.2.wn, .int .u32 v2.2.ts, .int .u32 v2.2.tn] (0, 0) _ ?_ Try.underlying46 rfl wk_info ?_; exact hMz)
    | (refine wpList_store_whole rfl 46 _ _ rfl W.heap.size #[.bool v1.1, .int .u64 v1.2.1, .int .u32 v1.2.2.1.1, .int .u32 v1.2.2.1.2, .int .u32 v1.2.2.2.1, .int .u32 v1.2.2.2.2, .bool v2.1, .int .u32 v2.2.kind, .int .u32 v2.2.mode, .int .u32 v2.2.links, .int .u32 v2.2.user, .int .u32 v2.2.group, .int .u64 v2.2.size, .int .u64 v2.2.used, .int .u64 v2.2.id, .int .u32 v2.2.rs, .int .u32 v2.2.rn, .int .u32 v2.2.ws, .int .u32 v2.2.wn, .int .u32 v2.2.ts, .int .u32 v2.2.tn] rfl rfl 46 #[.bool v1.1, .int .u64 v1.2.1, .int .u32 v1.2.2.1.1, .int .u32 v1.2.2.1.2, .int .u32 v1.2.2.2.1, .int .u32 v1.2.2.2.2, .bool v2.1, .int .u32 v2.2.kind, .int .u32 v2.2.mode, .int .u32 v2.2.links, .int .u32 v2.2.user, .int .u32 v2.2.group, .int .u64 v2.2.size, .int .u64 v2.2.used, .int .u64 v2.2.id, .int .u32 v2.2.rs, .int .u32 v2.2.rn, .int .u32 v2.2.ws, .int .u32 v2.2.wn, .int .u32 v2.2.ts, .int .u32 v2.2.tn] ?_ wk_info rfl (by simp [Value.oneCell']) ?_; exact hMz; intro VV hr9 hg9 hs9; have NV := NN.store hqh (Nat.le_refl _) (by simp [noU8]) hr9 hg9))
  exact bodyPost_ret (results_cell_row (p := 2) (ty := 46) rfl _ _ W.heap.size 46 _ (0, 0) _ (by rfl) NV.z Try.underlying46 rfl wk_info) rfl ⟨NV.g, _, s2, hd, .inl ⟨h2, rfl, NV.R⟩⟩
end Go.Proofs.Ytecbhhfncklefab
