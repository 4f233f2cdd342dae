/- 'set' of the reader: what is to be set, next; nothing but the reader turns. -/
import Derived.Test.YtecbhhfncklefabStoreFieldPBoxMx
import Derived.Test.YtecbhhfncklefabAliveEndPPerNMx
namespace Go.Proofs.Ytecbhhfncklefab
set_option linter.unusedVariables false
open Go.RowKit

theorem enter_rmode : ∀ (args : Array Value) (w : World), (callFunc 46 args).run Try.prog w = .ok (.enter 46 args) w := fun _ _ => by simp [go_sem]
theorem enter_rnumber : ∀ (args : Array Value) (w : World), (callFunc 44 args).run Try.prog w = .ok (.enter 44 args) w := fun _ _ => by simp [go_sem]
theorem enter_rlong : ∀ (args : Array Value) (w : World), (callFunc 47 args).run Try.prog w = .ok (.enter 47 args) w := fun _ _ => by simp [go_sem]
theorem st_info : (Try.prog.info? 40).map (·.size) = some 14 := by kernel_rfl
def stV (x : Stt) : Value := .agg #[.bool x.hm, .int .u32 x.mode, .bool x.hu, .int .u32 x.user, .bool x.hg, .int .u32 x.group, .bool x.hs, .int .u64 x.size, .int .u32 x.rh, .int .u32 x.rs, .int .u32 x.rn, .int .u32 x.wh, .int .u32 x.ws, .int .u32 x.wn]

set_option maxRecDepth 100000 in
set_option maxHeartbeats 8000000 in
theorem rdset_any : Reads 31 setC stV := by
  intro W h a len cap zs s R he
  have hqh : W.heap.size ≠ h := Nat.ne_of_gt R.lt
  have hB1 : Below W.heap.size W (W.alloc (.cells #[.bool false, .int .u32 0, .bool false, .int .u32 0, .bool false, .int .u32 0, .bool false, .int .u64 0, .int .u32 0, .int .u32 0, .int .u32 0, .int .u32 0, .int .u32 0, .int .u32 0] 40)) := (Below.refl _ _).alloc (Nat.le_refl _) _
  have N0 : Nd W h a len cap zs W.heap.size 40 (W.alloc (.cells #[.bool false, .int .u32 0, .bool false, .int .u32 0, .bool false, .int .u32 0, .bool false, .int .u64 0, .int .u32 0, .int .u32 0, .int .u32 0, .int .u32 0, .int .u32 0, .int .u32 0] 40)) s #[.bool false, .int .u32 0, .bool false, .int .u32 0, .bool false, .int .u32 0, .bool false, .int .u64 0, .int .u32 0, .int .u32 0, .int .u32 0, .int .u32 0, .int .u32 0, .int .u32 0] := ⟨grown_below hB1 _, R.next hB1, World.alloc_heap_new W _⟩
  clear R hB1
  go_enter Try.func31, Try.ntmps31
  go_wp2_with fail
  generalize (W.alloc (.cells #[.bool false, .int .u32 0, .bool false, .int .u32 0, .bool false, .int .u32 0, .bool false, .int .u64 0, .int .u32 0, .int .u32 0, .int .u32 0, .int .u32 0, .int .u32 0, .int .u32 0] 40)) = V0 at *
  refine (pernu_any _ modeC enter_rmode rdmode_any rfl V0 h a len cap zs s N0.R he).mono ?_
  rintro e V1 ⟨hg, v1, s1, aft1, ⟨h1, rfl, hR⟩ | ⟨h1, rfl⟩⟩
  rotate_left
  · have hG := N0.g.trans hg
    have hd : Aft setC s _ s1 := aft_iso (aft_seq aft1 (aft_stick (c := ((optC (numC 4)).seq ((optC (numC 4)).seq ((optC (numC 8)).seq ((howC).seq (howC)))))) h1 ((optC (numC 4)).seq ((optC (numC 4)).seq ((optC (numC 8)).seq ((howC).seq (howC))))).zero))
    clear N0 hg
    go_wp2
    exact ⟨rfl, hG, _, _, hd, .inr ⟨h1, rfl⟩⟩
  have N1 := N0.call hqh hg hR
  clear hg hR N0
  have c0 : V1.cell? ⟨W.heap.size, 0, none⟩ = some (.bool false) := by simp [World.cell?, N1.z]
  have f0 : V1.frozen? ⟨W.heap.size, 0, none⟩ = false := by simp [World.frozen?, N1.z]
  have c1 : V1.cell? ⟨W.heap.size, 1, none⟩ = some (.int .u32 0) := by simp [World.cell?, N1.z]
  have f1 : V1.frozen? ⟨W.heap.size, 1, none⟩ = false := by simp [World.frozen?, N1.z]
  go_wp2_with fail
  have M0 : Nd W h a len cap zs W.heap.size 40 (V1.setCell ⟨W.heap.size, 0, none⟩ (.bool v1.1)) s1 #[.bool v1.1, .int .u32 0, .bool false, .int .u32 0, .bool false, .int .u32 0, .bool false, .int .u64 0, .int .u32 0, .int .u32 0, .int .u32 0, .int .u32 0, .int .u32 0, .int .u32 0] := N1.store hqh (Nat.le_refl _) (by simp [noU8]) (setCell_same (k := 0) N1.z _) (grown_cell _ _ _ _)
  have M1 : Nd W h a len cap zs W.heap.size 40 ((V1.setCell ⟨W.heap.size, 0, none⟩ (.bool v1.1)).setCell ⟨W.heap.size, 1, none⟩ (.int .u32 v1.2)) s1 #[.bool v1.1, .int .u32 v1.2, .bool false, .int .u32 0, .bool false, .int .u32 0, .bool false, .int .u64 0, .int .u32 0, .int .u32 0, .int .u32 0, .int .u32 0, .int .u32 0, .int .u32 0] := M0.store hqh (Nat.le_refl _) (by simp [noU8]) (setCell_same (k := 1) M0.z _) (grown_cell _ _ _ _)
  have N2 := M1
  clear M0 M1 c0 f0 c1 f1 N1
  generalize ((V1.setCell ⟨W.heap.size, 0, none⟩ (.bool v1.1)).setCell ⟨W.heap.size, 1, none⟩ (.int .u32 v1.2)) = V2 at *
  refine (pernu_any _ (numC 4) enter_rnumber rdnumber_any rfl V2 h a len cap zs s1 N2.R h1).mono ?_
  rintro e V3 ⟨hg, v2, s2, aft2, ⟨h2, rfl, hR⟩ | ⟨h2, rfl⟩⟩
  rotate_left
  · have hG := N2.g.trans hg
    have hd : Aft setC s _ s2 := aft_iso (aft_seq aft1 (aft_seq aft2 (aft_stick (c := ((optC (numC 4)).seq ((optC (numC 8)).seq ((howC).seq (howC))))) h2 ((optC (numC 4)).seq ((optC (numC 8)).seq ((howC).seq (howC)))).zero)))
    clear N2 hg
    go_wp2
    exact ⟨rfl, hG, _, _, hd, .inr ⟨h2, rfl⟩⟩
  have N3 := N2.call hqh hg hR
  clear hg hR N2
  have c2 : V3.cell? ⟨W.heap.size, 2, none⟩ = some (.bool false) := by simp [World.cell?, N3.z]
  have f2 : V3.frozen? ⟨W.heap.size, 2, none⟩ = false := by simp [World.frozen?, N3.z]
  have c3 : V3.cell? ⟨W.heap.size, 3, none⟩ = some (.int .u32 0) := by simp [World.cell?, N3.z]
  have f3 : V3.frozen? ⟨W.heap.size, 3, none⟩ = false := by simp [World.frozen?, N3.z]
  go_wp2_with fail
  have M0 : Nd W h a len cap zs W.heap.size 40 (V3.setCell ⟨W.heap.size, 2, none⟩ (.bool v2.1)) s2 #[.bool v1.1, .int .u32 v1.2, .bool v2.1, .int .u32 0, .bool false, .int .u32 0, .bool false, .int .u64 0, .int .u32 0, .int .u32 0, .int .u32 0, .int .u32 0, .int .u32 0, .int .u32 0] := N3.store hqh (Nat.le_refl _) (by simp [noU8]) (setCell_same (k := 2) N3.z _) (grown_cell _ _ _ _)
  have M1 : Nd W h a len cap zs W.heap.size 40 ((V3.setCell ⟨W.heap.size, 2, none⟩ (.bool v2.1)).setCell ⟨W.heap.size, 3, none⟩ (.int .u32 v2.2)) s2 #[.bool v1.1, .int .u32 v1.2, .bool v2.1, .int .u32 v2.2, .bool false, .int .u32 0, .bool false, .int .u64 0, .int .u32 0, .int .u32 0, .int .u32 0, .int .u32 0, .int .u32 0, .int .u32 0] := M0.store hqh (Nat.le_refl _) (by simp [noU8]) (setCell_same (k := 3) M0.z _) (grown_cell _ _ _ _)
  have N4 := M1
  clear M0 M1 c2 f2 c3 f3 N3
  generalize ((V3.setCell ⟨W.heap.size, 2, none⟩ (.bool v2.1)).setCell ⟨W.heap.size, 3, none⟩ (.int .u32 v2.2)) = V4 at *
  refine (pernu_any _ (numC 4) enter_rnumber rdnumber_any rfl V4 h a len cap zs s2 N4.R h2).mono ?_
  rintro e V5 ⟨hg, v3, s3, aft3, ⟨h3, rfl, hR⟩ | ⟨h3, rfl⟩⟩
  rotate_left
  · have hG := N4.g.trans hg
    have hd : Aft setC s _ s3 := aft_iso (aft_seq aft1 (aft_seq aft2 (aft_seq aft3 (aft_stick (c := ((optC (numC 8)).seq ((howC).seq (howC)))) h3 ((optC (numC 8)).seq ((howC).seq (howC))).zero))))
    clear N4 hg
    go_wp2
    exact ⟨rfl, hG, _, _, hd, .inr ⟨h3, rfl⟩⟩
  have N5 := N4.call hqh hg hR
  clear hg hR N4
  have c4 : V5.cell? ⟨W.heap.size, 4, none⟩ = some (.bool false) := by simp [World.cell?, N5.z]
  have f4 : V5.frozen? ⟨W.heap.size, 4, none⟩ = false := by simp [World.frozen?, N5.z]
  have c5 : V5.cell? ⟨W.heap.size, 5, none⟩ = some (.int .u32 0) := by simp [World.cell?, N5.z]
  have f5 : V5.frozen? ⟨W.heap.size, 5, none⟩ = false := by simp [World.frozen?, N5.z]
  go_wp2_with fail
  have M0 : Nd W h a len cap zs W.heap.size 40 (V5.setCell ⟨W.heap.size, 4, none⟩ (.bool v3.1)) s3 #[.bool v1.1, .int .u32 v1.2, .bool v2.1, .int .u32 v2.2, .bool v3.1, .int .u32 0, .bool false, .int .u64 0, .int .u32 0, .int .u32 0, .int .u32 0, .int .u32 0, .int .u32 0, .int .u32 0] := N5.store hqh (Nat.le_refl _) (by simp [noU8]) (setCell_same (k := 4) N5.z _) (grown_cell _ _ _ _)
  have M1 : Nd W h a len cap zs W.heap.size 40 ((V5.setCell ⟨W.heap.size, 4, none⟩ (.bool v3.1)).setCell ⟨W.heap.size, 5, none⟩ (.int .u32 v3.2)) s3 #[.bool v1.1, .int .u32 v1.2, .bool v2.1, .int .u32 v2.2, .bool v3.1, .int .u32 v3.2, .bool false, .int .u64 0, .int .u32 0, .int .u32 0, .int .u32 0, .int .u32 0, .int .u32 0, .int .u32 0] := M0.store hqh (Nat.le_refl _) (by simp [noU8]) (setCell_same (k := 5) M0.z _) (grown_cell _ _ _ _)
  have N6 := M1
  clear M0 M1 c4 f4 c5 f5 N5
  generalize ((V5.setCell ⟨W.heap.size, 4, none⟩ (.bool v3.1)).setCell ⟨W.heap.size, 5, none⟩ (.int .u32 v3.2)) = V6 at *
  refine (pernl_any _ (numC 8) enter_rlong rdlong_any rfl V6 h a len cap zs s3 N6.R h3).mono ?_
  rintro e V7 ⟨hg, v4, s4, aft4, ⟨h4, rfl, hR⟩ | ⟨h4, rfl⟩⟩
  rotate_left
  · have hG := N6.g.trans hg
    have hd : Aft setC s _ s4 := aft_iso (aft_seq aft1 (aft_seq aft2 (aft_seq aft3 (aft_seq aft4 (aft_stick (c := ((howC).seq (howC))) h4 ((howC).seq (howC)).zero)))))
    clear N6 hg
    go_wp2
    exact ⟨rfl, hG, _, _, hd, .inr ⟨h4, rfl⟩⟩
  have N7 := N6.call hqh hg hR
  clear hg hR N6
  have c6 : V7.cell? ⟨W.heap.size, 6, none⟩ = some (.bool false) := by simp [World.cell?, N7.z]
  have f6 : V7.frozen? ⟨W.heap.size, 6, none⟩ = false := by simp [World.frozen?, N7.z]
  have c7 : V7.cell? ⟨W.heap.size, 7, none⟩ = some (.int .u64 0) := by simp [World.cell?, N7.z]
  have f7 : V7.frozen? ⟨W.heap.size, 7, none⟩ = false := by simp [World.frozen?, N7.z]
  go_wp2_with fail
  have M0 : Nd W h a len cap zs W.heap.size 40 (V7.setCell ⟨W.heap.size, 6, none⟩ (.bool v4.1)) s4 #[.bool v1.1, .int .u32 v1.2, .bool v2.1, .int .u32 v2.2, .bool v3.1, .int .u32 v3.2, .bool v4.1, .int .u64 0, .int .u32 0, .int .u32 0, .int .u32 0, .int .u32 0, .int .u32 0, .int .u32 0] := N7.store hqh (Nat.le_refl _) (by simp [noU8]) (setCell_same (k := 6) N7.z _) (grown_cell _ _ _ _)
  have M1 : Nd W h a len cap zs W.heap.size 40 ((V7.setCell ⟨W.heap.size, 6, none⟩ (.bool v4.1)).setCell ⟨W.heap.size, 7, none⟩ (.int .u64 v4.2)) s4 #[.bool v1.1, .int .u32 v1.2, .bool v2.1, .int .u32 v2.2, .bool v3.1, .int .u32 v3.2, .bool v4.1, .int .u64 v4.2, .int .u32 0, .int .u32 0, .int .u32 0, .int .u32 0, .int .u32 0, .int .u32 0] := M0.store hqh (Nat.le_refl _) (by simp [noU8]) (setCell_same (k := 7) M0.z _) (grown_cell _ _ _ _)
  have N8 := M1
  clear M0 M1 c6 f6 c7 f7 N7
  generalize ((V7.setCell ⟨W.heap.size, 6, none⟩ (.bool v4.1)).setCell ⟨W.heap.size, 7, none⟩ (.int .u64 v4.2)) = V8 at *
  refine (rdsetting_any V8 h a len cap zs s4 N8.R h4).mono ?_
  rintro e V9 ⟨hg, v5, s5, aft5, ⟨h5, rfl, hR⟩ | ⟨h5, rfl⟩⟩
  rotate_left
  · have hG := N8.g.trans hg
    have hd : Aft setC s _ s5 := aft_iso (aft_seq aft1 (aft_seq aft2 (aft_seq aft3 (aft_seq aft4 (aft_seq aft5 (aft_stick (c := (howC)) h5 (howC).zero))))))
    clear N8 hg
    go_wp2
    exact ⟨rfl, hG, _, _, hd, .inr ⟨h5, rfl⟩⟩
  have N9 := N8.call hqh hg hR
  clear hg hR N8
  unfold setV
  have c8 : V9.cell? ⟨W.heap.size, 8, none⟩ = some (.int .u32 0) := by simp [World.cell?, N9.z]
  have f8 : V9.frozen? ⟨W.heap.size, 8, none⟩ = false := by simp [World.frozen?, N9.z]
  have c9 : V9.cell? ⟨W.heap.size, 9, none⟩ = some (.int .u32 0) := by simp [World.cell?, N9.z]
  have f9 : V9.frozen? ⟨W.heap.size, 9, none⟩ = false := by simp [World.frozen?, N9.z]
  have c10 : V9.cell? ⟨W.heap.size, 10, none⟩ = some (.int .u32 0) := by simp [World.cell?, N9.z]
  have f10 : V9.frozen? ⟨W.heap.size, 10, none⟩ = false := by simp [World.frozen?, N9.z]
  go_wp2_with fail
  have M0 : Nd W h a len cap zs W.heap.size 40 (V9.setCell ⟨W.heap.size, 8, none⟩ (.int .u32 v5.1)) s5 #[.bool v1.1, .int .u32 v1.2, .bool v2.1, .int .u32 v2.2, .bool v3.1, .int .u32 v3.2, .bool v4.1, .int .u64 v4.2, .int .u32 v5.1, .int .u32 0, .int .u32 0, .int .u32 0, .int .u32 0, .int .u32 0] := N9.store hqh (Nat.le_refl _) (by simp [noU8]) (setCell_same (k := 8) N9.z _) (grown_cell _ _ _ _)
  have M1 : Nd W h a len cap zs W.heap.size 40 ((V9.setCell ⟨W.heap.size, 8, none⟩ (.int .u32 v5.1)).setCell ⟨W.heap.size, 9, none⟩ (.int .u32 v5.2.1)) s5 #[.bool v1.1, .int .u32 v1.2, .bool v2.1, .int .u32 v2.2, .bool v3.1, .int .u32 v3.2, .bool v4.1, .int .u64 v4.2, .int .u32 v5.1, .int .u32 v5.2.1, .int .u32 0, .int .u32 0, .int .u32 0, .int .u32 0] := M0.store hqh (Nat.le_refl _) (by simp [noU8]) (setCell_same (k := 9) M0.z _) (grown_cell _ _ _ _)
  have M2 : Nd W h a len cap zs W.heap.size 40 (((V9.setCell ⟨W.heap.size, 8, none⟩ (.int .u32 v5.1)).setCell ⟨W.heap.size, 9, none⟩ (.int .u32 v5.2.1)).setCell ⟨W.heap.size, 10, none⟩ (.int .u32 v5.2.2)) s5 #[.bool v1.1, .int .u32 v1.2, .bool v2.1, .int .u32 v2.2, .bool v3.1, .int .u32 v3.2, .bool v4.1, .int .u64 v4.2, .int .u32 v5.1, .int .u32 v5.2.1, .int .u32 v5.2.2, .int .u32 0, .int .u32 0, .int .u32 0] := M1.store hqh (Nat.le_refl _) (by simp [noU8]) (setCell_same (k := 10) M1.z _) (grown_cell _ _ _ _)
  have N10 := M2
  clear M0 M1 M2 c8 f8 c9 f9 c10 f10 N9
  generalize (((V9.setCell ⟨W.heap.size, 8, none⟩ (.int .u32 v5.1)).setCell ⟨W.heap.size, 9, none⟩ (.int .u32 v5.2.1)).setCell ⟨W.heap.size, 10, none⟩ (.int .u32 v5.2.2)) = V10 at *
  refine (rdsetting_any V10 h a len cap zs s5 N10.R h5).mono ?_
  rintro e V11 ⟨hg, v6, s6, aft6, ⟨h6, rfl, hR⟩ | ⟨h6, rfl⟩⟩
  rotate_left
  · have hG := N10.g.trans hg
    have hd : Aft setC s _ s6 := aft_iso (aft_seq aft1 (aft_seq aft2 (aft_seq aft3 (aft_seq aft4 (aft_seq aft5 aft6)))))
    clear N10 hg
    go_wp2
    exact ⟨rfl, hG, _, _, hd, .inr ⟨h6, rfl⟩⟩
  have N11 := N10.call hqh hg hR
  clear hg hR N10
  unfold setV
  have c11 : V11.cell? ⟨W.heap.size, 11, none⟩ = some (.int .u32 0) := by simp [World.cell?, N11.z]
  have f11 : V11.frozen? ⟨W.heap.size, 11, none⟩ = false := by simp [World.frozen?, N11.z]
  have c12 : V11.cell? ⟨W.heap.size, 12, none⟩ = some (.int .u32 0) := by simp [World.cell?, N11.z]
  have f12 : V11.frozen? ⟨W.heap.size, 12, none⟩ = false := by simp [World.frozen?, N11.z]
  have c13 : V11.cell? ⟨W.heap.size, 13, none⟩ = some (.int .u32 0) := by simp [World.cell?, N11.z]
  have f13 : V11.frozen? ⟨W.heap.size, 13, none⟩ = false := by simp [World.frozen?, N11.z]
  have M0 : Nd W h a len cap zs W.heap.size 40 (V11.setCell ⟨W.heap.size, 11, none⟩ (.int .u32 v6.1)) s6 #[.bool v1.1, .int .u32 v1.2, .bool v2.1, .int .u32 v2.2, .bool v3.1, .int .u32 v3.2, .bool v4.1, .int .u64 v4.2, .int .u32 v5.1, .int .u32 v5.2.1, .int .u32 v5.2.2, .int .u32 v6.1, .int .u32 0, .int .u32 0] := N11.store hqh (Nat.le_refl _) (by simp [noU8]) (setCell_same (k := 11) N11.z _) (grown_cell _ _ _ _)
  have M1 : Nd W h a len cap zs W.heap.size 40 ((V11.setCell ⟨W.heap.size, 11, none⟩ (.int .u32 v6.1)).setCell ⟨W.heap.size, 12, none⟩ (.int .u32 v6.2.1)) s6 #[.bool v1.1, .int .u32 v1.2, .bool v2.1, .int .u32 v2.2, .bool v3.1, .int .u32 v3.2, .bool v4.1, .int .u64 v4.2, .int .u32 v5.1, .int .u32 v5.2.1, .int .u32 v5.2.2, .int .u32 v6.1, .int .u32 v6.2.1, .int .u32 0] := M0.store hqh (Nat.le_refl _) (by simp [noU8]) (setCell_same (k := 12) M0.z _) (grown_cell _ _ _ _)
  have M2 : Nd W h a len cap zs W.heap.size 40 (((V11.setCell ⟨W.heap.size, 11, none⟩ (.int .u32 v6.1)).setCell ⟨W.heap.size, 12, none⟩ (.int .u32 v6.2.1)).setCell ⟨W.heap.size, 13, none⟩ (.int .u32 v6.2.2)) s6 #[.bool v1.1, .int .u32 v1.2, .bool v2.1, .int .u32 v2.2, .bool v3.1, .int .u32 v3.2, .bool v4.1, .int .u64 v4.2, .int .u32 v5.1, .int .u32 v5.2.1, .int .u32 v5.2.2, .int .u32 v6.1, .int .u32 v6.2.1, .int .u32 v6.2.2] := M1.store hqh (Nat.le_refl _) (by simp [noU8]) (setCell_same (k := 13) M1.z _) (grown_cell _ _ _ _)
  have NN := M2
  have hMz := NN.z
  clear M0 M1 M2 N11
  have hd : Aft setC s _ s6 := aft_iso (aft_seq aft1 (aft_seq aft2 (aft_seq aft3 (aft_seq aft4 (aft_seq aft5 aft6)))))
  clear aft1 aft2 aft3 aft4 aft5 aft6
  go_wp2_with (first
      | (refine wpList_load_row rfl _ _ rfl W.heap.size rfl 40 #[.bool v1.1, .int .u32 v1.2, .bool v2.1, .int .u32 v2.2, .bool v3.1, .int .u32 v3.2, .bool v4.1, .int .u64 v4.2, .int .u32 v5.1, .int .u32 v5.2.1, .int .u32 v5.2.2, .int .u32 v6.1, .int .u32 v6.2.1, .int .u32 v6.2.2] (0, 0) _ ?_ Try.underlying40 rfl st_info ?_; exact hMz)
      | (refine wpList_store_whole rfl 40 _ _ rfl W.heap.size #[.bool v1.1, .int .u32 v1.2, .bool v2.1, .int .u32 v2.2, .bool v3.1, .int .u32 v3.2, .bool v4.1, .int .u64 v4.2, .int .u32 v5.1, .int .u32 v5.2.1, .int .u32 v5.2.2, .int .u32 v6.1, .int .u32 v6.2.1, .int .u32 v6.2.2] rfl rfl 40 #[.bool v1.1, .int .u32 v1.2, .bool v2.1, .int .u32 v2.2, .bool v3.1, .int .u32 v3.2, .bool v4.1, .int .u64 v4.2, .int .u32 v5.1, .int .u32 v5.2.1, .int .u32 v5.2.2, .int .u32 v6.1, .int .u32 v6.2.1, .int .u32 v6.2.2] ?_ st_info rfl (by simp [Value.oneCell']) ?_; exact hMz; intro VV hr9 hg9 hs9; have NV := NN.store hqh (Nat.le_refl _) (by simp [noU8]) hr9 hg9))
  exact bodyPost_ret (results_cell_row (p := 2) (ty := 40) rfl _ _ W.heap.size 40 _ (0, 0) _ (by rfl) NV.z Try.underlying40 rfl st_info) rfl ⟨NV.g, _, s6, hd, .inl ⟨h6, rfl, NV.R⟩⟩
end Go.Proofs.Ytecbhhfncklefab
