/- 'Weak' of the document's reader: what was told ahead and behind, next; nothing but the reader turns. -/
import Derived.Test.YtecbhhfncklefaaRefBoxRefTChkRefTGetMx
import Derived.Test.YtecbhhfncklefaaRefRdTMx
import Derived.Test.YtecbhhfncklefaaRefRdAMx
import Derived.Test.YtecbhhfncklefaaPWeakRMx
import Derived.Deep.Cut
namespace Go.Proofs.Ytecbhhfncklefaa
set_option linter.unusedVariables false
open Go.RowKit

set_option maxRecDepth 100000 in
set_option maxHeartbeats 8000000 in
theorem rd_weak (h : Nat) (a : Option Addr) (len cap : Nat) (zs : List Int) (s : Rd) (W : World) (hr : Rr W h a len cap s) (ho : s.On zs) (hlc : len ≤ cap) (hm : cap ≤ 9223372036854775807) (hz : zs.length = len) (hb : Byt zs) (hs : Seg W a zs) :
    Calls Try.prog 26 #[.pointer (some ⟨h, 0, none⟩)] W fun e W' => ∃ v s', e = .returned (wkV v) ∧ Rr W' h a len cap s' ∧ s'.On zs ∧ Aft weakC s v s' ∧ W.grownBy W' (some h) := by
  have hlt := hr.lt
  have hqh : W.heap.size + 1 ≠ h := by omega
  have hph : W.heap.size ≠ h := by omega
  have hpq : W.heap.size ≠ W.heap.size + 1 := by omega
  have hq0 : W.heap.size ≤ W.heap.size + 1 := by omega
  have b0 : Below W.heap.size W (W.alloc (.cells #[.bool false, .int .u64 0, .int .u32 0, .int .u32 0, .int .u32 0, .int .u32 0, .bool false, .int .u32 0, .int .u32 0, .int .u32 0, .int .u32 0, .int .u32 0, .int .u64 0, .int .u64 0, .int .u64 0, .int .u32 0, .int .u32 0, .int .u32 0, .int .u32 0, .int .u32 0, .int .u32 0] 43)) := (Below.refl _ _).alloc (Nat.le_refl _) _
  have b1 := b0.alloc b0.size (.cells #[.bool false, .int .u64 0, .int .u32 0, .int .u32 0, .int .u32 0, .int .u32 0, .bool false, .int .u32 0, .int .u32 0, .int .u32 0, .int .u32 0, .int .u32 0, .int .u64 0, .int .u64 0, .int .u64 0, .int .u32 0, .int .u32 0, .int .u32 0, .int .u32 0, .int .u32 0, .int .u32 0] 43)
  have y0 := World.alloc_heap_new W (.cells #[.bool false, .int .u64 0, .int .u32 0, .int .u32 0, .int .u32 0, .int .u32 0, .bool false, .int .u32 0, .int .u32 0, .int .u32 0, .int .u32 0, .int .u32 0, .int .u64 0, .int .u64 0, .int .u64 0, .int .u32 0, .int .u32 0, .int .u32 0, .int .u32 0, .int .u32 0, .int .u32 0] 43)
  have z0 := World.alloc_heap_new (W.alloc (.cells #[.bool false, .int .u64 0, .int .u32 0, .int .u32 0, .int .u32 0, .int .u32 0, .bool false, .int .u32 0, .int .u32 0, .int .u32 0, .int .u32 0, .int .u32 0, .int .u64 0, .int .u64 0, .int .u64 0, .int .u32 0, .int .u32 0, .int .u32 0, .int .u32 0, .int .u32 0, .int .u32 0] 43)) (.cells #[.bool false, .int .u64 0, .int .u32 0, .int .u32 0, .int .u32 0, .int .u32 0, .bool false, .int .u32 0, .int .u32 0, .int .u32 0, .int .u32 0, .int .u32 0, .int .u64 0, .int .u64 0, .int .u64 0, .int .u32 0, .int .u32 0, .int .u32 0, .int .u32 0, .int .u32 0, .int .u32 0] 43)
  rw [show (W.alloc (.cells #[.bool false, .int .u64 0, .int .u32 0, .int .u32 0, .int .u32 0, .int .u32 0, .bool false, .int .u32 0, .int .u32 0, .int .u32 0, .int .u32 0, .int .u32 0, .int .u64 0, .int .u64 0, .int .u64 0, .int .u32 0, .int .u32 0, .int .u32 0, .int .u32 0, .int .u32 0, .int .u32 0] 43)).heap.size = W.heap.size + 1 by simp] at z0
  replace y0 := (Below.heap_alloc (W.alloc (.cells #[.bool false, .int .u64 0, .int .u32 0, .int .u32 0, .int .u32 0, .int .u32 0, .bool false, .int .u32 0, .int .u32 0, .int .u32 0, .int .u32 0, .int .u32 0, .int .u64 0, .int .u64 0, .int .u64 0, .int .u32 0, .int .u32 0, .int .u32 0, .int .u32 0, .int .u32 0, .int .u32 0] 43)) (.cells #[.bool false, .int .u64 0, .int .u32 0, .int .u32 0, .int .u32 0, .int .u32 0, .bool false, .int .u32 0, .int .u32 0, .int .u32 0, .int .u32 0, .int .u32 0, .int .u64 0, .int .u64 0, .int .u64 0, .int .u32 0, .int .u32 0, .int .u32 0, .int .u32 0, .int .u32 0, .int .u32 0] 43) W.heap.size (by simp)).trans y0
  have N0 : Nr W h a len cap zs (W.heap.size + 1) W.heap.size 43 ((W.alloc (.cells #[.bool false, .int .u64 0, .int .u32 0, .int .u32 0, .int .u32 0, .int .u32 0, .bool false, .int .u32 0, .int .u32 0, .int .u32 0, .int .u32 0, .int .u32 0, .int .u64 0, .int .u64 0, .int .u64 0, .int .u32 0, .int .u32 0, .int .u32 0, .int .u32 0, .int .u32 0, .int .u32 0] 43)).alloc (.cells #[.bool false, .int .u64 0, .int .u32 0, .int .u32 0, .int .u32 0, .int .u32 0, .bool false, .int .u32 0, .int .u32 0, .int .u32 0, .int .u32 0, .int .u32 0, .int .u64 0, .int .u64 0, .int .u64 0, .int .u32 0, .int .u32 0, .int .u32 0, .int .u32 0, .int .u32 0, .int .u32 0] 43)) s #[.bool false, .int .u64 0, .int .u32 0, .int .u32 0, .int .u32 0, .int .u32 0, .bool false, .int .u32 0, .int .u32 0, .int .u32 0, .int .u32 0, .int .u32 0, .int .u64 0, .int .u64 0, .int .u64 0, .int .u32 0, .int .u32 0, .int .u32 0, .int .u32 0, .int .u32 0, .int .u32 0] #[.bool false, .int .u64 0, .int .u32 0, .int .u32 0, .int .u32 0, .int .u32 0, .bool false, .int .u32 0, .int .u32 0, .int .u32 0, .int .u32 0, .int .u32 0, .int .u64 0, .int .u64 0, .int .u64 0, .int .u32 0, .int .u32 0, .int .u32 0, .int .u32 0, .int .u32 0, .int .u32 0] := ⟨grown_below b1 _, hr.next b1, ho, hs.below b1, z0, y0⟩
  clear hr ho hs b0 b1 y0 z0 hlt
  go_enter Try.func26, Try.ntmps26
  go_wp2_with fail
  generalize ((W.alloc (.cells #[.bool false, .int .u64 0, .int .u32 0, .int .u32 0, .int .u32 0, .int .u32 0, .bool false, .int .u32 0, .int .u32 0, .int .u32 0, .int .u32 0, .int .u32 0, .int .u64 0, .int .u64 0, .int .u64 0, .int .u32 0, .int .u32 0, .int .u32 0, .int .u32 0, .int .u32 0, .int .u32 0] 43)).alloc (.cells #[.bool false, .int .u64 0, .int .u32 0, .int .u32 0, .int .u32 0, .int .u32 0, .bool false, .int .u32 0, .int .u32 0, .int .u32 0, .int .u32 0, .int .u32 0, .int .u64 0, .int .u64 0, .int .u64 0, .int .u32 0, .int .u32 0, .int .u32 0, .int .u32 0, .int .u32 0, .int .u32 0] 43)) = V0 at *
  refine (rd_yes h a len cap zs s V0 N0.r N0.on hlc hm hz hb N0.seg).mono ?_
  rintro e U1 ⟨y1, t1, rfl, hR, hO, ya1, hg⟩
  have A1 := N0.call hqh hph hg hR hO
  clear hg hR hO N0
  have c0 : U1.cell? ⟨W.heap.size + 1, 0, none⟩ = some (.bool false) := by simp [World.cell?, A1.z]
  have f0 : U1.frozen? ⟨W.heap.size + 1, 0, none⟩ = false := by simp [World.frozen?, A1.z]
  go_upto_if 8 with fail
  have B1 : Nr W h a len cap zs (W.heap.size + 1) W.heap.size 43 (U1.setCell ⟨W.heap.size + 1, 0, none⟩ (.bool y1)) t1 #[.bool y1, .int .u64 0, .int .u32 0, .int .u32 0, .int .u32 0, .int .u32 0, .bool false, .int .u32 0, .int .u32 0, .int .u32 0, .int .u32 0, .int .u32 0, .int .u64 0, .int .u64 0, .int .u64 0, .int .u32 0, .int .u32 0, .int .u32 0, .int .u32 0, .int .u32 0, .int .u32 0] #[.bool false, .int .u64 0, .int .u32 0, .int .u32 0, .int .u32 0, .int .u32 0, .bool false, .int .u32 0, .int .u32 0, .int .u32 0, .int .u32 0, .int .u32 0, .int .u64 0, .int .u64 0, .int .u64 0, .int .u32 0, .int .u32 0, .int .u32 0, .int .u32 0, .int .u32 0, .int .u32 0] := A1.store hqh hpq hq0 (by simp [noU8]) (setCell_same (k := 0) A1.z _) (grown_cell _ _ _ _)
  clear A1 c0 f0
  generalize (U1.setCell ⟨W.heap.size + 1, 0, none⟩ (.bool y1)) = X1 at *
  go_cut [3] from 4 (fun sp wx => ∃ (v1 : Bool × Int × (Int × Int) × (Int × Int)) (s1 : Rd), sp = .pointer (some ⟨W.heap.size + 1, 0, none⟩) ∧ Aft (optC befC) s v1 s1 ∧ Nr W h a len cap zs (W.heap.size + 1) W.heap.size 43 wx s1 #[.bool v1.1, .int .u64 v1.2.1, .int .u32 v1.2.2.1.1, .int .u32 v1.2.2.1.2, .int .u32 v1.2.2.2.1, .int .u32 v1.2.2.2.2, .bool false, .int .u32 0, .int .u32 0, .int .u32 0, .int .u32 0, .int .u32 0, .int .u64 0, .int .u64 0, .int .u64 0, .int .u32 0, .int .u32 0, .int .u32 0, .int .u32 0, .int .u32 0, .int .u32 0] #[.bool false, .int .u64 0, .int .u32 0, .int .u32 0, .int .u32 0, .int .u32 0, .bool false, .int .u32 0, .int .u32 0, .int .u32 0, .int .u32 0, .int .u32 0, .int .u64 0, .int .u64 0, .int .u64 0, .int .u32 0, .int .u32 0, .int .u32 0, .int .u32 0, .int .u32 0, .int .u32 0])
  case first =>
    cases y1 with
    | false =>
      go_wp2_with fail
      go_meet
      case rel => exact ⟨(false, 0, (0, 0), (0, 0)), t1, rfl, aft_dep ya1 (.inr ⟨rfl, rfl, rfl⟩), B1⟩
    | true =>
      go_wp2_with fail
      refine (rd_long h a len cap zs t1 X1 B1.r B1.on hlc hm hz hb B1.seg).mono ?_
      rintro e U2 ⟨z1, t2, rfl, hR, hO, ya2, hg⟩
      have A2 := B1.call hqh hph hg hR hO
      clear hg hR hO B1
      have c1 : U2.cell? ⟨W.heap.size + 1, 1, none⟩ = some (.int .u64 0) := by simp [World.cell?, A2.z]
      have f1 : U2.frozen? ⟨W.heap.size + 1, 1, none⟩ = false := by simp [World.frozen?, A2.z]
      go_wp2_with fail
      have B2 : Nr W h a len cap zs (W.heap.size + 1) W.heap.size 43 (U2.setCell ⟨W.heap.size + 1, 1, none⟩ (.int .u64 z1)) t2 #[.bool true, .int .u64 z1, .int .u32 0, .int .u32 0, .int .u32 0, .int .u32 0, .bool false, .int .u32 0, .int .u32 0, .int .u32 0, .int .u32 0, .int .u32 0, .int .u64 0, .int .u64 0, .int .u64 0, .int .u32 0, .int .u32 0, .int .u32 0, .int .u32 0, .int .u32 0, .int .u32 0] #[.bool false, .int .u64 0, .int .u32 0, .int .u32 0, .int .u32 0, .int .u32 0, .bool false, .int .u32 0, .int .u32 0, .int .u32 0, .int .u32 0, .int .u32 0, .int .u64 0, .int .u64 0, .int .u64 0, .int .u32 0, .int .u32 0, .int .u32 0, .int .u32 0, .int .u32 0, .int .u32 0] := A2.store hqh hpq hq0 (by simp [noU8]) (setCell_same (k := 1) A2.z _) (grown_cell _ _ _ _)
      clear A2 c1 f1
      generalize (U2.setCell ⟨W.heap.size + 1, 1, none⟩ (.int .u64 z1)) = X2 at *
      refine (rd_time h a len cap zs t2 X2 B2.r B2.on hlc hm hz hb B2.seg).mono ?_
      rintro e U3 ⟨x3, y3, t3, rfl, hR, hO, ya3, hg⟩
      have A3 := B2.call hqh hph hg hR hO
      clear hg hR hO B2
      have c2 : U3.cell? ⟨W.heap.size + 1, 2, none⟩ = some (.int .u32 0) := by simp [World.cell?, A3.z]
      have f2 : U3.frozen? ⟨W.heap.size + 1, 2, none⟩ = false := by simp [World.frozen?, A3.z]
      have c3 : U3.cell? ⟨W.heap.size + 1, 3, none⟩ = some (.int .u32 0) := by simp [World.cell?, A3.z]
      have f3 : U3.frozen? ⟨W.heap.size + 1, 3, none⟩ = false := by simp [World.frozen?, A3.z]
      go_wp2_with fail
      have G3 : Nr W h a len cap zs (W.heap.size + 1) W.heap.size 43 (U3.setCell ⟨W.heap.size + 1, 2, none⟩ (.int .u32 x3)) t3 #[.bool true, .int .u64 z1, .int .u32 x3, .int .u32 0, .int .u32 0, .int .u32 0, .bool false, .int .u32 0, .int .u32 0, .int .u32 0, .int .u32 0, .int .u32 0, .int .u64 0, .int .u64 0, .int .u64 0, .int .u32 0, .int .u32 0, .int .u32 0, .int .u32 0, .int .u32 0, .int .u32 0] #[.bool false, .int .u64 0, .int .u32 0, .int .u32 0, .int .u32 0, .int .u32 0, .bool false, .int .u32 0, .int .u32 0, .int .u32 0, .int .u32 0, .int .u32 0, .int .u64 0, .int .u64 0, .int .u64 0, .int .u32 0, .int .u32 0, .int .u32 0, .int .u32 0, .int .u32 0, .int .u32 0] := A3.store hqh hpq hq0 (by simp [noU8]) (setCell_same (k := 2) A3.z _) (grown_cell _ _ _ _)
      have B3 : Nr W h a len cap zs (W.heap.size + 1) W.heap.size 43 ((U3.setCell ⟨W.heap.size + 1, 2, none⟩ (.int .u32 x3)).setCell ⟨W.heap.size + 1, 3, none⟩ (.int .u32 y3)) t3 #[.bool true, .int .u64 z1, .int .u32 x3, .int .u32 y3, .int .u32 0, .int .u32 0, .bool false, .int .u32 0, .int .u32 0, .int .u32 0, .int .u32 0, .int .u32 0, .int .u64 0, .int .u64 0, .int .u64 0, .int .u32 0, .int .u32 0, .int .u32 0, .int .u32 0, .int .u32 0, .int .u32 0] #[.bool false, .int .u64 0, .int .u32 0, .int .u32 0, .int .u32 0, .int .u32 0, .bool false, .int .u32 0, .int .u32 0, .int .u32 0, .int .u32 0, .int .u32 0, .int .u64 0, .int .u64 0, .int .u64 0, .int .u32 0, .int .u32 0, .int .u32 0, .int .u32 0, .int .u32 0, .int .u32 0] := G3.store hqh hpq hq0 (by simp [noU8]) (setCell_same (k := 3) G3.z _) (grown_cell _ _ _ _)
      clear A3 G3 c2 f2 c3 f3
      generalize ((U3.setCell ⟨W.heap.size + 1, 2, none⟩ (.int .u32 x3)).setCell ⟨W.heap.size + 1, 3, none⟩ (.int .u32 y3)) = X3 at *
      refine (rd_time h a len cap zs t3 X3 B3.r B3.on hlc hm hz hb B3.seg).mono ?_
      rintro e U4 ⟨x4, y4, t4, rfl, hR, hO, ya4, hg⟩
      have A4 := B3.call hqh hph hg hR hO
      clear hg hR hO B3
      have c4 : U4.cell? ⟨W.heap.size + 1, 4, none⟩ = some (.int .u32 0) := by simp [World.cell?, A4.z]
      have f4 : U4.frozen? ⟨W.heap.size + 1, 4, none⟩ = false := by simp [World.frozen?, A4.z]
      have c5 : U4.cell? ⟨W.heap.size + 1, 5, none⟩ = some (.int .u32 0) := by simp [World.cell?, A4.z]
      have f5 : U4.frozen? ⟨W.heap.size + 1, 5, none⟩ = false := by simp [World.frozen?, A4.z]
      go_wp2_with fail
      have G4 : Nr W h a len cap zs (W.heap.size + 1) W.heap.size 43 (U4.setCell ⟨W.heap.size + 1, 4, none⟩ (.int .u32 x4)) t4 #[.bool true, .int .u64 z1, .int .u32 x3, .int .u32 y3, .int .u32 x4, .int .u32 0, .bool false, .int .u32 0, .int .u32 0, .int .u32 0, .int .u32 0, .int .u32 0, .int .u64 0, .int .u64 0, .int .u64 0, .int .u32 0, .int .u32 0, .int .u32 0, .int .u32 0, .int .u32 0, .int .u32 0] #[.bool false, .int .u64 0, .int .u32 0, .int .u32 0, .int .u32 0, .int .u32 0, .bool false, .int .u32 0, .int .u32 0, .int .u32 0, .int .u32 0, .int .u32 0, .int .u64 0, .int .u64 0, .int .u64 0, .int .u32 0, .int .u32 0, .int .u32 0, .int .u32 0, .int .u32 0, .int .u32 0] := A4.store hqh hpq hq0 (by simp [noU8]) (setCell_same (k := 4) A4.z _) (grown_cell _ _ _ _)
      have B4 : Nr W h a len cap zs (W.heap.size + 1) W.heap.size 43 ((U4.setCell ⟨W.heap.size + 1, 4, none⟩ (.int .u32 x4)).setCell ⟨W.heap.size + 1, 5, none⟩ (.int .u32 y4)) t4 #[.bool true, .int .u64 z1, .int .u32 x3, .int .u32 y3, .int .u32 x4, .int .u32 y4, .bool false, .int .u32 0, .int .u32 0, .int .u32 0, .int .u32 0, .int .u32 0, .int .u64 0, .int .u64 0, .int .u64 0, .int .u32 0, .int .u32 0, .int .u32 0, .int .u32 0, .int .u32 0, .int .u32 0] #[.bool false, .int .u64 0, .int .u32 0, .int .u32 0, .int .u32 0, .int .u32 0, .bool false, .int .u32 0, .int .u32 0, .int .u32 0, .int .u32 0, .int .u32 0, .int .u64 0, .int .u64 0, .int .u64 0, .int .u32 0, .int .u32 0, .int .u32 0, .int .u32 0, .int .u32 0, .int .u32 0] := G4.store hqh hpq hq0 (by simp [noU8]) (setCell_same (k := 5) G4.z _) (grown_cell _ _ _ _)
      clear A4 G4 c4 f4 c5 f5
      generalize ((U4.setCell ⟨W.heap.size + 1, 4, none⟩ (.int .u32 x4)).setCell ⟨W.heap.size + 1, 5, none⟩ (.int .u32 y4)) = X4 at *
      go_meet
      case rel => exact ⟨(true, z1, (x3, y3), (x4, y4)), t4, rfl, aft_dep ya1 (.inl ⟨rfl, aft_seq ya2 (aft_seq ya3 ya4)⟩), B4⟩
  case rest =>
    clear ya1 B1
    obtain ⟨v1, s1, rfl, aft1, F1⟩ := hcut
    generalize wc = V1 at *
    go_wp2_with fail
    refine (rd_yes h a len cap zs s1 V1 F1.r F1.on hlc hm hz hb F1.seg).mono ?_
    rintro e U5 ⟨y5, t5, rfl, hR, hO, ya5, hg⟩
    have A5 := F1.call hqh hph hg hR hO
    clear hg hR hO F1
    have c6 : U5.cell? ⟨W.heap.size + 1, 6, none⟩ = some (.bool false) := by simp [World.cell?, A5.z]
    have f6 : U5.frozen? ⟨W.heap.size + 1, 6, none⟩ = false := by simp [World.frozen?, A5.z]
    go_upto_if 22 with fail
    have B5 : Nr W h a len cap zs (W.heap.size + 1) W.heap.size 43 (U5.setCell ⟨W.heap.size + 1, 6, none⟩ (.bool y5)) t5 #[.bool v1.1, .int .u64 v1.2.1, .int .u32 v1.2.2.1.1, .int .u32 v1.2.2.1.2, .int .u32 v1.2.2.2.1, .int .u32 v1.2.2.2.2, .bool y5, .int .u32 0, .int .u32 0, .int .u32 0, .int .u32 0, .int .u32 0, .int .u64 0, .int .u64 0, .int .u64 0, .int .u32 0, .int .u32 0, .int .u32 0, .int .u32 0, .int .u32 0, .int .u32 0] #[.bool false, .int .u64 0, .int .u32 0, .int .u32 0, .int .u32 0, .int .u32 0, .bool false, .int .u32 0, .int .u32 0, .int .u32 0, .int .u32 0, .int .u32 0, .int .u64 0, .int .u64 0, .int .u64 0, .int .u32 0, .int .u32 0, .int .u32 0, .int .u32 0, .int .u32 0, .int .u32 0] := A5.store hqh hpq hq0 (by simp [noU8]) (setCell_same (k := 6) A5.z _) (grown_cell _ _ _ _)
    clear A5 c6 f6
    generalize (U5.setCell ⟨W.heap.size + 1, 6, none⟩ (.bool y5)) = X5 at *
    go_cut [3] from 4 (fun sp wx => ∃ (v2 : Bool × Atr) (s2 : Rd), sp = .pointer (some ⟨W.heap.size + 1, 0, none⟩) ∧ Aft (optC attrC) s1 v2 s2 ∧ Nr W h a len cap zs (W.heap.size + 1) W.heap.size 43 wx s2 #[.bool v1.1, .int .u64 v1.2.1, .int .u32 v1.2.2.1.1, .int .u32 v1.2.2.1.2, .int .u32 v1.2.2.2.1, .int .u32 v1.2.2.2.2, .bool v2.1, .int .u32 v2.2.kind, .int .u32 v2.2.mode, .int .u32 v2.2.links, .int .u32 v2.2.user, .int .u32 v2.2.group, .int .u64 v2.2.size, .int .u64 v2.2.used, .int .u64 v2.2.id, .int .u32 v2.2.rs, .int .u32 v2.2.rn, .int .u32 v2.2.ws, .int .u32 v2.2.wn, .int .u32 v2.2.ts, .int .u32 v2.2.tn] #[.bool false, .int .u64 0, .int .u32 0, .int .u32 0, .int .u32 0, .int .u32 0, .bool false, .int .u32 0, .int .u32 0, .int .u32 0, .int .u32 0, .int .u32 0, .int .u64 0, .int .u64 0, .int .u64 0, .int .u32 0, .int .u32 0, .int .u32 0, .int .u32 0, .int .u32 0, .int .u32 0])
    case first =>
      cases y5 with
      | false =>
        go_wp2_with fail
        go_meet
        case rel => exact ⟨(false, zeroA), t5, rfl, aft_dep ya5 (.inr ⟨rfl, rfl, rfl⟩), B5⟩
      | true =>
        go_wp2_with fail
        refine (rd_attrs h a len cap zs t5 X5 B5.r B5.on hlc hm hz hb B5.seg).mono ?_
        rintro e U6 ⟨x, t6, rfl, hR, hO, ya6, hg⟩
        have A6 := B5.call hqh hph hg hR hO
        clear hg hR hO B5
        have hMz := A6.z
        go_wp2_with (refine wpList_store_part rfl 31 _ _ rfl (W.heap.size + 1) 7 [.int .u32 x.kind, .int .u32 x.mode, .int .u32 x.links, .int .u32 x.user, .int .u32 x.group, .int .u64 x.size, .int .u64 x.used, .int .u64 x.id, .int .u32 x.rs, .int .u32 x.rn, .int .u32 x.ws, .int .u32 x.wn, .int .u32 x.ts, .int .u32 x.tn] rfl rfl 43 #[.bool v1.1, .int .u64 v1.2.1, .int .u32 v1.2.2.1.1, .int .u32 v1.2.2.1.2, .int .u32 v1.2.2.2.1, .int .u32 v1.2.2.2.2, .bool true, .int .u32 0, .int .u32 0, .int .u32 0, .int .u32 0, .int .u32 0, .int .u64 0, .int .u64 0, .int .u64 0, .int .u32 0, .int .u32 0, .int .u32 0, .int .u32 0, .int .u32 0, .int .u32 0] hMz a_info (by simp) (by simp [Value.oneCell']) #[.bool v1.1, .int .u64 v1.2.1, .int .u32 v1.2.2.1.1, .int .u32 v1.2.2.1.2, .int .u32 v1.2.2.2.1, .int .u32 v1.2.2.2.2, .bool true, .int .u32 x.kind, .int .u32 x.mode, .int .u32 x.links, .int .u32 x.user, .int .u32 x.group, .int .u64 x.size, .int .u64 x.used, .int .u64 x.id, .int .u32 x.rs, .int .u32 x.rn, .int .u32 x.ws, .int .u32 x.wn, .int .u32 x.ts, .int .u32 x.tn] (by rfl) ?_; intro X7 hr7 hg7 hs7)
        have B7 : Nr W h a len cap zs (W.heap.size + 1) W.heap.size 43 X7 t6 #[.bool v1.1, .int .u64 v1.2.1, .int .u32 v1.2.2.1.1, .int .u32 v1.2.2.1.2, .int .u32 v1.2.2.2.1, .int .u32 v1.2.2.2.2, .bool true, .int .u32 x.kind, .int .u32 x.mode, .int .u32 x.links, .int .u32 x.user, .int .u32 x.group, .int .u64 x.size, .int .u64 x.used, .int .u64 x.id, .int .u32 x.rs, .int .u32 x.rn, .int .u32 x.ws, .int .u32 x.wn, .int .u32 x.ts, .int .u32 x.tn] #[.bool false, .int .u64 0, .int .u32 0, .int .u32 0, .int .u32 0, .int .u32 0, .bool false, .int .u32 0, .int .u32 0, .int .u32 0, .int .u32 0, .int .u32 0, .int .u64 0, .int .u64 0, .int .u64 0, .int .u32 0, .int .u32 0, .int .u32 0, .int .u32 0, .int .u32 0, .int .u32 0] := A6.store hqh hpq hq0 (by simp [noU8]) hr7 hg7
        go_meet
        case rel => exact ⟨(true, x), t6, rfl, aft_dep ya5 (.inl ⟨rfl, ya6⟩), B7⟩
    case rest =>
      clear ya5 B5
      obtain ⟨v2, s2, rfl, aft2, F2⟩ := hcut
      generalize wc = V2 at *
      have hMz := F2.z
      have hMy := F2.y
      have hd : Aft weakC s (ofRawW (v1, v2)) s2 := aft_iso (aft_seq aft1 aft2)
      clear aft1 aft2
      obtain ⟨cs, hcs⟩ : ∃ cs : Array Value, (#[.bool v1.1, .int .u64 v1.2.1, .int .u32 v1.2.2.1.1, .int .u32 v1.2.2.1.2, .int .u32 v1.2.2.2.1, .int .u32 v1.2.2.2.2, .bool v2.1, .int .u32 v2.2.kind, .int .u32 v2.2.mode, .int .u32 v2.2.links, .int .u32 v2.2.user, .int .u32 v2.2.group, .int .u64 v2.2.size, .int .u64 v2.2.used, .int .u64 v2.2.id, .int .u32 v2.2.rs, .int .u32 v2.2.rn, .int .u32 v2.2.ws, .int .u32 v2.2.wn, .int .u32 v2.2.ts, .int .u32 v2.2.tn] : Array Value) = cs := ⟨_, rfl⟩
      have hsz : cs.size = 21 := by rw [← hcs]; rfl
      have hone : cs.all (·.oneCell') = true := by rw [← hcs]; simp [Value.oneCell']
      have hinf : (Try.prog.info? 43).map (·.size) = some cs.size := by rw [hsz]; exact wk_info
      have hv : wkV (ofRawW (v1, v2)) = .agg cs := by rw [← hcs]; rfl
      rw [hcs] at hMz
      go_wp2_with (first
          | (refine wpList_load_row rfl _ _ rfl (W.heap.size + 1) rfl 43 cs (0, 0) _ ?_ Try.underlying43 rfl hinf ?_; exact hMz)
          | (refine wpList_store_whole rfl 43 _ _ rfl W.heap.size cs rfl rfl 43 #[.bool false, .int .u64 0, .int .u32 0, .int .u32 0, .int .u32 0, .int .u32 0, .bool false, .int .u32 0, .int .u32 0, .int .u32 0, .int .u32 0, .int .u32 0, .int .u64 0, .int .u64 0, .int .u64 0, .int .u32 0, .int .u32 0, .int .u32 0, .int .u32 0, .int .u32 0, .int .u32 0] ?_ hinf (by rw [hsz]; rfl) hone ?_; exact hMy; intro VV hr9 hg9 hs9))
      have hR : Rr VV h a len cap s2 := (hg9.block h F2.r.lt (fun e => hph (Option.some.inj e).symm)).trans F2.r
      exact bodyPost_ret (results_cell_row (p := 2) (ty := 43) rfl _ _ W.heap.size 43 _ (0, 0) _ (by rfl) hr9 Try.underlying43 rfl hinf) rfl ⟨ofRawW (v1, v2), s2, by rw [hv], hR, F2.on, hd, F2.g.andThen hg9 (fun j e => .inl (by have := Option.some.inj e; omega))⟩
end Go.Proofs.Ytecbhhfncklefaa
