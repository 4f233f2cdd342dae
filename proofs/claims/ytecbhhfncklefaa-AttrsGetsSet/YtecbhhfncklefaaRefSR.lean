/- 'Set' of the document's reader: what is to be set, next; nothing but the reader turns. -/
import Derived.Test.YtecbhhfncklefaaRefBox
import Derived.Test.YtecbhhfncklefaaRefRdT
import Derived.Test.YtecbhhfncklefaaPSetR
import Derived.Deep.Cut
namespace Go.Proofs.Ytecbhhfncklefaa
set_option linter.unusedVariables false
open Go.RowKit

set_option maxRecDepth 100000 in
set_option maxHeartbeats 8000000 in
theorem rd_set (h : Nat) (a : Option Addr) (len cap : Nat) (zs : List Int) (s : Rd) (W : World) (hr : Rr W h a len cap s) (ho : s.On zs) (hlc : len ≤ cap) (hm : cap ≤ 9223372036854775807) (hz : zs.length = len) (hb : Byt zs) (hs : Seg W a zs) :
    Calls Try.prog 23 #[.pointer (some ⟨h, 0, none⟩)] W fun e W' => ∃ v s', e = .returned (stV v) ∧ Rr W' h a len cap s' ∧ s'.On zs ∧ Aft setC s v s' ∧ W.grownBy W' (some h) := by
  have hlt := hr.lt
  have hqh : W.heap.size + 1 ≠ h := by omega
  have hph : W.heap.size ≠ h := by omega
  have hpq : W.heap.size ≠ W.heap.size + 1 := by omega
  have hq0 : W.heap.size ≤ W.heap.size + 1 := by omega
  have b0 : Below W.heap.size W (W.alloc (.cells #[.bool false, .int .u32 0, .bool false, .int .u32 0, .bool false, .int .u32 0, .bool false, .int .u64 0, .int .u32 0, .int .u32 0, .int .u32 0, .int .u32 0, .int .u32 0, .int .u32 0] 39)) := (Below.refl _ _).alloc (Nat.le_refl _) _
  have b1 := b0.alloc b0.size (.cells #[.bool false, .int .u32 0, .bool false, .int .u32 0, .bool false, .int .u32 0, .bool false, .int .u64 0, .int .u32 0, .int .u32 0, .int .u32 0, .int .u32 0, .int .u32 0, .int .u32 0] 39)
  have y0 := World.alloc_heap_new W (.cells #[.bool false, .int .u32 0, .bool false, .int .u32 0, .bool false, .int .u32 0, .bool false, .int .u64 0, .int .u32 0, .int .u32 0, .int .u32 0, .int .u32 0, .int .u32 0, .int .u32 0] 39)
  have z0 := World.alloc_heap_new (W.alloc (.cells #[.bool false, .int .u32 0, .bool false, .int .u32 0, .bool false, .int .u32 0, .bool false, .int .u64 0, .int .u32 0, .int .u32 0, .int .u32 0, .int .u32 0, .int .u32 0, .int .u32 0] 39)) (.cells #[.bool false, .int .u32 0, .bool false, .int .u32 0, .bool false, .int .u32 0, .bool false, .int .u64 0, .int .u32 0, .int .u32 0, .int .u32 0, .int .u32 0, .int .u32 0, .int .u32 0] 39)
  rw [show (W.alloc (.cells #[.bool false, .int .u32 0, .bool false, .int .u32 0, .bool false, .int .u32 0, .bool false, .int .u64 0, .int .u32 0, .int .u32 0, .int .u32 0, .int .u32 0, .int .u32 0, .int .u32 0] 39)).heap.size = W.heap.size + 1 by simp] at z0
  replace y0 := (Below.heap_alloc (W.alloc (.cells #[.bool false, .int .u32 0, .bool false, .int .u32 0, .bool false, .int .u32 0, .bool false, .int .u64 0, .int .u32 0, .int .u32 0, .int .u32 0, .int .u32 0, .int .u32 0, .int .u32 0] 39)) (.cells #[.bool false, .int .u32 0, .bool false, .int .u32 0, .bool false, .int .u32 0, .bool false, .int .u64 0, .int .u32 0, .int .u32 0, .int .u32 0, .int .u32 0, .int .u32 0, .int .u32 0] 39) W.heap.size (by simp)).trans y0
  have N0 : Nr W h a len cap zs (W.heap.size + 1) W.heap.size 39 ((W.alloc (.cells #[.bool false, .int .u32 0, .bool false, .int .u32 0, .bool false, .int .u32 0, .bool false, .int .u64 0, .int .u32 0, .int .u32 0, .int .u32 0, .int .u32 0, .int .u32 0, .int .u32 0] 39)).alloc (.cells #[.bool false, .int .u32 0, .bool false, .int .u32 0, .bool false, .int .u32 0, .bool false, .int .u64 0, .int .u32 0, .int .u32 0, .int .u32 0, .int .u32 0, .int .u32 0, .int .u32 0] 39)) s #[.bool false, .int .u32 0, .bool false, .int .u32 0, .bool false, .int .u32 0, .bool false, .int .u64 0, .int .u32 0, .int .u32 0, .int .u32 0, .int .u32 0, .int .u32 0, .int .u32 0] #[.bool false, .int .u32 0, .bool false, .int .u32 0, .bool false, .int .u32 0, .bool false, .int .u64 0, .int .u32 0, .int .u32 0, .int .u32 0, .int .u32 0, .int .u32 0, .int .u32 0] := ⟨grown_below b1 _, hr.next b1, ho, hs.below b1, z0, y0⟩
  clear hr ho hs b0 b1 y0 z0 hlt
  go_enter Try.func23, Try.ntmps23
  go_wp2_with fail
  generalize ((W.alloc (.cells #[.bool false, .int .u32 0, .bool false, .int .u32 0, .bool false, .int .u32 0, .bool false, .int .u64 0, .int .u32 0, .int .u32 0, .int .u32 0, .int .u32 0, .int .u32 0, .int .u32 0] 39)).alloc (.cells #[.bool false, .int .u32 0, .bool false, .int .u32 0, .bool false, .int .u32 0, .bool false, .int .u64 0, .int .u32 0, .int .u32 0, .int .u32 0, .int .u32 0, .int .u32 0, .int .u32 0] 39)) = V0 at *
  refine (rd_yes h a len cap zs s V0 N0.r N0.on hlc hm hz hb N0.seg).mono ?_
  rintro e U1 ⟨y1, t1, rfl, hR, hO, ya1, hg⟩
  have A1 := N0.call hqh hph hg hR hO
  clear hg hR hO N0
  have c0 : U1.cell? ⟨W.heap.size + 1, 0, none⟩ = some (.bool false) := by simp [World.cell?, A1.z]
  have f0 : U1.frozen? ⟨W.heap.size + 1, 0, none⟩ = false := by simp [World.frozen?, A1.z]
  go_upto_if 8 with fail
  have B1 : Nr W h a len cap zs (W.heap.size + 1) W.heap.size 39 (U1.setCell ⟨W.heap.size + 1, 0, none⟩ (.bool y1)) t1 #[.bool y1, .int .u32 0, .bool false, .int .u32 0, .bool false, .int .u32 0, .bool false, .int .u64 0, .int .u32 0, .int .u32 0, .int .u32 0, .int .u32 0, .int .u32 0, .int .u32 0] #[.bool false, .int .u32 0, .bool false, .int .u32 0, .bool false, .int .u32 0, .bool false, .int .u64 0, .int .u32 0, .int .u32 0, .int .u32 0, .int .u32 0, .int .u32 0, .int .u32 0] := A1.store hqh hpq hq0 (by simp [noU8]) (setCell_same (k := 0) A1.z _) (grown_cell _ _ _ _)
  clear A1 c0 f0
  generalize (U1.setCell ⟨W.heap.size + 1, 0, none⟩ (.bool y1)) = X1 at *
  go_cut [3] from 4 (fun sp wx => ∃ (v1 : Bool × Int) (s1 : Rd), sp = .pointer (some ⟨W.heap.size + 1, 0, none⟩) ∧ Aft (optC modeC) s v1 s1 ∧ Nr W h a len cap zs (W.heap.size + 1) W.heap.size 39 wx s1 #[.bool v1.1, .int .u32 v1.2, .bool false, .int .u32 0, .bool false, .int .u32 0, .bool false, .int .u64 0, .int .u32 0, .int .u32 0, .int .u32 0, .int .u32 0, .int .u32 0, .int .u32 0] #[.bool false, .int .u32 0, .bool false, .int .u32 0, .bool false, .int .u32 0, .bool false, .int .u64 0, .int .u32 0, .int .u32 0, .int .u32 0, .int .u32 0, .int .u32 0, .int .u32 0])
  case first =>
    cases y1 with
    | false =>
      go_wp2_with fail
      go_meet
      case rel => exact ⟨(false, 0), t1, rfl, aft_dep ya1 (.inr ⟨rfl, rfl, rfl⟩), B1⟩
    | true =>
      go_wp2_with fail
      refine (rd_number h a len cap zs t1 X1 B1.r B1.on hlc hm hz hb B1.seg).mono ?_
      rintro e Y1 ⟨x1, r1, rfl, hR, hO, xa1, hg⟩
      have C1 := B1.call hqh hph hg hR hO
      clear hg hR hO B1
      have c1 : Y1.cell? ⟨W.heap.size + 1, 1, none⟩ = some (.int .u32 0) := by simp [World.cell?, C1.z]
      have f1 : Y1.frozen? ⟨W.heap.size + 1, 1, none⟩ = false := by simp [World.frozen?, C1.z]
      go_wp2_with fail
      have D1 : Nr W h a len cap zs (W.heap.size + 1) W.heap.size 39 (Y1.setCell ⟨W.heap.size + 1, 1, none⟩ (.int .u32 x1)) r1 #[.bool true, .int .u32 x1, .bool false, .int .u32 0, .bool false, .int .u32 0, .bool false, .int .u64 0, .int .u32 0, .int .u32 0, .int .u32 0, .int .u32 0, .int .u32 0, .int .u32 0] #[.bool false, .int .u32 0, .bool false, .int .u32 0, .bool false, .int .u32 0, .bool false, .int .u64 0, .int .u32 0, .int .u32 0, .int .u32 0, .int .u32 0, .int .u32 0, .int .u32 0] := C1.store hqh hpq hq0 (by simp [noU8]) (setCell_same (k := 1) C1.z _) (grown_cell _ _ _ _)
      clear C1 c1 f1
      generalize (Y1.setCell ⟨W.heap.size + 1, 1, none⟩ (.int .u32 x1)) = Z1 at *
      refine (rd_must h a len cap r1 (decide (x1 ≤ 4095)) Z1 D1.r).mono ?_
      rintro e M1 ⟨rfl, hR, hg⟩
      have E1 := D1.call hqh hph hg hR (on_must D1.on)
      clear hg hR D1
      go_wp2_with fail
      go_meet
      case rel => exact ⟨(true, x1), _, rfl, aft_dep ya1 (.inl ⟨rfl, aft_must xa1⟩), E1⟩
  case rest =>
    clear ya1 B1
    obtain ⟨v1, s1, rfl, aft1, F1⟩ := hcut
    generalize wc = V1 at *
    go_wp2_with fail
    refine (rd_yes h a len cap zs s1 V1 F1.r F1.on hlc hm hz hb F1.seg).mono ?_
    rintro e U2 ⟨y2, t2, rfl, hR, hO, ya2, hg⟩
    have A2 := F1.call hqh hph hg hR hO
    clear hg hR hO F1
    have c2 : U2.cell? ⟨W.heap.size + 1, 2, none⟩ = some (.bool false) := by simp [World.cell?, A2.z]
    have f2 : U2.frozen? ⟨W.heap.size + 1, 2, none⟩ = false := by simp [World.frozen?, A2.z]
    go_upto_if 21 with fail
    have B2 : Nr W h a len cap zs (W.heap.size + 1) W.heap.size 39 (U2.setCell ⟨W.heap.size + 1, 2, none⟩ (.bool y2)) t2 #[.bool v1.1, .int .u32 v1.2, .bool y2, .int .u32 0, .bool false, .int .u32 0, .bool false, .int .u64 0, .int .u32 0, .int .u32 0, .int .u32 0, .int .u32 0, .int .u32 0, .int .u32 0] #[.bool false, .int .u32 0, .bool false, .int .u32 0, .bool false, .int .u32 0, .bool false, .int .u64 0, .int .u32 0, .int .u32 0, .int .u32 0, .int .u32 0, .int .u32 0, .int .u32 0] := A2.store hqh hpq hq0 (by simp [noU8]) (setCell_same (k := 2) A2.z _) (grown_cell _ _ _ _)
    clear A2 c2 f2
    generalize (U2.setCell ⟨W.heap.size + 1, 2, none⟩ (.bool y2)) = X2 at *
    go_cut [3] from 4 (fun sp wx => ∃ (v2 : Bool × Int) (s2 : Rd), sp = .pointer (some ⟨W.heap.size + 1, 0, none⟩) ∧ Aft (optC (numC 4)) s1 v2 s2 ∧ Nr W h a len cap zs (W.heap.size + 1) W.heap.size 39 wx s2 #[.bool v1.1, .int .u32 v1.2, .bool v2.1, .int .u32 v2.2, .bool false, .int .u32 0, .bool false, .int .u64 0, .int .u32 0, .int .u32 0, .int .u32 0, .int .u32 0, .int .u32 0, .int .u32 0] #[.bool false, .int .u32 0, .bool false, .int .u32 0, .bool false, .int .u32 0, .bool false, .int .u64 0, .int .u32 0, .int .u32 0, .int .u32 0, .int .u32 0, .int .u32 0, .int .u32 0])
    case first =>
      cases y2 with
      | false =>
        go_wp2_with fail
        go_meet
        case rel => exact ⟨(false, 0), t2, rfl, aft_dep ya2 (.inr ⟨rfl, rfl, rfl⟩), B2⟩
      | true =>
        go_wp2_with fail
        refine (rd_number h a len cap zs t2 X2 B2.r B2.on hlc hm hz hb B2.seg).mono ?_
        rintro e Y2 ⟨x2, r2, rfl, hR, hO, xa2, hg⟩
        have C2 := B2.call hqh hph hg hR hO
        clear hg hR hO B2
        have c3 : Y2.cell? ⟨W.heap.size + 1, 3, none⟩ = some (.int .u32 0) := by simp [World.cell?, C2.z]
        have f3 : Y2.frozen? ⟨W.heap.size + 1, 3, none⟩ = false := by simp [World.frozen?, C2.z]
        go_wp2_with fail
        have D2 : Nr W h a len cap zs (W.heap.size + 1) W.heap.size 39 (Y2.setCell ⟨W.heap.size + 1, 3, none⟩ (.int .u32 x2)) r2 #[.bool v1.1, .int .u32 v1.2, .bool true, .int .u32 x2, .bool false, .int .u32 0, .bool false, .int .u64 0, .int .u32 0, .int .u32 0, .int .u32 0, .int .u32 0, .int .u32 0, .int .u32 0] #[.bool false, .int .u32 0, .bool false, .int .u32 0, .bool false, .int .u32 0, .bool false, .int .u64 0, .int .u32 0, .int .u32 0, .int .u32 0, .int .u32 0, .int .u32 0, .int .u32 0] := C2.store hqh hpq hq0 (by simp [noU8]) (setCell_same (k := 3) C2.z _) (grown_cell _ _ _ _)
        clear C2 c3 f3
        generalize (Y2.setCell ⟨W.heap.size + 1, 3, none⟩ (.int .u32 x2)) = Z2 at *
        go_meet
        case rel => exact ⟨(true, x2), r2, rfl, aft_dep ya2 (.inl ⟨rfl, xa2⟩), D2⟩
    case rest =>
      clear ya2 B2
      obtain ⟨v2, s2, rfl, aft2, F2⟩ := hcut
      generalize wc = V2 at *
      go_wp2_with fail
      refine (rd_yes h a len cap zs s2 V2 F2.r F2.on hlc hm hz hb F2.seg).mono ?_
      rintro e U3 ⟨y3, t3, rfl, hR, hO, ya3, hg⟩
      have A3 := F2.call hqh hph hg hR hO
      clear hg hR hO F2
      have c4 : U3.cell? ⟨W.heap.size + 1, 4, none⟩ = some (.bool false) := by simp [World.cell?, A3.z]
      have f4 : U3.frozen? ⟨W.heap.size + 1, 4, none⟩ = false := by simp [World.frozen?, A3.z]
      go_upto_if 29 with fail
      have B3 : Nr W h a len cap zs (W.heap.size + 1) W.heap.size 39 (U3.setCell ⟨W.heap.size + 1, 4, none⟩ (.bool y3)) t3 #[.bool v1.1, .int .u32 v1.2, .bool v2.1, .int .u32 v2.2, .bool y3, .int .u32 0, .bool false, .int .u64 0, .int .u32 0, .int .u32 0, .int .u32 0, .int .u32 0, .int .u32 0, .int .u32 0] #[.bool false, .int .u32 0, .bool false, .int .u32 0, .bool false, .int .u32 0, .bool false, .int .u64 0, .int .u32 0, .int .u32 0, .int .u32 0, .int .u32 0, .int .u32 0, .int .u32 0] := A3.store hqh hpq hq0 (by simp [noU8]) (setCell_same (k := 4) A3.z _) (grown_cell _ _ _ _)
      clear A3 c4 f4
      generalize (U3.setCell ⟨W.heap.size + 1, 4, none⟩ (.bool y3)) = X3 at *
      go_cut [3] from 4 (fun sp wx => ∃ (v3 : Bool × Int) (s3 : Rd), sp = .pointer (some ⟨W.heap.size + 1, 0, none⟩) ∧ Aft (optC (numC 4)) s2 v3 s3 ∧ Nr W h a len cap zs (W.heap.size + 1) W.heap.size 39 wx s3 #[.bool v1.1, .int .u32 v1.2, .bool v2.1, .int .u32 v2.2, .bool v3.1, .int .u32 v3.2, .bool false, .int .u64 0, .int .u32 0, .int .u32 0, .int .u32 0, .int .u32 0, .int .u32 0, .int .u32 0] #[.bool false, .int .u32 0, .bool false, .int .u32 0, .bool false, .int .u32 0, .bool false, .int .u64 0, .int .u32 0, .int .u32 0, .int .u32 0, .int .u32 0, .int .u32 0, .int .u32 0])
      case first =>
        cases y3 with
        | false =>
          go_wp2_with fail
          go_meet
          case rel => exact ⟨(false, 0), t3, rfl, aft_dep ya3 (.inr ⟨rfl, rfl, rfl⟩), B3⟩
        | true =>
          go_wp2_with fail
          refine (rd_number h a len cap zs t3 X3 B3.r B3.on hlc hm hz hb B3.seg).mono ?_
          rintro e Y3 ⟨x3, r3, rfl, hR, hO, xa3, hg⟩
          have C3 := B3.call hqh hph hg hR hO
          clear hg hR hO B3
          have c5 : Y3.cell? ⟨W.heap.size + 1, 5, none⟩ = some (.int .u32 0) := by simp [World.cell?, C3.z]
          have f5 : Y3.frozen? ⟨W.heap.size + 1, 5, none⟩ = false := by simp [World.frozen?, C3.z]
          go_wp2_with fail
          have D3 : Nr W h a len cap zs (W.heap.size + 1) W.heap.size 39 (Y3.setCell ⟨W.heap.size + 1, 5, none⟩ (.int .u32 x3)) r3 #[.bool v1.1, .int .u32 v1.2, .bool v2.1, .int .u32 v2.2, .bool true, .int .u32 x3, .bool false, .int .u64 0, .int .u32 0, .int .u32 0, .int .u32 0, .int .u32 0, .int .u32 0, .int .u32 0] #[.bool false, .int .u32 0, .bool false, .int .u32 0, .bool false, .int .u32 0, .bool false, .int .u64 0, .int .u32 0, .int .u32 0, .int .u32 0, .int .u32 0, .int .u32 0, .int .u32 0] := C3.store hqh hpq hq0 (by simp [noU8]) (setCell_same (k := 5) C3.z _) (grown_cell _ _ _ _)
          clear C3 c5 f5
          generalize (Y3.setCell ⟨W.heap.size + 1, 5, none⟩ (.int .u32 x3)) = Z3 at *
          go_meet
          case rel => exact ⟨(true, x3), r3, rfl, aft_dep ya3 (.inl ⟨rfl, xa3⟩), D3⟩
      case rest =>
        clear ya3 B3
        obtain ⟨v3, s3, rfl, aft3, F3⟩ := hcut
        generalize wc = V3 at *
        go_wp2_with fail
        refine (rd_yes h a len cap zs s3 V3 F3.r F3.on hlc hm hz hb F3.seg).mono ?_
        rintro e U4 ⟨y4, t4, rfl, hR, hO, ya4, hg⟩
        have A4 := F3.call hqh hph hg hR hO
        clear hg hR hO F3
        have c6 : U4.cell? ⟨W.heap.size + 1, 6, none⟩ = some (.bool false) := by simp [World.cell?, A4.z]
        have f6 : U4.frozen? ⟨W.heap.size + 1, 6, none⟩ = false := by simp [World.frozen?, A4.z]
        go_upto_if 37 with fail
        have B4 : Nr W h a len cap zs (W.heap.size + 1) W.heap.size 39 (U4.setCell ⟨W.heap.size + 1, 6, none⟩ (.bool y4)) t4 #[.bool v1.1, .int .u32 v1.2, .bool v2.1, .int .u32 v2.2, .bool v3.1, .int .u32 v3.2, .bool y4, .int .u64 0, .int .u32 0, .int .u32 0, .int .u32 0, .int .u32 0, .int .u32 0, .int .u32 0] #[.bool false, .int .u32 0, .bool false, .int .u32 0, .bool false, .int .u32 0, .bool false, .int .u64 0, .int .u32 0, .int .u32 0, .int .u32 0, .int .u32 0, .int .u32 0, .int .u32 0] := A4.store hqh hpq hq0 (by simp [noU8]) (setCell_same (k := 6) A4.z _) (grown_cell _ _ _ _)
        clear A4 c6 f6
        generalize (U4.setCell ⟨W.heap.size + 1, 6, none⟩ (.bool y4)) = X4 at *
        go_cut [3] from 4 (fun sp wx => ∃ (v4 : Bool × Int) (s4 : Rd), sp = .pointer (some ⟨W.heap.size + 1, 0, none⟩) ∧ Aft (optC (numC 8)) s3 v4 s4 ∧ Nr W h a len cap zs (W.heap.size + 1) W.heap.size 39 wx s4 #[.bool v1.1, .int .u32 v1.2, .bool v2.1, .int .u32 v2.2, .bool v3.1, .int .u32 v3.2, .bool v4.1, .int .u64 v4.2, .int .u32 0, .int .u32 0, .int .u32 0, .int .u32 0, .int .u32 0, .int .u32 0] #[.bool false, .int .u32 0, .bool false, .int .u32 0, .bool false, .int .u32 0, .bool false, .int .u64 0, .int .u32 0, .int .u32 0, .int .u32 0, .int .u32 0, .int .u32 0, .int .u32 0])
        case first =>
          cases y4 with
          | false =>
            go_wp2_with fail
            go_meet
            case rel => exact ⟨(false, 0), t4, rfl, aft_dep ya4 (.inr ⟨rfl, rfl, rfl⟩), B4⟩
          | true =>
            go_wp2_with fail
            refine (rd_long h a len cap zs t4 X4 B4.r B4.on hlc hm hz hb B4.seg).mono ?_
            rintro e Y4 ⟨x4, r4, rfl, hR, hO, xa4, hg⟩
            have C4 := B4.call hqh hph hg hR hO
            clear hg hR hO B4
            have c7 : Y4.cell? ⟨W.heap.size + 1, 7, none⟩ = some (.int .u64 0) := by simp [World.cell?, C4.z]
            have f7 : Y4.frozen? ⟨W.heap.size + 1, 7, none⟩ = false := by simp [World.frozen?, C4.z]
            go_wp2_with fail
            have D4 : Nr W h a len cap zs (W.heap.size + 1) W.heap.size 39 (Y4.setCell ⟨W.heap.size + 1, 7, none⟩ (.int .u64 x4)) r4 #[.bool v1.1, .int .u32 v1.2, .bool v2.1, .int .u32 v2.2, .bool v3.1, .int .u32 v3.2, .bool true, .int .u64 x4, .int .u32 0, .int .u32 0, .int .u32 0, .int .u32 0, .int .u32 0, .int .u32 0] #[.bool false, .int .u32 0, .bool false, .int .u32 0, .bool false, .int .u32 0, .bool false, .int .u64 0, .int .u32 0, .int .u32 0, .int .u32 0, .int .u32 0, .int .u32 0, .int .u32 0] := C4.store hqh hpq hq0 (by simp [noU8]) (setCell_same (k := 7) C4.z _) (grown_cell _ _ _ _)
            clear C4 c7 f7
            generalize (Y4.setCell ⟨W.heap.size + 1, 7, none⟩ (.int .u64 x4)) = Z4 at *
            go_meet
            case rel => exact ⟨(true, x4), r4, rfl, aft_dep ya4 (.inl ⟨rfl, xa4⟩), D4⟩
        case rest =>
          clear ya4 B4
          obtain ⟨v4, s4, rfl, aft4, F4⟩ := hcut
          generalize wc = V4 at *
          go_wp2_with fail
          refine (rd_number h a len cap zs s4 V4 F4.r F4.on hlc hm hz hb F4.seg).mono ?_
          rintro e U5 ⟨y5, t5, rfl, hR, hO, ya5, hg⟩
          have A5 := F4.call hqh hph hg hR hO
          clear hg hR hO F4
          have c8 : U5.cell? ⟨W.heap.size + 1, 8, none⟩ = some (.int .u32 0) := by simp [World.cell?, A5.z]
          have f8 : U5.frozen? ⟨W.heap.size + 1, 8, none⟩ = false := by simp [World.frozen?, A5.z]
          go_wp2_with fail
          have B5 : Nr W h a len cap zs (W.heap.size + 1) W.heap.size 39 (U5.setCell ⟨W.heap.size + 1, 8, none⟩ (.int .u32 y5)) t5 #[.bool v1.1, .int .u32 v1.2, .bool v2.1, .int .u32 v2.2, .bool v3.1, .int .u32 v3.2, .bool v4.1, .int .u64 v4.2, .int .u32 y5, .int .u32 0, .int .u32 0, .int .u32 0, .int .u32 0, .int .u32 0] #[.bool false, .int .u32 0, .bool false, .int .u32 0, .bool false, .int .u32 0, .bool false, .int .u64 0, .int .u32 0, .int .u32 0, .int .u32 0, .int .u32 0, .int .u32 0, .int .u32 0] := A5.store hqh hpq hq0 (by simp [noU8]) (setCell_same (k := 8) A5.z _) (grown_cell _ _ _ _)
          clear A5 c8 f8
          generalize (U5.setCell ⟨W.heap.size + 1, 8, none⟩ (.int .u32 y5)) = X5 at *
          refine (rd_must h a len cap t5 (decide (y5 ≤ 2)) X5 B5.r).mono ?_
          rintro e Y5 ⟨rfl, hR, hg⟩
          have C5 := B5.call hqh hph hg hR (on_must B5.on)
          clear hg hR B5
          have c8 : Y5.cell? ⟨W.heap.size + 1, 8, none⟩ = some (.int .u32 y5) := by simp [World.cell?, C5.z]
          go_upto_if 51 with fail
          go_cut [3] from 4 (fun sp wx => ∃ (v5 : Int × Int × Int) (s5 : Rd), sp = .pointer (some ⟨W.heap.size + 1, 0, none⟩) ∧ Aft howC s4 v5 s5 ∧ Nr W h a len cap zs (W.heap.size + 1) W.heap.size 39 wx s5 #[.bool v1.1, .int .u32 v1.2, .bool v2.1, .int .u32 v2.2, .bool v3.1, .int .u32 v3.2, .bool v4.1, .int .u64 v4.2, .int .u32 v5.1, .int .u32 v5.2.1, .int .u32 v5.2.2, .int .u32 0, .int .u32 0, .int .u32 0] #[.bool false, .int .u32 0, .bool false, .int .u32 0, .bool false, .int .u32 0, .bool false, .int .u64 0, .int .u32 0, .int .u32 0, .int .u32 0, .int .u32 0, .int .u32 0, .int .u32 0])
          case first =>
            by_cases hy : y5 = 2
            · subst hy
              go_wp2_with fail
              refine (rd_time h a len cap zs (must (decide ((2 : Int) ≤ 2)) t5) Y5 C5.r C5.on hlc hm hz hb C5.seg).mono ?_
              rintro e Z5 ⟨x, y, r5, rfl, hR, hO, xa5, hg⟩
              have D5 := C5.call hqh hph hg hR hO
              clear hg hR hO C5
              have c9 : Z5.cell? ⟨W.heap.size + 1, 9, none⟩ = some (.int .u32 0) := by simp [World.cell?, D5.z]
              have f9 : Z5.frozen? ⟨W.heap.size + 1, 9, none⟩ = false := by simp [World.frozen?, D5.z]
              have c10 : Z5.cell? ⟨W.heap.size + 1, 10, none⟩ = some (.int .u32 0) := by simp [World.cell?, D5.z]
              have f10 : Z5.frozen? ⟨W.heap.size + 1, 10, none⟩ = false := by simp [World.frozen?, D5.z]
              go_wp2_with fail
              have G5 : Nr W h a len cap zs (W.heap.size + 1) W.heap.size 39 (Z5.setCell ⟨W.heap.size + 1, 9, none⟩ (.int .u32 x)) r5 #[.bool v1.1, .int .u32 v1.2, .bool v2.1, .int .u32 v2.2, .bool v3.1, .int .u32 v3.2, .bool v4.1, .int .u64 v4.2, .int .u32 2, .int .u32 x, .int .u32 0, .int .u32 0, .int .u32 0, .int .u32 0] #[.bool false, .int .u32 0, .bool false, .int .u32 0, .bool false, .int .u32 0, .bool false, .int .u64 0, .int .u32 0, .int .u32 0, .int .u32 0, .int .u32 0, .int .u32 0, .int .u32 0] := D5.store hqh hpq hq0 (by simp [noU8]) (setCell_same (k := 9) D5.z _) (grown_cell _ _ _ _)
              have H5 : Nr W h a len cap zs (W.heap.size + 1) W.heap.size 39 ((Z5.setCell ⟨W.heap.size + 1, 9, none⟩ (.int .u32 x)).setCell ⟨W.heap.size + 1, 10, none⟩ (.int .u32 y)) r5 #[.bool v1.1, .int .u32 v1.2, .bool v2.1, .int .u32 v2.2, .bool v3.1, .int .u32 v3.2, .bool v4.1, .int .u64 v4.2, .int .u32 2, .int .u32 x, .int .u32 y, .int .u32 0, .int .u32 0, .int .u32 0] #[.bool false, .int .u32 0, .bool false, .int .u32 0, .bool false, .int .u32 0, .bool false, .int .u64 0, .int .u32 0, .int .u32 0, .int .u32 0, .int .u32 0, .int .u32 0, .int .u32 0] := G5.store hqh hpq hq0 (by simp [noU8]) (setCell_same (k := 10) G5.z _) (grown_cell _ _ _ _)
              go_meet
              case rel => exact ⟨(2, x, y), r5, rfl, aft_dep (aft_must ya5) (.inl ⟨rfl, xa5⟩), H5⟩
            · have hyb : (y5 == 2) = false := by simpa using hy
              go_wp2_with fail
              go_meet
              case rel => exact ⟨(y5, 0, 0), _, rfl, aft_dep (aft_must ya5) (.inr ⟨hyb, rfl, rfl⟩), C5⟩
          case rest =>
            clear ya5 C5 c8
            obtain ⟨v5, s5, rfl, aft5, F5⟩ := hcut
            generalize wc = V5 at *
            go_wp2_with fail
            refine (rd_number h a len cap zs s5 V5 F5.r F5.on hlc hm hz hb F5.seg).mono ?_
            rintro e U6 ⟨y6, t6, rfl, hR, hO, ya6, hg⟩
            have A6 := F5.call hqh hph hg hR hO
            clear hg hR hO F5
            have c11 : U6.cell? ⟨W.heap.size + 1, 11, none⟩ = some (.int .u32 0) := by simp [World.cell?, A6.z]
            have f11 : U6.frozen? ⟨W.heap.size + 1, 11, none⟩ = false := by simp [World.frozen?, A6.z]
            go_wp2_with fail
            have B6 : Nr W h a len cap zs (W.heap.size + 1) W.heap.size 39 (U6.setCell ⟨W.heap.size + 1, 11, none⟩ (.int .u32 y6)) t6 #[.bool v1.1, .int .u32 v1.2, .bool v2.1, .int .u32 v2.2, .bool v3.1, .int .u32 v3.2, .bool v4.1, .int .u64 v4.2, .int .u32 v5.1, .int .u32 v5.2.1, .int .u32 v5.2.2, .int .u32 y6, .int .u32 0, .int .u32 0] #[.bool false, .int .u32 0, .bool false, .int .u32 0, .bool false, .int .u32 0, .bool false, .int .u64 0, .int .u32 0, .int .u32 0, .int .u32 0, .int .u32 0, .int .u32 0, .int .u32 0] := A6.store hqh hpq hq0 (by simp [noU8]) (setCell_same (k := 11) A6.z _) (grown_cell _ _ _ _)
            clear A6 c11 f11
            generalize (U6.setCell ⟨W.heap.size + 1, 11, none⟩ (.int .u32 y6)) = X6 at *
            refine (rd_must h a len cap t6 (decide (y6 ≤ 2)) X6 B6.r).mono ?_
            rintro e Y6 ⟨rfl, hR, hg⟩
            have C6 := B6.call hqh hph hg hR (on_must B6.on)
            clear hg hR B6
            have c11 : Y6.cell? ⟨W.heap.size + 1, 11, none⟩ = some (.int .u32 y6) := by simp [World.cell?, C6.z]
            go_upto_if 65 with fail
            go_cut [3] from 4 (fun sp wx => ∃ (v6 : Int × Int × Int) (s6 : Rd), sp = .pointer (some ⟨W.heap.size + 1, 0, none⟩) ∧ Aft howC s5 v6 s6 ∧ Nr W h a len cap zs (W.heap.size + 1) W.heap.size 39 wx s6 #[.bool v1.1, .int .u32 v1.2, .bool v2.1, .int .u32 v2.2, .bool v3.1, .int .u32 v3.2, .bool v4.1, .int .u64 v4.2, .int .u32 v5.1, .int .u32 v5.2.1, .int .u32 v5.2.2, .int .u32 v6.1, .int .u32 v6.2.1, .int .u32 v6.2.2] #[.bool false, .int .u32 0, .bool false, .int .u32 0, .bool false, .int .u32 0, .bool false, .int .u64 0, .int .u32 0, .int .u32 0, .int .u32 0, .int .u32 0, .int .u32 0, .int .u32 0])
            case first =>
              by_cases hy : y6 = 2
              · subst hy
                go_wp2_with fail
                refine (rd_time h a len cap zs (must (decide ((2 : Int) ≤ 2)) t6) Y6 C6.r C6.on hlc hm hz hb C6.seg).mono ?_
                rintro e Z6 ⟨x, y, r6, rfl, hR, hO, xa6, hg⟩
                have D6 := C6.call hqh hph hg hR hO
                clear hg hR hO C6
                have c12 : Z6.cell? ⟨W.heap.size + 1, 12, none⟩ = some (.int .u32 0) := by simp [World.cell?, D6.z]
                have f12 : Z6.frozen? ⟨W.heap.size + 1, 12, none⟩ = false := by simp [World.frozen?, D6.z]
                have c13 : Z6.cell? ⟨W.heap.size + 1, 13, none⟩ = some (.int .u32 0) := by simp [World.cell?, D6.z]
                have f13 : Z6.frozen? ⟨W.heap.size + 1, 13, none⟩ = false := by simp [World.frozen?, D6.z]
                go_wp2_with fail
                have G6 : Nr W h a len cap zs (W.heap.size + 1) W.heap.size 39 (Z6.setCell ⟨W.heap.size + 1, 12, none⟩ (.int .u32 x)) r6 #[.bool v1.1, .int .u32 v1.2, .bool v2.1, .int .u32 v2.2, .bool v3.1, .int .u32 v3.2, .bool v4.1, .int .u64 v4.2, .int .u32 v5.1, .int .u32 v5.2.1, .int .u32 v5.2.2, .int .u32 2, .int .u32 x, .int .u32 0] #[.bool false, .int .u32 0, .bool false, .int .u32 0, .bool false, .int .u32 0, .bool false, .int .u64 0, .int .u32 0, .int .u32 0, .int .u32 0, .int .u32 0, .int .u32 0, .int .u32 0] := D6.store hqh hpq hq0 (by simp [noU8]) (setCell_same (k := 12) D6.z _) (grown_cell _ _ _ _)
                have H6 : Nr W h a len cap zs (W.heap.size + 1) W.heap.size 39 ((Z6.setCell ⟨W.heap.size + 1, 12, none⟩ (.int .u32 x)).setCell ⟨W.heap.size + 1, 13, none⟩ (.int .u32 y)) r6 #[.bool v1.1, .int .u32 v1.2, .bool v2.1, .int .u32 v2.2, .bool v3.1, .int .u32 v3.2, .bool v4.1, .int .u64 v4.2, .int .u32 v5.1, .int .u32 v5.2.1, .int .u32 v5.2.2, .int .u32 2, .int .u32 x, .int .u32 y] #[.bool false, .int .u32 0, .bool false, .int .u32 0, .bool false, .int .u32 0, .bool false, .int .u64 0, .int .u32 0, .int .u32 0, .int .u32 0, .int .u32 0, .int .u32 0, .int .u32 0] := G6.store hqh hpq hq0 (by simp [noU8]) (setCell_same (k := 13) G6.z _) (grown_cell _ _ _ _)
                go_meet
                case rel => exact ⟨(2, x, y), r6, rfl, aft_dep (aft_must ya6) (.inl ⟨rfl, xa6⟩), H6⟩
              · have hyb : (y6 == 2) = false := by simpa using hy
                go_wp2_with fail
                go_meet
                case rel => exact ⟨(y6, 0, 0), _, rfl, aft_dep (aft_must ya6) (.inr ⟨hyb, rfl, rfl⟩), C6⟩
            case rest =>
              clear ya6 C6 c11
              obtain ⟨v6, s6, rfl, aft6, F6⟩ := hcut
              generalize wc = V6 at *
              have hMz := F6.z
              have hMy := F6.y
              have hd : Aft setC s _ s6 := aft_iso (aft_seq aft1 (aft_seq aft2 (aft_seq aft3 (aft_seq aft4 (aft_seq aft5 aft6)))))
              clear aft1 aft2 aft3 aft4 aft5 aft6
              go_wp2_with (first
                  | (refine wpList_load_row rfl _ _ rfl (W.heap.size + 1) rfl 39 #[.bool v1.1, .int .u32 v1.2, .bool v2.1, .int .u32 v2.2, .bool v3.1, .int .u32 v3.2, .bool v4.1, .int .u64 v4.2, .int .u32 v5.1, .int .u32 v5.2.1, .int .u32 v5.2.2, .int .u32 v6.1, .int .u32 v6.2.1, .int .u32 v6.2.2] (0, 0) _ ?_ Try.underlying39 rfl st_info ?_; exact hMz)
                  | (refine wpList_store_whole rfl 39 _ _ rfl W.heap.size #[.bool v1.1, .int .u32 v1.2, .bool v2.1, .int .u32 v2.2, .bool v3.1, .int .u32 v3.2, .bool v4.1, .int .u64 v4.2, .int .u32 v5.1, .int .u32 v5.2.1, .int .u32 v5.2.2, .int .u32 v6.1, .int .u32 v6.2.1, .int .u32 v6.2.2] rfl rfl 39 #[.bool false, .int .u32 0, .bool false, .int .u32 0, .bool false, .int .u32 0, .bool false, .int .u64 0, .int .u32 0, .int .u32 0, .int .u32 0, .int .u32 0, .int .u32 0, .int .u32 0] ?_ st_info rfl (by simp [Value.oneCell']) ?_; exact hMy; intro VV hr9 hg9 hs9))
              have hR : Rr VV h a len cap s6 := (hg9.block h F6.r.lt (fun e => hph (Option.some.inj e).symm)).trans F6.r
              exact bodyPost_ret (results_cell_row (p := 2) (ty := 39) rfl _ _ W.heap.size 39 _ (0, 0) _ (by rfl) hr9 Try.underlying39 rfl st_info) rfl ⟨_, s6, rfl, hR, F6.on, hd, F6.g.andThen hg9 (fun j e => .inl (by have := Option.some.inj e; omega))⟩
end Go.Proofs.Ytecbhhfncklefaa
