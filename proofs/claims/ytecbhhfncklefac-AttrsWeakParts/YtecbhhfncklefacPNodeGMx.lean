/- 'node' of the reader, where there are enough bytes; nothing but the reader turns. -/
import Derived.Test.YtecbhhfncklefacPNodeSMx
namespace Go.Proofs.Ytecbhhfncklefac
set_option linter.unusedVariables false
open Go.RowKit

set_option maxRecDepth 100000 in
set_option maxHeartbeats 2000000 in
theorem rdnode_full (W : World) (h : Nat) (a : Option Addr) (len cap : Nat) (zs : List Int) (s : Rd) (R : Rb W h a len cap zs s) (he : s.e = 0) (hlen : ¬ s.r.length < 84) :
    Calls Try.prog 33 #[.pointer (some ⟨h, 0, none⟩)] W (Got attrC attV W h a len cap zs s) := by
  have hn := R.on.n
  have hzl := R.len
  have hlc := R.lc
  have hmx := R.max
  have hrl : s.r.length = len - s.n := by rw [R.on.r, List.length_drop, hzl]
  have hbyt : Byt s.r := by rw [R.on.r]; exact byt_tail R.byt s.n
  have hqh : W.heap.size ≠ h := Nat.ne_of_gt R.lt
  have hB1 : Below W.heap.size W (W.alloc (.cells #[.int .u32 0, .int .u32 0, .int .u32 0, .int .u32 0, .int .u32 0, .int .u64 0, .int .u64 0, .int .u64 0, .int .u32 0, .int .u32 0, .int .u32 0, .int .u32 0, .int .u32 0, .int .u32 0] 28)) := (Below.refl _ _).alloc (Nat.le_refl _) _
  have N0 : Nd W h a len cap zs W.heap.size 28 (W.alloc (.cells #[.int .u32 0, .int .u32 0, .int .u32 0, .int .u32 0, .int .u32 0, .int .u64 0, .int .u64 0, .int .u64 0, .int .u32 0, .int .u32 0, .int .u32 0, .int .u32 0, .int .u32 0, .int .u32 0] 28)) s #[.int .u32 0, .int .u32 0, .int .u32 0, .int .u32 0, .int .u32 0, .int .u64 0, .int .u64 0, .int .u64 0, .int .u32 0, .int .u32 0, .int .u32 0, .int .u32 0, .int .u32 0, .int .u32 0] := ⟨grown_below hB1 _, R.next hB1, World.alloc_heap_new W _⟩
  clear R hB1
  have hwr : IntKind.i64.wrap ((len : Int) - (s.n : Int)) = (len : Int) - (s.n : Int) := by rw [IntKind.wrap_i64]; omega
  have hge : decide ((84 : Int) ≤ IntKind.i64.wrap ((len : Int) - (s.n : Int))) = true := by rw [hwr]; simp; omega
  have hP := p_attr s.r
  have hbad := bad_attr he (by omega)
  have hgood := good_attr he (by omega)
  rw [hP] at hbad hgood
  rw [n8_half hbyt (k := 36) (by omega)] at hbad hgood
  clear hP
  clear hwr
  go_enter Try.func33, Try.ntmps33
  go_wp2_with fail
  generalize (W.alloc (.cells #[.int .u32 0, .int .u32 0, .int .u32 0, .int .u32 0, .int .u32 0, .int .u64 0, .int .u64 0, .int .u64 0, .int .u32 0, .int .u32 0, .int .u32 0, .int .u32 0, .int .u32 0, .int .u32 0] 28)) = W1 at *
  have N1 := N0.next (below_draw W1)
  rw [← at_zero he] at N1
  obtain ⟨c0, c1⟩ := N1.R.c
  rw [at_zero he] at c1
  have S0 := And.intro c0 c1
  go_region_held3 (fun w' => w'.cell? ⟨h, 0, none⟩ = some (.slice a len cap) ∧ w'.cell? ⟨h, 1, none⟩ = some (.int .i64 (s.n : Int))) (with_reducible exact S0) (first | (go_at_call 30; (try rw [hge]); refine (need_yes _ _).mono ?_; rintro e w1 ⟨rfl, hw1⟩; subst w1))
  generalize W1.drew = V1 at *
  clear S0 c0 c1 N0 he hge
  go_wp2_with fail
  refine (nd_num (k := 0) N1.R (by omega)).mono ?_
  rintro e V2 ⟨rfl, hg, hR⟩
  have N2 := N1.call hqh hg hR
  clear hg hR N1
  have c0 : V2.cell? ⟨W.heap.size, 0, none⟩ = some (.int .u32 0) := by simp [World.cell?, N2.z]
  have f0 : V2.frozen? ⟨W.heap.size, 0, none⟩ = false := by simp [World.frozen?, N2.z]
  have hk := fun w => iskind_any (n4 s.r 0) w
  cases hkk : kok (n4 s.r 0) with
  | false =>
    rw [hkk] at hk
    have hd := hbad (by rw [hkk]; simp)
    clear hbad hgood
    go_wp2_with (first
    | (go_at_call 41; refine (hk _).mono ?_; rintro e w1 ⟨rfl, hw1⟩; subst w1)
    | (go_at_call 30; refine (need_no _ _).mono ?_; rintro e w1 ⟨rfl, hw1⟩; subst w1))
    have N9 := N2.store hqh (Nat.le_refl _) (by simp [noU8]) (setCell_same (k := 0) N2.z (.int .u32 (n4 s.r 0))) (grown_cell _ _ _ _)
    exact ⟨rfl, N9.g, _, _, hd, .inr ⟨by simp, rfl⟩⟩
  | true =>
    rw [hkk] at hk
    go_wp2_with (first
      | (go_at_call 41; refine (hk _).mono ?_; rintro e w1 ⟨rfl, hw1⟩; subst w1)
      | (go_at_call 30; refine (need_yes _ _).mono ?_; rintro e w1 ⟨rfl, hw1⟩; subst w1))
    clear hk
    have M0 : Nd W h a len cap zs W.heap.size 28 (V2.setCell ⟨W.heap.size, 0, none⟩ (.int .u32 (n4 s.r 0))) (s.at 4) #[.int .u32 (n4 s.r 0), .int .u32 0, .int .u32 0, .int .u32 0, .int .u32 0, .int .u64 0, .int .u64 0, .int .u64 0, .int .u32 0, .int .u32 0, .int .u32 0, .int .u32 0, .int .u32 0, .int .u32 0] := N2.store hqh (Nat.le_refl _) (by simp [noU8]) (setCell_same (k := 0) N2.z _) (grown_cell _ _ _ _)
    have N3 := M0
    clear M0 c0 f0 N2
    generalize (V2.setCell ⟨W.heap.size, 0, none⟩ (.int .u32 (n4 s.r 0))) = V3 at *
    go_wp2_with fail
    refine (nd_mode (k := 4) N3.R (by omega)).mono ?_
    rintro e V4 (⟨hmo, rfl, hg, hR⟩ | ⟨hmo, rfl, hg⟩)
    rotate_left
    · have hG := N3.g.trans hg
      have hd := hbad (by rw [hmo]; simp)
      clear hbad hgood N3 hg
      go_wp2
      exact ⟨rfl, hG, _, _, hd, .inr ⟨by simp, rfl⟩⟩
    have N4 := N3.call hqh hg hR
    clear hg hR N3
    go_wp2_with fail
    refine (nd_num (k := 8) N4.R (by omega)).mono ?_
    rintro e V5 ⟨rfl, hg, hR⟩
    have N5 := N4.call hqh hg hR
    clear hg hR N4
    go_wp2_with fail
    refine (nd_num (k := 12) N5.R (by omega)).mono ?_
    rintro e V6 ⟨rfl, hg, hR⟩
    have N6 := N5.call hqh hg hR
    clear hg hR N5
    go_wp2_with fail
    refine (nd_num (k := 16) N6.R (by omega)).mono ?_
    rintro e V7 ⟨rfl, hg, hR⟩
    have N7 := N6.call hqh hg hR
    clear hg hR N6
    have c1 : V7.cell? ⟨W.heap.size, 1, none⟩ = some (.int .u32 0) := by simp [World.cell?, N7.z]
    have f1 : V7.frozen? ⟨W.heap.size, 1, none⟩ = false := by simp [World.frozen?, N7.z]
    have c2 : V7.cell? ⟨W.heap.size, 2, none⟩ = some (.int .u32 0) := by simp [World.cell?, N7.z]
    have f2 : V7.frozen? ⟨W.heap.size, 2, none⟩ = false := by simp [World.frozen?, N7.z]
    have c3 : V7.cell? ⟨W.heap.size, 3, none⟩ = some (.int .u32 0) := by simp [World.cell?, N7.z]
    have f3 : V7.frozen? ⟨W.heap.size, 3, none⟩ = false := by simp [World.frozen?, N7.z]
    have c4 : V7.cell? ⟨W.heap.size, 4, none⟩ = some (.int .u32 0) := by simp [World.cell?, N7.z]
    have f4 : V7.frozen? ⟨W.heap.size, 4, none⟩ = false := by simp [World.frozen?, N7.z]
    go_wp2_with fail
    have M0 : Nd W h a len cap zs W.heap.size 28 (V7.setCell ⟨W.heap.size, 1, none⟩ (.int .u32 (n4 s.r 4))) (s.at 20) #[.int .u32 (n4 s.r 0), .int .u32 (n4 s.r 4), .int .u32 0, .int .u32 0, .int .u32 0, .int .u64 0, .int .u64 0, .int .u64 0, .int .u32 0, .int .u32 0, .int .u32 0, .int .u32 0, .int .u32 0, .int .u32 0] := N7.store hqh (Nat.le_refl _) (by simp [noU8]) (setCell_same (k := 1) N7.z _) (grown_cell _ _ _ _)
    have M1 : Nd W h a len cap zs W.heap.size 28 ((V7.setCell ⟨W.heap.size, 1, none⟩ (.int .u32 (n4 s.r 4))).setCell ⟨W.heap.size, 2, none⟩ (.int .u32 (n4 s.r 8))) (s.at 20) #[.int .u32 (n4 s.r 0), .int .u32 (n4 s.r 4), .int .u32 (n4 s.r 8), .int .u32 0, .int .u32 0, .int .u64 0, .int .u64 0, .int .u64 0, .int .u32 0, .int .u32 0, .int .u32 0, .int .u32 0, .int .u32 0, .int .u32 0] := M0.store hqh (Nat.le_refl _) (by simp [noU8]) (setCell_same (k := 2) M0.z _) (grown_cell _ _ _ _)
    have M2 : Nd W h a len cap zs W.heap.size 28 (((V7.setCell ⟨W.heap.size, 1, none⟩ (.int .u32 (n4 s.r 4))).setCell ⟨W.heap.size, 2, none⟩ (.int .u32 (n4 s.r 8))).setCell ⟨W.heap.size, 3, none⟩ (.int .u32 (n4 s.r 12))) (s.at 20) #[.int .u32 (n4 s.r 0), .int .u32 (n4 s.r 4), .int .u32 (n4 s.r 8), .int .u32 (n4 s.r 12), .int .u32 0, .int .u64 0, .int .u64 0, .int .u64 0, .int .u32 0, .int .u32 0, .int .u32 0, .int .u32 0, .int .u32 0, .int .u32 0] := M1.store hqh (Nat.le_refl _) (by simp [noU8]) (setCell_same (k := 3) M1.z _) (grown_cell _ _ _ _)
    have M3 : Nd W h a len cap zs W.heap.size 28 ((((V7.setCell ⟨W.heap.size, 1, none⟩ (.int .u32 (n4 s.r 4))).setCell ⟨W.heap.size, 2, none⟩ (.int .u32 (n4 s.r 8))).setCell ⟨W.heap.size, 3, none⟩ (.int .u32 (n4 s.r 12))).setCell ⟨W.heap.size, 4, none⟩ (.int .u32 (n4 s.r 16))) (s.at 20) #[.int .u32 (n4 s.r 0), .int .u32 (n4 s.r 4), .int .u32 (n4 s.r 8), .int .u32 (n4 s.r 12), .int .u32 (n4 s.r 16), .int .u64 0, .int .u64 0, .int .u64 0, .int .u32 0, .int .u32 0, .int .u32 0, .int .u32 0, .int .u32 0, .int .u32 0] := M2.store hqh (Nat.le_refl _) (by simp [noU8]) (setCell_same (k := 4) M2.z _) (grown_cell _ _ _ _)
    have N8 := M3
    clear M0 M1 M2 M3 c1 f1 c2 f2 c3 f3 c4 f4 N7
    generalize ((((V7.setCell ⟨W.heap.size, 1, none⟩ (.int .u32 (n4 s.r 4))).setCell ⟨W.heap.size, 2, none⟩ (.int .u32 (n4 s.r 8))).setCell ⟨W.heap.size, 3, none⟩ (.int .u32 (n4 s.r 12))).setCell ⟨W.heap.size, 4, none⟩ (.int .u32 (n4 s.r 16))) = V8 at *
    go_wp2_with fail
    refine (nd_long (k := 20) N8.R (by omega)).mono ?_
    rintro e V9 ⟨rfl, hg, hR⟩
    have N9 := N8.call hqh hg hR
    clear hg hR N8
    go_wp2_with fail
    refine (nd_long (k := 28) N9.R (by omega)).mono ?_
    rintro e V10 ⟨rfl, hg, hR⟩
    have N10 := N9.call hqh hg hR
    clear hg hR N9
    have c5 : V10.cell? ⟨W.heap.size, 5, none⟩ = some (.int .u64 0) := by simp [World.cell?, N10.z]
    have f5 : V10.frozen? ⟨W.heap.size, 5, none⟩ = false := by simp [World.frozen?, N10.z]
    have c6 : V10.cell? ⟨W.heap.size, 6, none⟩ = some (.int .u64 0) := by simp [World.cell?, N10.z]
    have f6 : V10.frozen? ⟨W.heap.size, 6, none⟩ = false := by simp [World.frozen?, N10.z]
    go_wp2_with fail
    have M0 : Nd W h a len cap zs W.heap.size 28 (V10.setCell ⟨W.heap.size, 5, none⟩ (.int .u64 (n8 s.r 20))) (s.at 36) #[.int .u32 (n4 s.r 0), .int .u32 (n4 s.r 4), .int .u32 (n4 s.r 8), .int .u32 (n4 s.r 12), .int .u32 (n4 s.r 16), .int .u64 (n8 s.r 20), .int .u64 0, .int .u64 0, .int .u32 0, .int .u32 0, .int .u32 0, .int .u32 0, .int .u32 0, .int .u32 0] := N10.store hqh (Nat.le_refl _) (by simp [noU8]) (setCell_same (k := 5) N10.z _) (grown_cell _ _ _ _)
    have M1 : Nd W h a len cap zs W.heap.size 28 ((V10.setCell ⟨W.heap.size, 5, none⟩ (.int .u64 (n8 s.r 20))).setCell ⟨W.heap.size, 6, none⟩ (.int .u64 (n8 s.r 28))) (s.at 36) #[.int .u32 (n4 s.r 0), .int .u32 (n4 s.r 4), .int .u32 (n4 s.r 8), .int .u32 (n4 s.r 12), .int .u32 (n4 s.r 16), .int .u64 (n8 s.r 20), .int .u64 (n8 s.r 28), .int .u64 0, .int .u32 0, .int .u32 0, .int .u32 0, .int .u32 0, .int .u32 0, .int .u32 0] := M0.store hqh (Nat.le_refl _) (by simp [noU8]) (setCell_same (k := 6) M0.z _) (grown_cell _ _ _ _)
    have N11 := M1
    clear M0 M1 c5 f5 c6 f6 N10
    generalize ((V10.setCell ⟨W.heap.size, 5, none⟩ (.int .u64 (n8 s.r 20))).setCell ⟨W.heap.size, 6, none⟩ (.int .u64 (n8 s.r 28))) = V11 at *
    go_wp2_with fail
    refine (nd_num (k := 36) N11.R (by omega)).mono ?_
    rintro e V12 ⟨rfl, hg, hR⟩
    have N12 := N11.call hqh hg hR
    clear hg hR N11
    cases z0 : (n4 s.r 36 == 0) with
    | false =>
      have hd := hbad (by rw [z0]; simp)
      clear hbad hgood
      go_wp2_with (go_at_call 30; refine (need_no _ _).mono ?_; rintro e w1 ⟨rfl, hw1⟩; subst w1)
      exact ⟨rfl, N12.g, _, _, hd, .inr ⟨by simp, rfl⟩⟩
    | true =>
      go_wp2_with fail
      refine (nd_num (k := 40) N12.R (by omega)).mono ?_
      rintro e V13 ⟨rfl, hg, hR⟩
      have N13 := N12.call hqh hg hR
      clear hg hR N12
      cases z1 : (n4 s.r 40 == 0) with
      | false =>
        have hd := hbad (by rw [z1]; simp)
        clear hbad hgood
        go_wp2_with (go_at_call 30; refine (need_no _ _).mono ?_; rintro e w1 ⟨rfl, hw1⟩; subst w1)
        exact ⟨rfl, N13.g, _, _, hd, .inr ⟨by simp, rfl⟩⟩
      | true =>
        go_wp2_with fail
        refine (nd_long (k := 44) N13.R (by omega)).mono ?_
        rintro e V14 ⟨rfl, hg, hR⟩
        have N14 := N13.call hqh hg hR
        clear hg hR N13
        cases z2 : (n8 s.r 44 == 1) with
        | false =>
          have hd := hbad (by rw [z2]; simp)
          clear hbad hgood
          go_wp2_with (go_at_call 30; refine (need_no _ _).mono ?_; rintro e w1 ⟨rfl, hw1⟩; subst w1)
          exact ⟨rfl, N14.g, _, _, hd, .inr ⟨by simp, rfl⟩⟩
        | true =>
          go_wp2_with (go_at_call 30; refine (need_yes _ _).mono ?_; rintro e w1 ⟨rfl, hw1⟩; subst w1)
          go_wp2_with fail
          refine (nd_long (k := 52) N14.R (by omega)).mono ?_
          rintro e V15 ⟨rfl, hg, hR⟩
          have N15 := N14.call hqh hg hR
          clear hg hR N14
          have c7 : V15.cell? ⟨W.heap.size, 7, none⟩ = some (.int .u64 0) := by simp [World.cell?, N15.z]
          have f7 : V15.frozen? ⟨W.heap.size, 7, none⟩ = false := by simp [World.frozen?, N15.z]
          go_wp2_with fail
          have M0 : Nd W h a len cap zs W.heap.size 28 (V15.setCell ⟨W.heap.size, 7, none⟩ (.int .u64 (n8 s.r 52))) (s.at 60) #[.int .u32 (n4 s.r 0), .int .u32 (n4 s.r 4), .int .u32 (n4 s.r 8), .int .u32 (n4 s.r 12), .int .u32 (n4 s.r 16), .int .u64 (n8 s.r 20), .int .u64 (n8 s.r 28), .int .u64 (n8 s.r 52), .int .u32 0, .int .u32 0, .int .u32 0, .int .u32 0, .int .u32 0, .int .u32 0] := N15.store hqh (Nat.le_refl _) (by simp [noU8]) (setCell_same (k := 7) N15.z _) (grown_cell _ _ _ _)
          have N16 := M0
          clear M0 c7 f7 N15
          generalize (V15.setCell ⟨W.heap.size, 7, none⟩ (.int .u64 (n8 s.r 52))) = V16 at *
          go_wp2_with fail
          refine (nd_mom (k := 60) N16.R (by omega)).mono ?_
          rintro e V17 (⟨hr0, rfl, hg, hR⟩ | ⟨hr0, rfl, hg⟩)
          rotate_left
          · have hG := N16.g.trans hg
            have hd := hbad (by rw [hr0]; simp)
            clear hbad hgood N16 hg
            go_wp2
            exact ⟨rfl, hG, _, _, hd, .inr ⟨by simp, rfl⟩⟩
          have N17 := N16.call hqh hg hR
          clear hg hR N16
          go_wp2_with fail
          refine (nd_mom (k := 68) N17.R (by omega)).mono ?_
          rintro e V18 (⟨hr1, rfl, hg, hR⟩ | ⟨hr1, rfl, hg⟩)
          rotate_left
          · have hG := N17.g.trans hg
            have hd := hbad (by rw [hr1]; simp)
            clear hbad hgood N17 hg
            go_wp2
            exact ⟨rfl, hG, _, _, hd, .inr ⟨by simp, rfl⟩⟩
          have N18 := N17.call hqh hg hR
          clear hg hR N17
          go_wp2_with fail
          refine (nd_mom (k := 76) N18.R (by omega)).mono ?_
          rintro e V19 (⟨hr2, rfl, hg, hR⟩ | ⟨hr2, rfl, hg⟩)
          rotate_left
          · have hG := N18.g.trans hg
            have hd := hbad (by rw [hr2]; simp)
            clear hbad hgood N18 hg
            go_wp2
            exact ⟨rfl, hG, _, _, hd, .inr ⟨by simp, rfl⟩⟩
          have N19 := N18.call hqh hg hR
          clear hg hR N18
          have c8 : V19.cell? ⟨W.heap.size, 8, none⟩ = some (.int .u32 0) := by simp [World.cell?, N19.z]
          have f8 : V19.frozen? ⟨W.heap.size, 8, none⟩ = false := by simp [World.frozen?, N19.z]
          have c9 : V19.cell? ⟨W.heap.size, 9, none⟩ = some (.int .u32 0) := by simp [World.cell?, N19.z]
          have f9 : V19.frozen? ⟨W.heap.size, 9, none⟩ = false := by simp [World.frozen?, N19.z]
          have c10 : V19.cell? ⟨W.heap.size, 10, none⟩ = some (.int .u32 0) := by simp [World.cell?, N19.z]
          have f10 : V19.frozen? ⟨W.heap.size, 10, none⟩ = false := by simp [World.frozen?, N19.z]
          have c11 : V19.cell? ⟨W.heap.size, 11, none⟩ = some (.int .u32 0) := by simp [World.cell?, N19.z]
          have f11 : V19.frozen? ⟨W.heap.size, 11, none⟩ = false := by simp [World.frozen?, N19.z]
          have c12 : V19.cell? ⟨W.heap.size, 12, none⟩ = some (.int .u32 0) := by simp [World.cell?, N19.z]
          have f12 : V19.frozen? ⟨W.heap.size, 12, none⟩ = false := by simp [World.frozen?, N19.z]
          have c13 : V19.cell? ⟨W.heap.size, 13, none⟩ = some (.int .u32 0) := by simp [World.cell?, N19.z]
          have f13 : V19.frozen? ⟨W.heap.size, 13, none⟩ = false := by simp [World.frozen?, N19.z]
          have hd := hgood (by rw [hkk, hmo, z0, z1, z2, hr0, hr1, hr2]; rfl)
          clear hbad hgood
          have hM : ∀ V, V = ((((((V19.setCell ⟨W.heap.size, 8, none⟩ (.int .u32 (n4 s.r 60))).setCell ⟨W.heap.size, 9, none⟩ (.int .u32 (n4 s.r 64))).setCell ⟨W.heap.size, 10, none⟩ (.int .u32 (n4 s.r 68))).setCell ⟨W.heap.size, 11, none⟩ (.int .u32 (n4 s.r 72))).setCell ⟨W.heap.size, 12, none⟩ (.int .u32 (n4 s.r 76))).setCell ⟨W.heap.size, 13, none⟩ (.int .u32 (n4 s.r 80))) → Nd W h a len cap zs W.heap.size 28 V (s.at 84) #[.int .u32 (n4 s.r 0), .int .u32 (n4 s.r 4), .int .u32 (n4 s.r 8), .int .u32 (n4 s.r 12), .int .u32 (n4 s.r 16), .int .u64 (n8 s.r 20), .int .u64 (n8 s.r 28), .int .u64 (n8 s.r 52), .int .u32 (n4 s.r 60), .int .u32 (n4 s.r 64), .int .u32 (n4 s.r 68), .int .u32 (n4 s.r 72), .int .u32 (n4 s.r 76), .int .u32 (n4 s.r 80)] := by
            rintro V rfl
            have M0 : Nd W h a len cap zs W.heap.size 28 (V19.setCell ⟨W.heap.size, 8, none⟩ (.int .u32 (n4 s.r 60))) (s.at 84) #[.int .u32 (n4 s.r 0), .int .u32 (n4 s.r 4), .int .u32 (n4 s.r 8), .int .u32 (n4 s.r 12), .int .u32 (n4 s.r 16), .int .u64 (n8 s.r 20), .int .u64 (n8 s.r 28), .int .u64 (n8 s.r 52), .int .u32 (n4 s.r 60), .int .u32 0, .int .u32 0, .int .u32 0, .int .u32 0, .int .u32 0] := N19.store hqh (Nat.le_refl _) (by simp [noU8]) (setCell_same (k := 8) N19.z _) (grown_cell _ _ _ _)
            have M1 : Nd W h a len cap zs W.heap.size 28 ((V19.setCell ⟨W.heap.size, 8, none⟩ (.int .u32 (n4 s.r 60))).setCell ⟨W.heap.size, 9, none⟩ (.int .u32 (n4 s.r 64))) (s.at 84) #[.int .u32 (n4 s.r 0), .int .u32 (n4 s.r 4), .int .u32 (n4 s.r 8), .int .u32 (n4 s.r 12), .int .u32 (n4 s.r 16), .int .u64 (n8 s.r 20), .int .u64 (n8 s.r 28), .int .u64 (n8 s.r 52), .int .u32 (n4 s.r 60), .int .u32 (n4 s.r 64), .int .u32 0, .int .u32 0, .int .u32 0, .int .u32 0] := M0.store hqh (Nat.le_refl _) (by simp [noU8]) (setCell_same (k := 9) M0.z _) (grown_cell _ _ _ _)
            have M2 : Nd W h a len cap zs W.heap.size 28 (((V19.setCell ⟨W.heap.size, 8, none⟩ (.int .u32 (n4 s.r 60))).setCell ⟨W.heap.size, 9, none⟩ (.int .u32 (n4 s.r 64))).setCell ⟨W.heap.size, 10, none⟩ (.int .u32 (n4 s.r 68))) (s.at 84) #[.int .u32 (n4 s.r 0), .int .u32 (n4 s.r 4), .int .u32 (n4 s.r 8), .int .u32 (n4 s.r 12), .int .u32 (n4 s.r 16), .int .u64 (n8 s.r 20), .int .u64 (n8 s.r 28), .int .u64 (n8 s.r 52), .int .u32 (n4 s.r 60), .int .u32 (n4 s.r 64), .int .u32 (n4 s.r 68), .int .u32 0, .int .u32 0, .int .u32 0] := M1.store hqh (Nat.le_refl _) (by simp [noU8]) (setCell_same (k := 10) M1.z _) (grown_cell _ _ _ _)
            have M3 : Nd W h a len cap zs W.heap.size 28 ((((V19.setCell ⟨W.heap.size, 8, none⟩ (.int .u32 (n4 s.r 60))).setCell ⟨W.heap.size, 9, none⟩ (.int .u32 (n4 s.r 64))).setCell ⟨W.heap.size, 10, none⟩ (.int .u32 (n4 s.r 68))).setCell ⟨W.heap.size, 11, none⟩ (.int .u32 (n4 s.r 72))) (s.at 84) #[.int .u32 (n4 s.r 0), .int .u32 (n4 s.r 4), .int .u32 (n4 s.r 8), .int .u32 (n4 s.r 12), .int .u32 (n4 s.r 16), .int .u64 (n8 s.r 20), .int .u64 (n8 s.r 28), .int .u64 (n8 s.r 52), .int .u32 (n4 s.r 60), .int .u32 (n4 s.r 64), .int .u32 (n4 s.r 68), .int .u32 (n4 s.r 72), .int .u32 0, .int .u32 0] := M2.store hqh (Nat.le_refl _) (by simp [noU8]) (setCell_same (k := 11) M2.z _) (grown_cell _ _ _ _)
            have M4 : Nd W h a len cap zs W.heap.size 28 (((((V19.setCell ⟨W.heap.size, 8, none⟩ (.int .u32 (n4 s.r 60))).setCell ⟨W.heap.size, 9, none⟩ (.int .u32 (n4 s.r 64))).setCell ⟨W.heap.size, 10, none⟩ (.int .u32 (n4 s.r 68))).setCell ⟨W.heap.size, 11, none⟩ (.int .u32 (n4 s.r 72))).setCell ⟨W.heap.size, 12, none⟩ (.int .u32 (n4 s.r 76))) (s.at 84) #[.int .u32 (n4 s.r 0), .int .u32 (n4 s.r 4), .int .u32 (n4 s.r 8), .int .u32 (n4 s.r 12), .int .u32 (n4 s.r 16), .int .u64 (n8 s.r 20), .int .u64 (n8 s.r 28), .int .u64 (n8 s.r 52), .int .u32 (n4 s.r 60), .int .u32 (n4 s.r 64), .int .u32 (n4 s.r 68), .int .u32 (n4 s.r 72), .int .u32 (n4 s.r 76), .int .u32 0] := M3.store hqh (Nat.le_refl _) (by simp [noU8]) (setCell_same (k := 12) M3.z _) (grown_cell _ _ _ _)
            have M5 : Nd W h a len cap zs W.heap.size 28 ((((((V19.setCell ⟨W.heap.size, 8, none⟩ (.int .u32 (n4 s.r 60))).setCell ⟨W.heap.size, 9, none⟩ (.int .u32 (n4 s.r 64))).setCell ⟨W.heap.size, 10, none⟩ (.int .u32 (n4 s.r 68))).setCell ⟨W.heap.size, 11, none⟩ (.int .u32 (n4 s.r 72))).setCell ⟨W.heap.size, 12, none⟩ (.int .u32 (n4 s.r 76))).setCell ⟨W.heap.size, 13, none⟩ (.int .u32 (n4 s.r 80))) (s.at 84) #[.int .u32 (n4 s.r 0), .int .u32 (n4 s.r 4), .int .u32 (n4 s.r 8), .int .u32 (n4 s.r 12), .int .u32 (n4 s.r 16), .int .u64 (n8 s.r 20), .int .u64 (n8 s.r 28), .int .u64 (n8 s.r 52), .int .u32 (n4 s.r 60), .int .u32 (n4 s.r 64), .int .u32 (n4 s.r 68), .int .u32 (n4 s.r 72), .int .u32 (n4 s.r 76), .int .u32 (n4 s.r 80)] := M4.store hqh (Nat.le_refl _) (by simp [noU8]) (setCell_same (k := 13) M4.z _) (grown_cell _ _ _ _)
            exact M5
          have NN := hM _ rfl
          have hMz := NN.z
          clear N19 hM
          go_wp2_with (first
            | (refine wpList_load_row rfl _ _ rfl W.heap.size rfl 28 #[.int .u32 (n4 s.r 0), .int .u32 (n4 s.r 4), .int .u32 (n4 s.r 8), .int .u32 (n4 s.r 12), .int .u32 (n4 s.r 16), .int .u64 (n8 s.r 20), .int .u64 (n8 s.r 28), .int .u64 (n8 s.r 52), .int .u32 (n4 s.r 60), .int .u32 (n4 s.r 64), .int .u32 (n4 s.r 68), .int .u32 (n4 s.r 72), .int .u32 (n4 s.r 76), .int .u32 (n4 s.r 80)] (0, 0) _ ?_ Try.underlying28 rfl at_info ?_; exact hMz)
            | (refine wpList_store_whole rfl 28 _ _ rfl W.heap.size #[.int .u32 (n4 s.r 0), .int .u32 (n4 s.r 4), .int .u32 (n4 s.r 8), .int .u32 (n4 s.r 12), .int .u32 (n4 s.r 16), .int .u64 (n8 s.r 20), .int .u64 (n8 s.r 28), .int .u64 (n8 s.r 52), .int .u32 (n4 s.r 60), .int .u32 (n4 s.r 64), .int .u32 (n4 s.r 68), .int .u32 (n4 s.r 72), .int .u32 (n4 s.r 76), .int .u32 (n4 s.r 80)] rfl rfl 28 #[.int .u32 (n4 s.r 0), .int .u32 (n4 s.r 4), .int .u32 (n4 s.r 8), .int .u32 (n4 s.r 12), .int .u32 (n4 s.r 16), .int .u64 (n8 s.r 20), .int .u64 (n8 s.r 28), .int .u64 (n8 s.r 52), .int .u32 (n4 s.r 60), .int .u32 (n4 s.r 64), .int .u32 (n4 s.r 68), .int .u32 (n4 s.r 72), .int .u32 (n4 s.r 76), .int .u32 (n4 s.r 80)] ?_ at_info rfl (by simp [Value.oneCell']) ?_; exact hMz; intro VV hr9 hg9 hs9; have NV := NN.store hqh (Nat.le_refl _) (by simp [noU8]) hr9 hg9))
          exact bodyPost_ret (results_cell_row (p := 2) (ty := 28) rfl _ _ W.heap.size 28 _ (0, 0) _ (by rfl) NV.z Try.underlying28 rfl at_info) rfl ⟨NV.g, ofRaw (rawOf s.r), s.at 84, hd, .inl ⟨rfl, rfl, NV.R⟩⟩

theorem rdnode_any : Reads 33 attrC attV := fun W h a len cap zs s R he => by
  by_cases hl : s.r.length < 84
  · exact rdnode_short W h a len cap zs s R he hl
  · exact rdnode_full W h a len cap zs s R he hl

end Go.Proofs.Ytecbhhfncklefac
