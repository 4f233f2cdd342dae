/- The document's 'PutSet': the bytes of what is to be set, or a refusal; nothing that was there turns. -/
import Derived.Test.YtecbhhfncklefaaDoorPsGuardMx
import Derived.Test.YtecbhhfncklefaaDoorRefPutRefOptMx
import Derived.Test.YtecbhhfncklefaaDoorRefPutLORefNewSCellMx
import Derived.Deep.RegionHeld3
import Derived.Test.YtecbhhfncklefaaDoorRefTChkMx
import Derived.Test.YtecbhhfncklefaaDoorAForms
import Derived.Deep.Cut
namespace Go.Proofs.YtecbhhfncklefaaDoor
set_option linter.unusedVariables false
open Go.RowKit

/-- What the row of conditions reads. -/
structure PsS (w0 : World) (h hn : Nat) (x : Stt) (W : World) : Prop where
  b : Below w0.heap.size w0 W
  s : Sp W h x
  t : Tp W hn 0 0
theorem PsS.next {w0 : World} {h hn : Nat} {x : Stt} {W W' : World} (S : PsS w0 h hn x W) (hb : Below W.heap.size W W') : PsS w0 h hn x W' := ⟨S.b.trans (hb.mono S.b.size), S.s.next hb, S.t.next hb⟩
theorem PsS.after {w0 : World} {h hn base : Nat} {x : Stt} {W W' : World} (S : PsS w0 h hn x W) (hb : Below base W W') (h0 : w0.heap.size ≤ base) (h1 : h < base) (h2 : hn < base) : PsS w0 h hn x W' := ⟨S.b.trans (hb.mono h0), (hb.block h h1).trans S.s, (hb.block hn h2).trans S.t⟩
theorem ld_bool {W : World} {h k : Nat} {b : Bool} (hc : W.cell? ⟨h, k, none⟩ = some (.bool b)) : (loadVar 4 ⟨h, k, none⟩).run Tryd.prog W = .ok (.bool b) W := by simp [go_sem, hc]
theorem ld_u32 {W : World} {h k : Nat} {n : Int} (hc : W.cell? ⟨h, k, none⟩ = some (.int .u32 n)) : (loadVar 22 ⟨h, k, none⟩).run Tryd.prog W = .ok (.int .u32 n) W := by simp [go_sem, hc]
theorem ld_how {W : World} {h k : Nat} {n : Int} (hc : W.cell? ⟨h, k, none⟩ = some (.int .u32 n)) : (loadVar 35 ⟨h, k, none⟩).run Tryd.prog W = .ok (.int .u32 n) W := by simp [go_sem, hc]
theorem ld_u64 {W : World} {h k : Nat} {n : Int} (hc : W.cell? ⟨h, k, none⟩ = some (.int .u64 n)) : (loadVar 24 ⟨h, k, none⟩).run Tryd.prog W = .ok (.int .u64 n) W := by simp [go_sem, hc]
theorem ld_tim {W : World} {h k : Nat} {n m : Int} (hc : W.cell? ⟨h, k, none⟩ = some (.int .u32 n)) (hd : W.cell? ⟨h, k + 1, none⟩ = some (.int .u32 m)) : (loadVar 26 ⟨h, k, none⟩).run Tryd.prog W = .ok (.agg #[.int .u32 n, .int .u32 m]) W := by
  go_simp; try first | done | with_reducible rfl
theorem gt_u32 (n m : Int) (w : World) : (binOp .gtr 22 (.int .u32 n) (.int .u32 m)).run Tryd.prog w = .ok (.bool (decide (m < n))) w := by simp [go_sem]
theorem gt_how (n m : Int) (w : World) : (binOp .gtr 35 (.int .u32 n) (.int .u32 m)).run Tryd.prog w = .ok (.bool (decide (m < n))) w := by simp [go_sem]
theorem ne_u32 (n m : Int) (w : World) : (binOp .neq 22 (.int .u32 n) (.int .u32 m)).run Tryd.prog w = .ok (.bool (n != m)) w := by simp [go_sem]
theorem ne_how (n m : Int) (w : World) : (binOp .neq 35 (.int .u32 n) (.int .u32 m)).run Tryd.prog w = .ok (.bool (n != m)) w := by simp [go_sem]
theorem ne_u64 (n m : Int) (w : World) : (binOp .neq 24 (.int .u64 n) (.int .u64 m)).run Tryd.prog w = .ok (.bool (n != m)) w := by simp [go_sem]
theorem eg_gt (t : TypeId) (k : IntKind) (x y : Operand) (m n : Int) (w : World) : (eqGuard .gtr t x y (.int k m) (.int k n)).run Tryd.prog w = .ok () w := by simp [eqGuard, go_sem]
theorem eg_ne (t : TypeId) (k : IntKind) (x y : Operand) (m n : Int) (w : World) : (eqGuard .neq t x y (.int k m) (.int k n)).run Tryd.prog w = .ok () w := by simp [eqGuard, go_sem]
theorem eg_tim (x y : Operand) (m n : Array Value) (w : World) : (eqGuard .neq 26 x y (.agg m) (.agg n)).run Tryd.prog w = .ok () w := by
  have h : Tryd.prog.eqGuardType Tryd.prog.depth 26 = false := by kernel_rfl
  simp [eqGuard, go_sem, h]

set_option maxRecDepth 100000 in
set_option maxHeartbeats 4000000 in
theorem refsput_any : SPut 10 := by
  intro x w hx
  have hB1 : Below w.heap.size w (w.alloc (.cells #[.bool x.hm, .int .u32 x.mode, .bool x.hu, .int .u32 x.user, .bool x.hg, .int .u32 x.group, .bool x.hs, .int .u64 x.size, .int .u32 x.rh, .int .u32 x.rs, .int .u32 x.rn, .int .u32 x.wh, .int .u32 x.ws, .int .u32 x.wn] 37)) := (Below.refl _ _).alloc (Nat.le_refl _) _
  have hB2 := hB1.alloc hB1.size (.cells #[.int .u32 0, .int .u32 0] 26)
  have hS0 : PsS w w.heap.size (w.heap.size + 1) x ((w.alloc (.cells #[.bool x.hm, .int .u32 x.mode, .bool x.hu, .int .u32 x.user, .bool x.hg, .int .u32 x.group, .bool x.hs, .int .u64 x.size, .int .u32 x.rh, .int .u32 x.rs, .int .u32 x.rn, .int .u32 x.wh, .int .u32 x.ws, .int .u32 x.wn] 37)).alloc (.cells #[.int .u32 0, .int .u32 0] 26)) := ⟨hB2, (Sp.new w x).alloc _, by
    have h := Tp.new (w.alloc (.cells #[.bool x.hm, .int .u32 x.mode, .bool x.hu, .int .u32 x.user, .bool x.hg, .int .u32 x.group, .bool x.hs, .int .u64 x.size, .int .u32 x.rh, .int .u32 x.rs, .int .u32 x.rn, .int .u32 x.wh, .int .u32 x.ws, .int .u32 x.wn] 37)) 0 0
    rw [show (w.alloc (.cells #[.bool x.hm, .int .u32 x.mode, .bool x.hu, .int .u32 x.user, .bool x.hg, .int .u32 x.group, .bool x.hs, .int .u64 x.size, .int .u32 x.rh, .int .u32 x.rs, .int .u32 x.rn, .int .u32 x.wh, .int .u32 x.ws, .int .u32 x.wn] 37)).heap.size = w.heap.size + 1 by simp] at h
    exact h⟩
  clear hB1 hB2
  go_enter Tryd.func10, Tryd.ntmps10
  go_upto_region 2 with fail
  generalize ((w.alloc (.cells #[.bool x.hm, .int .u32 x.mode, .bool x.hu, .int .u32 x.user, .bool x.hg, .int .u32 x.group, .bool x.hs, .int .u64 x.size, .int .u32 x.rh, .int .u32 x.rs, .int .u32 x.rn, .int .u32 x.wh, .int .u32 x.ws, .int .u32 x.wn] 37)).alloc (.cells #[.int .u32 0, .int .u32 0] 26)) = W0 at *
  change (Code.region _ psOps false).wp _ _ _ _
  refine seq_start ?_
  refine ps_d1 _ _ _ _ _ _ x.mode (decide (4095 < x.mode)) (fun w hS => ld_u32 hS.s.c.2.1) (fun w => gt_u32 _ _ w) (fun w => eg_gt _ _ _ _ _ _ w) _ hS0 ?_
  intro _ _ W1 hS1
  refine ps_d2 _ _ _ _ _ _ _ _ _ x.hm x.mode (x.mode != 0) (fun w hS => ld_bool hS.s.c.1) (fun w hS => ld_u32 hS.s.c.2.1) (fun w => ne_u32 _ _ w) (fun w => eg_ne _ _ _ _ _ _ w) _ hS1 ?_
  intro _ _ _ _ _ _ _ _ _ W2 hS2
  clear hS1
  refine ps_d3 _ _ _ _ _ _ _ _ _ _ _ _ _ _ _ _ _ _ _ x.hu x.user (x.user != 0) (fun w hS => ld_bool hS.s.c.2.2.1) (fun w hS => ld_u32 hS.s.c.2.2.2.1) (fun w => ne_u32 _ _ w) (fun w => eg_ne _ _ _ _ _ _ w) _ hS2 ?_
  intro _ _ _ _ _ _ _ _ _ W3 hS3
  clear hS2
  refine ps_d4 _ _ _ _ _ _ _ _ _ _ _ _ _ _ _ _ _ _ _ _ _ _ _ _ _ _ _ _ _ x.hg x.group (x.group != 0) (fun w hS => ld_bool hS.s.c.2.2.2.2.1) (fun w hS => ld_u32 hS.s.c.2.2.2.2.2.1) (fun w => ne_u32 _ _ w) (fun w => eg_ne _ _ _ _ _ _ w) _ hS3 ?_
  intro _ _ _ _ _ _ _ _ _ W4 hS4
  clear hS3
  refine ps_d5 _ _ _ _ _ _ _ _ _ _ _ _ _ _ _ _ _ _ _ _ _ _ _ _ _ _ _ _ _ _ _ _ _ _ _ _ _ _ _ x.hs x.size (x.size != 0) (fun w hS => ld_bool hS.s.c.2.2.2.2.2.2.1) (fun w hS => ld_u64 hS.s.c.2.2.2.2.2.2.2.1) (fun w => ne_u64 _ _ w) (fun w => eg_ne _ _ _ _ _ _ w) _ hS4 ?_
  intro _ _ _ _ _ _ _ _ _ W5 hS5
  clear hS4
  refine ps_d6 _ _ _ _ _ _ _ _ _ _ _ _ _ _ _ _ _ _ _ _ _ _ _ _ _ _ _ _ _ _ _ _ _ _ _ _ _ _ _ _ _ _ _ _ _ _ _ _ _ x.rh (decide (2 < x.rh)) (fun w hS => ld_how hS.s.c.2.2.2.2.2.2.2.2.1) (fun w => gt_how _ _ w) (fun w => eg_gt _ _ _ _ _ _ w) _ hS5 ?_
  intro _ _ _ _ W6 hS6
  clear hS5
  refine ps_d7 _ _ _ _ _ _ _ _ _ _ _ _ _ _ _ _ _ _ _ _ _ _ _ _ _ _ _ _ _ _ _ _ _ _ _ _ _ _ _ _ _ _ _ _ _ _ _ _ _ _ _ _ _ _ x.wh (decide (2 < x.wh)) (fun w hS => ld_how hS.s.c.2.2.2.2.2.2.2.2.2.2.2.1) (fun w => gt_how _ _ w) (fun w => eg_gt _ _ _ _ _ _ w) _ hS6 ?_
  intro _ _ _ _ W7 hS7
  clear hS6
  refine ps_d8 _ _ _ _ _ _ _ _ _ _ _ _ _ _ _ _ _ _ _ _ _ _ _ _ _ _ _ _ _ _ _ _ _ _ _ _ _ _ _ _ _ _ _ _ _ _ _ _ _ _ _ _ _ _ _ _ _ _ _ x.rh (x.rh != 2) x.rs x.rn (!((x.rs == 0) && (x.rn == 0))) (fun w hS => ld_how hS.s.c.2.2.2.2.2.2.2.2.1) (fun w => ne_how _ _ w) (fun w => eg_ne _ _ _ _ _ _ w) (fun w hS => ld_tim hS.s.c.2.2.2.2.2.2.2.2.2.1 hS.s.c.2.2.2.2.2.2.2.2.2.2.1) (fun w hS => ld_tim hS.t.c0 hS.t.c1) (fun w => time_neq _ _ _ _ w) (fun w => eg_tim _ _ _ _ w) _ hS7 ?_
  intro _ _ _ _ _ _ _ _ _ _ W8 hS8
  clear hS7
  refine ps_d9 _ _ _ _ _ _ _ _ _ _ _ _ _ _ _ _ _ _ _ _ _ _ _ _ _ _ _ _ _ _ _ _ _ _ _ _ _ _ _ _ _ _ _ _ _ _ _ _ _ _ _ _ _ _ _ _ _ _ _ _ _ _ _ _ _ _ _ _ _ _ x.wh (x.wh != 2) x.ws x.wn (!((x.ws == 0) && (x.wn == 0))) (fun w hS => ld_how hS.s.c.2.2.2.2.2.2.2.2.2.2.2.1) (fun w => ne_how _ _ w) (fun w => eg_ne _ _ _ _ _ _ w) (fun w hS => ld_tim hS.s.c.2.2.2.2.2.2.2.2.2.2.2.2.1 hS.s.c.2.2.2.2.2.2.2.2.2.2.2.2.2) (fun w hS => ld_tim hS.t.c0 hS.t.c1) (fun w => time_neq _ _ _ _ w) (fun w => eg_tim _ _ _ _ w) _ hS8 ?_
  intro _ _ _ _ _ _ _ _ _ _ W9 hS9
  clear hS8
  refine ps_d10 _ _ _ _ _ _ _ _ _ _ _ _ _ _ _ _ _ _ _ _ _ _ _ _ _ _ _ _ _ _ _ _ _ _ _ _ _ _ _ _ _ _ _ _ _ _ _ _ _ _ _ _ _ _ _ _ _ _ _ _ _ _ _ _ _ _ _ _ _ _ _ _ _ _ _ _ _ _ _ _ _ x.rs x.rn (tok x.rn) (fun w hS => ld_tim hS.s.c.2.2.2.2.2.2.2.2.2.1 hS.s.c.2.2.2.2.2.2.2.2.2.2.1) (fun w hS => (reftcheck_any _ _ w).mono fun e w2 h => ⟨h.1, hS.next h.2⟩) _ hS9 ?_
  intro _ _ _ _ _ W10 hS10
  clear hS9
  refine ps_d11 _ _ _ _ _ _ _ _ _ _ _ _ _ _ _ _ _ _ _ _ _ _ _ _ _ _ _ _ _ _ _ _ _ _ _ _ _ _ _ _ _ _ _ _ _ _ _ _ _ _ _ _ _ _ _ _ _ _ _ _ _ _ _ _ _ _ _ _ _ _ _ _ _ _ _ _ _ _ _ _ _ _ _ _ _ _ _ x.ws x.wn (tok x.wn) (fun w hS => ld_tim hS.s.c.2.2.2.2.2.2.2.2.2.2.2.2.1 hS.s.c.2.2.2.2.2.2.2.2.2.2.2.2.2) (fun w hS => (reftcheck_any _ _ w).mono fun e w2 h => ⟨h.1, hS.next h.2⟩) _ hS10 ?_
  intro _ _ _ _ _ W11 hS11
  clear hS10
  refine seq_done (k := 87) (by rw [ps_size]; decide) ?_
  have hacc : ((((((((((((decide (4095 < x.mode))) || (!x.hm && (x.mode != 0))) || (!x.hu && (x.user != 0))) || (!x.hg && (x.group != 0))) || (!x.hs && (x.size != 0))) || (decide (2 < x.rh))) || (decide (2 < x.wh))) || ((x.rh != 2) && (!((x.rs == 0) && (x.rn == 0))))) || ((x.wh != 2) && (!((x.ws == 0) && (x.wn == 0))))) || !(tok x.rn)) || !(tok x.wn)) = !smay x := by
    unfold smay
    have n1 : (!decide (x.mode ≤ 4095)) = decide (4095 < x.mode) := by rw [← decide_not]; congr 1; simp
    have n2 : (!decide (x.rh ≤ 2)) = decide (2 < x.rh) := by rw [← decide_not]; congr 1; simp
    have n3 : (!decide (x.wh ≤ 2)) = decide (2 < x.wh) := by rw [← decide_not]; congr 1; simp
    simp only [Bool.not_and, Bool.not_or, n1, n2, n3, bne]
  rw [hacc]
  clear hacc
  generalize hm : smay x = m
  cases m with
  | false =>
    have hb := hS11.b
    have hown := own_empty W11 w.heap.size 5
    go_wp2
    go_ret2
    exact ⟨_, by rw [hm]; rfl, by rw [hm]; exact hown, hb⟩
  | true =>
    have hBB : w.heap.size ≤ W11.heap.size := hS11.b.size
    have hP1 : w.heap.size < W11.heap.size := hS11.s.lt
    have hP2 : w.heap.size + 1 < W11.heap.size := hS11.t.lt
    have o0 := own_empty W11 W11.heap.size 5
    have hle : W11.heap.size ≤ W11.heap.size := Nat.le_refl _
    obtain ⟨base, hbase⟩ : ∃ k, W11.heap.size = k := ⟨_, rfl⟩
    rw [hbase] at hBB hP1 hP2 o0
    replace hle : base ≤ W11.heap.size := by omega
    clear hbase
    have o0' : W11.ownsRow base 5 1 (.slice none 0 0) 0 (([] : List Int).map (Value.int .u8)) := o0
    have d0 := hS11.next (W' := W11.drew) (below_draw W11)
    have od0 := own_below o0' (below_draw W11)
    have led0 : base ≤ W11.drew.heap.size := hle
    have Sd0 := And.intro d0.s.c.1 d0.s.c.2.1
    go_wp2_with fail
    go_region_held3 (fun w' => w'.cell? ⟨w.heap.size, 0, none⟩ = some (.bool x.hm) ∧ w'.cell? ⟨w.heap.size, 1, none⟩ = some (.int .u32 x.mode)) (with_reducible assumption) (first
      | (go_at_call 27; have _g := sp0; refine (opt_any base (.slice none 0 0) 0 [] (bytesOf x.mode 4) x.hm g0 4 c0 X0 op0 lep0 (by omega) (by omega) (bytesOf_length _ _) sp0 np0).mono ?_; rintro e W12 ⟨v0, rfl, oo0, bb0⟩; have hS12 := e0.after bb0 hBB hP1 hP2; have S20 := And.intro hS12.s.c.1 hS12.s.c.2.1)
      | (go_at_call 28; refine (new_put x.mode _ hx.mode.1 hx.mode.2).mono ?_; rintro e X0 ⟨g0, c0, rfl, sp0, gl0, bp0⟩; have e0 := d0.next bp0; have op0 := own_below od0 bp0; have lep0 : base ≤ X0.heap.size := (by have := bp0.size; omega); have np0 : (.slice none 0 0 : Value).ownBlock ≠ some g0 := (fun h => by have := (own_lt od0 h).2; omega); have S10 := And.intro e0.s.c.1 e0.s.c.2.1))
    have le0 : base ≤ W12.heap.size := by have := bb0.size; omega
    clear d0 od0 led0 Sd0 e0 op0 lep0 np0 S10 sp0 gl0 bp0 bb0 S20 hle o0' hS11
    have hle := le0
    clear le0
    have nb0 : 0 + 4 + (if x.hm then 4 else 0) ≤ 8 := by split <;> omega
    obtain ⟨n0, hn0⟩ : ∃ k, 0 + 4 + (if x.hm then 4 else 0) = k := ⟨_, rfl⟩
    obtain ⟨z0, hz0⟩ : ∃ z, [] ++ (yB x.hm ++ if x.hm then bytesOf x.mode 4 else []) = z := ⟨_, rfl⟩
    rw [hn0] at nb0 oo0
    rw [hz0] at oo0
    have HN0 : Hid (0 + 4 + (if x.hm then 4 else 0) = n0) := hn0
    have HZ0 : Hid ([] ++ (yB x.hm ++ if x.hm then bytesOf x.mode 4 else []) = z0) := hz0
    clear hn0 hz0
    have d1 := hS12.next (W' := W12.drew) (below_draw W12)
    have od1 := own_below oo0 (below_draw W12)
    have led1 : base ≤ W12.drew.heap.size := hle
    have Sd1 := And.intro d1.s.c.2.2.1 d1.s.c.2.2.2.1
    go_wp2_with fail
    go_region_held3 (fun w' => w'.cell? ⟨w.heap.size, 2, none⟩ = some (.bool x.hu) ∧ w'.cell? ⟨w.heap.size, 3, none⟩ = some (.int .u32 x.user)) (with_reducible assumption) (first
      | (go_at_call 27; have _g := sp1; refine (opt_any base (v0) n0 z0 (bytesOf x.user 4) x.hu g1 4 c1 X1 op1 lep1 (by omega) (by omega) (bytesOf_length _ _) sp1 np1).mono ?_; rintro e W13 ⟨v1, rfl, oo1, bb1⟩; have hS13 := e1.after bb1 hBB hP1 hP2; have S21 := And.intro hS13.s.c.2.2.1 hS13.s.c.2.2.2.1)
      | (go_at_call 28; refine (new_put x.user _ hx.user.1 hx.user.2).mono ?_; rintro e X1 ⟨g1, c1, rfl, sp1, gl1, bp1⟩; have e1 := d1.next bp1; have op1 := own_below od1 bp1; have lep1 : base ≤ X1.heap.size := (by have := bp1.size; omega); have np1 : (v0 : Value).ownBlock ≠ some g1 := (fun h => by have := (own_lt od1 h).2; omega); have S11 := And.intro e1.s.c.2.2.1 e1.s.c.2.2.2.1))
    have le1 : base ≤ W13.heap.size := by have := bb1.size; omega
    clear d1 od1 led1 Sd1 e1 op1 lep1 np1 S11 sp1 gl1 bp1 bb1 S21 hle oo0 hS12
    have hle := le1
    clear le1
    have nb1 : n0 + 4 + (if x.hu then 4 else 0) ≤ 16 := by split <;> omega
    obtain ⟨n1, hn1⟩ : ∃ k, n0 + 4 + (if x.hu then 4 else 0) = k := ⟨_, rfl⟩
    obtain ⟨z1, hz1⟩ : ∃ z, z0 ++ (yB x.hu ++ if x.hu then bytesOf x.user 4 else []) = z := ⟨_, rfl⟩
    rw [hn1] at nb1 oo1
    rw [hz1] at oo1
    have HN1 : Hid (n0 + 4 + (if x.hu then 4 else 0) = n1) := hn1
    have HZ1 : Hid (z0 ++ (yB x.hu ++ if x.hu then bytesOf x.user 4 else []) = z1) := hz1
    clear hn1 hz1
    have d2 := hS13.next (W' := W13.drew) (below_draw W13)
    have od2 := own_below oo1 (below_draw W13)
    have led2 : base ≤ W13.drew.heap.size := hle
    have Sd2 := And.intro d2.s.c.2.2.2.2.1 d2.s.c.2.2.2.2.2.1
    go_wp2_with fail
    go_region_held3 (fun w' => w'.cell? ⟨w.heap.size, 4, none⟩ = some (.bool x.hg) ∧ w'.cell? ⟨w.heap.size, 5, none⟩ = some (.int .u32 x.group)) (with_reducible assumption) (first
      | (go_at_call 27; have _g := sp2; refine (opt_any base (v1) n1 z1 (bytesOf x.group 4) x.hg g2 4 c2 X2 op2 lep2 (by omega) (by omega) (bytesOf_length _ _) sp2 np2).mono ?_; rintro e W14 ⟨v2, rfl, oo2, bb2⟩; have hS14 := e2.after bb2 hBB hP1 hP2; have S22 := And.intro hS14.s.c.2.2.2.2.1 hS14.s.c.2.2.2.2.2.1)
      | (go_at_call 28; refine (new_put x.group _ hx.group.1 hx.group.2).mono ?_; rintro e X2 ⟨g2, c2, rfl, sp2, gl2, bp2⟩; have e2 := d2.next bp2; have op2 := own_below od2 bp2; have lep2 : base ≤ X2.heap.size := (by have := bp2.size; omega); have np2 : (v1 : Value).ownBlock ≠ some g2 := (fun h => by have := (own_lt od2 h).2; omega); have S12 := And.intro e2.s.c.2.2.2.2.1 e2.s.c.2.2.2.2.2.1))
    have le2 : base ≤ W14.heap.size := by have := bb2.size; omega
    clear d2 od2 led2 Sd2 e2 op2 lep2 np2 S12 sp2 gl2 bp2 bb2 S22 hle oo1 hS13
    have hle := le2
    clear le2
    have nb2 : n1 + 4 + (if x.hg then 4 else 0) ≤ 24 := by split <;> omega
    obtain ⟨n2, hn2⟩ : ∃ k, n1 + 4 + (if x.hg then 4 else 0) = k := ⟨_, rfl⟩
    obtain ⟨z2, hz2⟩ : ∃ z, z1 ++ (yB x.hg ++ if x.hg then bytesOf x.group 4 else []) = z := ⟨_, rfl⟩
    rw [hn2] at nb2 oo2
    rw [hz2] at oo2
    have HN2 : Hid (n1 + 4 + (if x.hg then 4 else 0) = n2) := hn2
    have HZ2 : Hid (z1 ++ (yB x.hg ++ if x.hg then bytesOf x.group 4 else []) = z2) := hz2
    clear hn2 hz2
    have d3 := hS14.next (W' := W14.drew) (below_draw W14)
    have od3 := own_below oo2 (below_draw W14)
    have led3 : base ≤ W14.drew.heap.size := hle
    have Sd3 := And.intro d3.s.c.2.2.2.2.2.2.1 d3.s.c.2.2.2.2.2.2.2.1
    go_wp2_with fail
    go_region_held3 (fun w' => w'.cell? ⟨w.heap.size, 6, none⟩ = some (.bool x.hs) ∧ w'.cell? ⟨w.heap.size, 7, none⟩ = some (.int .u64 x.size)) (with_reducible assumption) (first
      | (go_at_call 27; have _g := sp3; refine (opt_any base (v2) n2 z2 (bytesOf x.size 8) x.hs g3 8 c3 X3 op3 lep3 (by omega) (by omega) (bytesOf_length _ _) sp3 np3).mono ?_; rintro e W15 ⟨v3, rfl, oo3, bb3⟩; have hS15 := e3.after bb3 hBB hP1 hP2; have S23 := And.intro hS15.s.c.2.2.2.2.2.2.1 hS15.s.c.2.2.2.2.2.2.2.1)
      | (go_at_call 29; refine (new_long x.size _ hx.size.1 hx.size.2).mono ?_; rintro e X3 ⟨g3, c3, rfl, sp3, gl3, bp3⟩; have e3 := d3.next bp3; have op3 := own_below od3 bp3; have lep3 : base ≤ X3.heap.size := (by have := bp3.size; omega); have np3 : (v2 : Value).ownBlock ≠ some g3 := (fun h => by have := (own_lt od3 h).2; omega); have S13 := And.intro e3.s.c.2.2.2.2.2.2.1 e3.s.c.2.2.2.2.2.2.2.1))
    have le3 : base ≤ W15.heap.size := by have := bb3.size; omega
    clear d3 od3 led3 Sd3 e3 op3 lep3 np3 S13 sp3 gl3 bp3 bb3 S23 hle oo2 hS14
    have hle := le3
    clear le3
    have nb3 : n2 + 4 + (if x.hs then 8 else 0) ≤ 36 := by split <;> omega
    obtain ⟨n3, hn3⟩ : ∃ k, n2 + 4 + (if x.hs then 8 else 0) = k := ⟨_, rfl⟩
    obtain ⟨z3, hz3⟩ : ∃ z, z2 ++ (yB x.hs ++ if x.hs then bytesOf x.size 8 else []) = z := ⟨_, rfl⟩
    rw [hn3] at nb3 oo3
    rw [hz3] at oo3
    have HN3 : Hid (n2 + 4 + (if x.hs then 8 else 0) = n3) := hn3
    have HZ3 : Hid (z2 ++ (yB x.hs ++ if x.hs then bytesOf x.size 8 else []) = z3) := hz3
    clear hn3 hz3
    obtain ⟨c0, c1, c2, c3, c4, c5, c6, c7, c8, c9, c10, c11, c12, c13⟩ := hS15.s.c
    go_wp2_with fail
    refine (how_any base v3 n3 z3 x.rh x.rs x.rn W15 oo3 hle (by omega) hx.rh.1 hx.rh.2 hx.rs.1 hx.rs.2 hx.rn.1 hx.rn.2).mono ?_
    rintro e W16 ⟨v4, rfl, oo4, bb4⟩
    have hS16 := hS15.after bb4 hBB hP1 hP2
    have le4 : base ≤ W16.heap.size := by have := bb4.size; omega
    clear c0 c1 c2 c3 c4 c5 c6 c7 c8 c9 c10 c11 c12 c13 bb4 hle oo3 hS15
    have hle := le4
    clear le4
    have nb4 : n3 + 4 + (if x.rh == 2 then 8 else 0) ≤ 48 := by split <;> omega
    obtain ⟨n4, hn4⟩ : ∃ k, n3 + 4 + (if x.rh == 2 then 8 else 0) = k := ⟨_, rfl⟩
    obtain ⟨z4, hz4⟩ : ∃ z, z3 ++ (bytesOf x.rh 4 ++ if x.rh == 2 then tB x.rs x.rn else []) = z := ⟨_, rfl⟩
    rw [hn4] at nb4 oo4
    rw [hz4] at oo4
    have HN4 : Hid (n3 + 4 + (if x.rh == 2 then 8 else 0) = n4) := hn4
    have HZ4 : Hid (z3 ++ (bytesOf x.rh 4 ++ if x.rh == 2 then tB x.rs x.rn else []) = z4) := hz4
    clear hn4 hz4
    obtain ⟨c0, c1, c2, c3, c4, c5, c6, c7, c8, c9, c10, c11, c12, c13⟩ := hS16.s.c
    go_wp2_with fail
    refine (how_any base v4 n4 z4 x.wh x.ws x.wn W16 oo4 hle (by omega) hx.wh.1 hx.wh.2 hx.ws.1 hx.ws.2 hx.wn.1 hx.wn.2).mono ?_
    rintro e W17 ⟨v5, rfl, oo5, bb5⟩
    have hS17 := hS16.after bb5 hBB hP1 hP2
    have le5 : base ≤ W17.heap.size := by have := bb5.size; omega
    clear c0 c1 c2 c3 c4 c5 c6 c7 c8 c9 c10 c11 c12 c13 bb5 hle oo4 hS16
    have hle := le5
    clear le5
    have nb5 : n4 + 4 + (if x.wh == 2 then 8 else 0) ≤ 60 := by split <;> omega
    obtain ⟨n5, hn5⟩ : ∃ k, n4 + 4 + (if x.wh == 2 then 8 else 0) = k := ⟨_, rfl⟩
    obtain ⟨z5, hz5⟩ : ∃ z, z4 ++ (bytesOf x.wh 4 ++ if x.wh == 2 then tB x.ws x.wn else []) = z := ⟨_, rfl⟩
    rw [hn5] at nb5 oo5
    rw [hz5] at oo5
    have HN5 : Hid (n4 + 4 + (if x.wh == 2 then 8 else 0) = n5) := hn5
    have HZ5 : Hid (z4 ++ (bytesOf x.wh 4 ++ if x.wh == 2 then tB x.ws x.wn else []) = z5) := hz5
    clear hn5 hz5
    have hfz : z5 = sB x := by
      rw [← HZ5.out, ← HZ4.out, ← HZ3.out, ← HZ2.out, ← HZ1.out, ← HZ0.out, sB_eq]
      simp only [List.nil_append, List.append_assoc]
    have hfn : n5 = (sB x).length := by
      rw [← HN5.out, ← HN4.out, ← HN3.out, ← HN2.out, ← HN1.out, ← HN0.out, sB_length]
      omega
    rw [hfz, hfn] at oo5
    have hown := own_base oo5 hBB
    have hfin := hS17.b
    clear oo5 hfz hfn nb0 nb1 nb2 nb3 nb4 nb5 HN0 HN1 HN2 HN3 HN4 HN5 HZ0 HZ1 HZ2 HZ3 HZ4 HZ5
    go_wp2
    go_ret2
    exact ⟨_, by rw [hm]; rfl, by rw [hm]; exact hown, hfin⟩
end Go.Proofs.YtecbhhfncklefaaDoor
