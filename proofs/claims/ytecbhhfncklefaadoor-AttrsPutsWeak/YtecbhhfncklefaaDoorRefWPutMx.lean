/- The document's 'PutWeak': the bytes of what was told ahead and behind, or a refusal; nothing that was there turns. -/
import Derived.Test.YtecbhhfncklefaaDoorPwGuardMx
import Derived.Test.YtecbhhfncklefaaDoorRefSPutMx
import Derived.Test.YtecbhhfncklefaaDoorRefMayMx
import Derived.Test.YtecbhhfncklefaaDoorWCell
import Derived.Test.YtecbhhfncklefaaDoorACell
namespace Go.Proofs.YtecbhhfncklefaaDoor
set_option linter.unusedVariables false
open Go.RowKit

/-- What the row of conditions reads. -/
structure PwS (w0 : World) (h hn : Nat) (x : Wk) (W : World) : Prop where
  b : Below w0.heap.size w0 W
  s : Wp W h x
  t : Tp W hn 0 0
theorem PwS.next {w0 : World} {h hn : Nat} {x : Wk} {W W' : World} (S : PwS w0 h hn x W) (hb : Below W.heap.size W W') : PwS w0 h hn x W' := ⟨S.b.trans (hb.mono S.b.size), S.s.next hb, S.t.next hb⟩
theorem PwS.after {w0 : World} {h hn base : Nat} {x : Wk} {W W' : World} (S : PwS w0 h hn x W) (hb : Below base W W') (h0 : w0.heap.size ≤ base) (h1 : h < base) (h2 : hn < base) : PwS w0 h hn x W' := ⟨S.b.trans (hb.mono h0), (hb.block h h1).trans S.s, (hb.block hn h2).trans S.t⟩
theorem ld_af {W : World} {h : Nat} {x : Wk} (t : Wp W h x) : (loadVar 28 ⟨h, 7, none⟩).run Tryd.prog W = .ok (.agg #[.int .u32 x.af.kind, .int .u32 x.af.mode, .int .u32 x.af.links, .int .u32 x.af.user, .int .u32 x.af.group, .int .u64 x.af.size, .int .u64 x.af.used, .int .u64 x.af.id, .int .u32 x.af.rs, .int .u32 x.af.rn, .int .u32 x.af.ws, .int .u32 x.af.wn, .int .u32 x.af.ts, .int .u32 x.af.tn]) W := by
  obtain ⟨c0, c1, c2, c3, c4, c5, c6, c7, c8, c9, c10, c11, c12, c13, c14, c15, c16, c17, c18, c19, c20⟩ := t.c
  clear t c0 c1 c2 c3 c4 c5 c6
  go_simp; try first | done | with_reducible rfl
set_option maxRecDepth 100000 in
set_option maxHeartbeats 2000000 in
theorem ne_attr (x : Atr) (w : World) : (binOp .neq 28 (.agg #[.int .u32 x.kind, .int .u32 x.mode, .int .u32 x.links, .int .u32 x.user, .int .u32 x.group, .int .u64 x.size, .int .u64 x.used, .int .u64 x.id, .int .u32 x.rs, .int .u32 x.rn, .int .u32 x.ws, .int .u32 x.wn, .int .u32 x.ts, .int .u32 x.tn]) (.agg #[.int .u32 0, .int .u32 0, .int .u32 0, .int .u32 0, .int .u32 0, .int .u64 0, .int .u64 0, .int .u64 0, .int .u32 0, .int .u32 0, .int .u32 0, .int .u32 0, .int .u32 0, .int .u32 0])).run Tryd.prog w = .ok (.bool (!az x)) w := by
  rw [run_neq_struct]
  cases e0 : (x.kind == 0)
  · simp [go_sem, az, e0]
  cases e1 : (x.mode == 0)
  · simp [go_sem, az, e0, e1]
  cases e2 : (x.links == 0)
  · simp [go_sem, az, e0, e1, e2]
  cases e3 : (x.user == 0)
  · simp [go_sem, az, e0, e1, e2, e3]
  cases e4 : (x.group == 0)
  · simp [go_sem, az, e0, e1, e2, e3, e4]
  cases e5 : (x.size == 0)
  · simp [go_sem, az, e0, e1, e2, e3, e4, e5]
  cases e6 : (x.used == 0)
  · simp [go_sem, az, e0, e1, e2, e3, e4, e5, e6]
  cases e7 : (x.id == 0)
  · simp [go_sem, az, e0, e1, e2, e3, e4, e5, e6, e7]
  cases e8 : (x.rs == 0)
  · simp [go_sem, az, e0, e1, e2, e3, e4, e5, e6, e7, e8]
  cases e9 : (x.rn == 0)
  · simp [go_sem, az, e0, e1, e2, e3, e4, e5, e6, e7, e8, e9]
  cases e10 : (x.ws == 0)
  · simp [go_sem, az, e0, e1, e2, e3, e4, e5, e6, e7, e8, e9, e10]
  cases e11 : (x.wn == 0)
  · simp [go_sem, az, e0, e1, e2, e3, e4, e5, e6, e7, e8, e9, e10, e11]
  cases e12 : (x.ts == 0)
  · simp [go_sem, az, e0, e1, e2, e3, e4, e5, e6, e7, e8, e9, e10, e11, e12]
  cases e13 : (x.tn == 0)
  all_goals simp [go_sem, az, e0, e1, e2, e3, e4, e5, e6, e7, e8, e9, e10, e11, e12, e13]
theorem eg_attr (x y : Operand) (m n : Array Value) (w : World) : (eqGuard .neq 28 x y (.agg m) (.agg n)).run Tryd.prog w = .ok () w := by
  have h : Tryd.prog.eqGuardType Tryd.prog.depth 28 = false := by kernel_rfl
  simp [eqGuard, go_sem, h]

set_option maxRecDepth 100000 in
set_option maxHeartbeats 4000000 in
theorem refwput_any : WPut 12 := by
  intro x w hx
  obtain ⟨i0, hi, hz0, hz1, hz2⟩ := info_parts infoU8r
  have hB1 : Below w.heap.size w (w.alloc (.cells #[.bool x.hb, .int .u64 x.size, .int .u32 x.ws, .int .u32 x.wn, .int .u32 x.ts, .int .u32 x.tn, .bool x.ha, .int .u32 x.af.kind, .int .u32 x.af.mode, .int .u32 x.af.links, .int .u32 x.af.user, .int .u32 x.af.group, .int .u64 x.af.size, .int .u64 x.af.used, .int .u64 x.af.id, .int .u32 x.af.rs, .int .u32 x.af.rn, .int .u32 x.af.ws, .int .u32 x.af.wn, .int .u32 x.af.ts, .int .u32 x.af.tn] 41)) := (Below.refl _ _).alloc (Nat.le_refl _) _
  have hB2 := hB1.alloc hB1.size (.cells #[.int .u32 0, .int .u32 0] 26)
  have hS0 : PwS w w.heap.size (w.heap.size + 1) x ((w.alloc (.cells #[.bool x.hb, .int .u64 x.size, .int .u32 x.ws, .int .u32 x.wn, .int .u32 x.ts, .int .u32 x.tn, .bool x.ha, .int .u32 x.af.kind, .int .u32 x.af.mode, .int .u32 x.af.links, .int .u32 x.af.user, .int .u32 x.af.group, .int .u64 x.af.size, .int .u64 x.af.used, .int .u64 x.af.id, .int .u32 x.af.rs, .int .u32 x.af.rn, .int .u32 x.af.ws, .int .u32 x.af.wn, .int .u32 x.af.ts, .int .u32 x.af.tn] 41)).alloc (.cells #[.int .u32 0, .int .u32 0] 26)) := ⟨hB2, (Wp.new w x).alloc _, by
    have h := Tp.new (w.alloc (.cells #[.bool x.hb, .int .u64 x.size, .int .u32 x.ws, .int .u32 x.wn, .int .u32 x.ts, .int .u32 x.tn, .bool x.ha, .int .u32 x.af.kind, .int .u32 x.af.mode, .int .u32 x.af.links, .int .u32 x.af.user, .int .u32 x.af.group, .int .u64 x.af.size, .int .u64 x.af.used, .int .u64 x.af.id, .int .u32 x.af.rs, .int .u32 x.af.rn, .int .u32 x.af.ws, .int .u32 x.af.wn, .int .u32 x.af.ts, .int .u32 x.af.tn] 41)) 0 0
    rw [show (w.alloc (.cells #[.bool x.hb, .int .u64 x.size, .int .u32 x.ws, .int .u32 x.wn, .int .u32 x.ts, .int .u32 x.tn, .bool x.ha, .int .u32 x.af.kind, .int .u32 x.af.mode, .int .u32 x.af.links, .int .u32 x.af.user, .int .u32 x.af.group, .int .u64 x.af.size, .int .u64 x.af.used, .int .u64 x.af.id, .int .u32 x.af.rs, .int .u32 x.af.rn, .int .u32 x.af.ws, .int .u32 x.af.wn, .int .u32 x.af.ts, .int .u32 x.af.tn] 41)).heap.size = w.heap.size + 1 by simp] at h
    exact h⟩
  clear hB1 hB2
  go_enter Tryd.func12, Tryd.ntmps12
  go_upto_region 2 with fail
  generalize ((w.alloc (.cells #[.bool x.hb, .int .u64 x.size, .int .u32 x.ws, .int .u32 x.wn, .int .u32 x.ts, .int .u32 x.tn, .bool x.ha, .int .u32 x.af.kind, .int .u32 x.af.mode, .int .u32 x.af.links, .int .u32 x.af.user, .int .u32 x.af.group, .int .u64 x.af.size, .int .u64 x.af.used, .int .u64 x.af.id, .int .u32 x.af.rs, .int .u32 x.af.rn, .int .u32 x.af.ws, .int .u32 x.af.wn, .int .u32 x.af.ts, .int .u32 x.af.tn] 41)).alloc (.cells #[.int .u32 0, .int .u32 0] 26)) = W0 at *
  change (Code.region _ pwOps false).wp _ _ _ _
  refine seq_start ?_
  refine pw_d1 (S := PwS w w.heap.size (w.heap.size + 1) x) _ _ _ _ _ _ _ x.hb x.size (x.size != 0) x.ws x.wn (!((x.ws == 0) && (x.wn == 0))) x.ts x.tn (!((x.ts == 0) && (x.tn == 0))) (fun w hS => ld_bool hS.s.c.1) (fun w hS => ld_u64 hS.s.c.2.1) (fun w => ne_u64 _ _ w) (fun w => eg_ne _ _ _ _ _ _ w) (fun w hS => ld_tim hS.s.c.2.2.1 hS.s.c.2.2.2.1) (fun w hS => ld_tim hS.t.c0 hS.t.c1) (fun w => time_neq _ _ _ _ w) (fun w => eg_tim _ _ _ _ w) (fun w hS => ld_tim hS.s.c.2.2.2.2.1 hS.s.c.2.2.2.2.2.1) (fun w => time_neq _ _ _ _ w) (fun w => eg_tim _ _ _ _ w) _ hS0 ?_
  intro _ _ _ _ _ _ _ _ _ _ _ _ _ _ _ _ _ _ _ W1 hS1
  refine pw_d2 (S := PwS w w.heap.size (w.heap.size + 1) x) _ _ _ _ _ _ _ _ _ _ _ _ _ _ _ _ _ _ _ _ _ _ _ _ _ _ _ x.ha #[.int .u32 x.af.kind, .int .u32 x.af.mode, .int .u32 x.af.links, .int .u32 x.af.user, .int .u32 x.af.group, .int .u64 x.af.size, .int .u64 x.af.used, .int .u64 x.af.id, .int .u32 x.af.rs, .int .u32 x.af.rn, .int .u32 x.af.ws, .int .u32 x.af.wn, .int .u32 x.af.ts, .int .u32 x.af.tn] (!az x.af) (fun w hS => ld_bool hS.s.c.2.2.2.2.2.2.1) (fun w hS => ld_af hS.s) (fun w => ne_attr _ w) (fun w => eg_attr _ _ _ _ w) _ hS1 ?_
  intro _ _ _ _ _ _ _ _ _ _ W2 hS2
  clear hS1
  refine pw_d3 (S := PwS w w.heap.size (w.heap.size + 1) x) _ _ _ _ _ _ _ _ _ _ _ _ _ _ _ _ _ _ _ _ _ _ _ _ _ _ _ _ _ _ _ _ _ _ _ _ _ _ x.ha #[.int .u32 x.af.kind, .int .u32 x.af.mode, .int .u32 x.af.links, .int .u32 x.af.user, .int .u32 x.af.group, .int .u64 x.af.size, .int .u64 x.af.used, .int .u64 x.af.id, .int .u32 x.af.rs, .int .u32 x.af.rn, .int .u32 x.af.ws, .int .u32 x.af.wn, .int .u32 x.af.ts, .int .u32 x.af.tn] (amay x.af) (fun w hS => ld_bool hS.s.c.2.2.2.2.2.2.1) (fun w hS => ld_af hS.s) (fun w hS => (refmay_any _ w).mono fun e w2 h => ⟨h.1, hS.next h.2⟩) _ hS2 ?_
  intro _ _ _ _ _ _ _ _ _ W3 hS3
  clear hS2
  refine pw_d4 (S := PwS w w.heap.size (w.heap.size + 1) x) _ _ _ _ _ _ _ _ _ _ _ _ _ _ _ _ _ _ _ _ _ _ _ _ _ _ _ _ _ _ _ _ _ _ _ _ _ _ _ _ _ _ _ _ _ _ _ _ x.ws x.wn (tok x.wn) (fun w hS => ld_tim hS.s.c.2.2.1 hS.s.c.2.2.2.1) (fun w hS => (reftcheck_any _ _ w).mono fun e w2 h => ⟨h.1, hS.next h.2⟩) _ hS3 ?_
  intro _ _ _ _ _ W4 hS4
  clear hS3
  refine pw_d5 (S := PwS w w.heap.size (w.heap.size + 1) x) _ _ _ _ _ _ _ _ _ _ _ _ _ _ _ _ _ _ _ _ _ _ _ _ _ _ _ _ _ _ _ _ _ _ _ _ _ _ _ _ _ _ _ _ _ _ _ _ _ _ _ _ _ _ x.ts x.tn (tok x.tn) (fun w hS => ld_tim hS.s.c.2.2.2.2.1 hS.s.c.2.2.2.2.2.1) (fun w hS => (reftcheck_any _ _ w).mono fun e w2 h => ⟨h.1, hS.next h.2⟩) _ hS4 ?_
  intro _ _ _ _ _ W5 hS5
  clear hS4
  refine seq_done (k := 53) (by rw [pw_size]; decide) ?_
  have hacc : (((((!x.hb && ((x.size != 0) || ((!((x.ws == 0) && (x.wn == 0))) || (!((x.ts == 0) && (x.tn == 0)))))) || (!x.ha && (!az x.af))) || (x.ha && !(amay x.af))) || !(tok x.wn)) || !(tok x.tn)) = !wmay x := by
    unfold wmay
    cases x.hb <;> cases x.ha <;> simp [bne, Bool.not_and, Bool.or_assoc]
  rw [hacc]
  clear hacc
  generalize hm : wmay x = m
  cases m with
  | false =>
    have hb := hS5.b
    have hown := own_empty W5 w.heap.size 5
    go_wp2
    go_ret2
    exact ⟨_, by rw [hm]; rfl, by rw [hm]; exact hown, hb⟩
  | true =>
    have hBB : w.heap.size ≤ W5.heap.size := hS5.b.size
    have hP1 : w.heap.size < W5.heap.size := hS5.s.lt
    have hP2 : w.heap.size + 1 < W5.heap.size := hS5.t.lt
    obtain ⟨base, hbase⟩ : ∃ k, W5.heap.size = k := ⟨_, rfl⟩
    rw [hbase] at hBB hP1 hP2
    have hle : base ≤ W5.heap.size := by omega
    have ok0 : amay x.af = true ∨ x.ha = false := by
      have h := hm
      unfold wmay at h
      cases hh : x.ha with
      | false => exact .inr rfl
      | true => rw [hh] at h; simp only [Bool.and_eq_true, if_true] at h; exact .inl h.1.1.2
    clear hbase
    have ht8 : ((tB x.ws x.wn).map (Value.int .u8)).length = 8 * 1 := by simp [tB_length]
    have m1 : (8 + 8 : Nat) ≤ maxLen := by unfold maxLen; omega
    have m2 : (8 + 8) * 1 ≤ 140737488355328 := by omega
    have hno : (some (⟨0, 0, none⟩ : Addr) = none → False) := by simp
    have A3 := fun W => refPutLong_own x.size hx.size.1 hx.size.2 W
    have A2 := fun W => reft_piece x.ws x.wn W hx.ws.1 hx.ws.2 hx.wn.1 hx.wn.2
    have d0 := hS5.next (W' := W5.drew) (below_draw W5)
    have led0 : base ≤ W5.drew.heap.size := hle
    have Sd0 := And.intro d0.s.c.2.1 (And.intro d0.s.c.2.2.1 d0.s.c.2.2.2.1)
    go_wp2_with fail
    go_region_held3 (fun w' => w'.cell? ⟨w.heap.size, 1, none⟩ = some (.int .u64 x.size) ∧ w'.cell? ⟨w.heap.size, 2, none⟩ = some (.int .u32 x.ws) ∧ w'.cell? ⟨w.heap.size, 3, none⟩ = some (.int .u32 x.wn)) (with_reducible assumption) (first
      | (refine step_append_each _ (by rfl) _ _ 29 (by rfl) base 5 i0 (.int .u8 0) 1 1 Tryd.underlying29 hi hz0 hz1 hz2 (by rfl) (by decide) (.slice (some ⟨gl, 0, none⟩) 8 cl) 8 _ (by rfl) ol2 (some ⟨gt, 0, none⟩) 8 ct ((tB x.ws x.wn).map (Value.int .u8)) (by rfl) (fun h => nomatch h) ht8 (fun b e => seg_news (Option.some.inj e ▸ st2)) (news_one _) m1 m2 le2 ?_; intro v3 W8 o3 hg3; have b3 : Below base X2 W8 := (Below.refl _ _).grown hg3 le2 (fun k e => (own_lt ol2 e).1); have hS8 := e2.after b3 hBB hP1 hP2; have S3 := And.intro hS8.s.c.2.1 (And.intro hS8.s.c.2.2.1 hS8.s.c.2.2.2.1))
      | (go_at_call 34; have _g := e1; refine (A2 _).mono ?_; rintro e X2 ⟨gt, ct, rfl, st2, bt⟩; have e2 := e1.next bt; have ol2 := own_below ol bt; have le2 : base ≤ X2.heap.size := Nat.le_trans le1 bt.size; have S2 := And.intro e2.s.c.2.1 (And.intro e2.s.c.2.2.1 e2.s.c.2.2.2.1))
      | (go_at_call 29; refine (A3 _).mono ?_; rintro e X1 ⟨gl, cl, rfl, oL, bl⟩; have e1 := d0.next bl; have ol := own_base oL led0; have le1 : base ≤ X1.heap.size := Nat.le_trans led0 bl.size; have S1 := And.intro e1.s.c.2.1 (And.intro e1.s.c.2.2.1 e1.s.c.2.2.2.1)))
    rw [← List.map_append] at o3
    have le3 : base ≤ W8.heap.size := by have := b3.size; omega
    clear d0 led0 Sd0 e1 e2 ol ol2 oL le1 le2 S1 S2 S3 st2 bt bl b3 hg3 hS5 hle
    obtain ⟨c4, c5⟩ := And.intro hS8.s.c.2.2.2.2.1 hS8.s.c.2.2.2.2.2.1
    go_wp2_with fail
    refine (reft_piece x.ts x.tn W8 hx.ts.1 hx.ts.2 hx.tn.1 hx.tn.2).mono ?_
    rintro e W9 ⟨gu, cu, rfl, su, bu⟩
    have hS9 := hS8.next bu
    have o4 := own_below o3 bu
    have le9 : base ≤ W9.heap.size := by have := bu.size; omega
    clear c4 c5 hS8 o3 le3 bu
    obtain ⟨c0, c6⟩ := And.intro hS9.s.c.1 hS9.s.c.2.2.2.2.2.2.1
    go_wp2_with (at_builtin; refine wpList_append_each _ rfl _ _ 29 rfl base 5 i0 (.int .u8 0) 1 1 Tryd.underlying29 hi hz0 hz1 hz2 rfl (by decide) v3 16 _ rfl o4 (some ⟨gu, 0, none⟩) 8 cu ((tB x.ts x.tn).map (Value.int .u8)) rfl (by simp) (by simp [tB_length]) (fun b e => seg_news (by rw [← e]; exact su)) (news_one _) (by unfold maxLen; omega) (by omega) le9 ?_; intro v4 W10 o5 hg5; have b5 : Below base W9 W10 := (Below.refl _ _).grown hg5 le9 (fun k e => (own_lt o4 e).1); have hS10 := hS9.after b5 hBB hP1 hP2; have q0 := hS10.s.c.1)
    rw [← List.map_append] at o5
    have le10 : base ≤ W10.heap.size := by have := b5.size; omega
    obtain ⟨gb, cb, rfl, hb1, hb2, hb3⟩ := own_shape o5 (by omega)
    have hz24 : ((bytesOf x.size 8 ++ tB x.ws x.wn) ++ tB x.ts x.tn).length = 24 := by simp [bytesOf_length, tB_length]
    have sb := seg_own o5 hz24
    have gbl : gb < W10.heap.size := (own_lt o5 rfl).2
    clear o4 su hg5 b5 hS9 le9 c0 c6
    have oe := own_empty W10 base 5
    have oe' : W10.ownsRow base 5 1 (.slice none 0 0) 0 (([] : List Int).map (Value.int .u8)) := oe
    refine (opt_any base (.slice none 0 0) 0 [] ((bytesOf x.size 8 ++ tB x.ws x.wn) ++ tB x.ts x.tn) x.hb gb 24 cb W10 oe' le10 (by omega) (by omega) hz24 sb (by simp [Value.ownBlock])).mono ?_
    rintro e W11 ⟨v6, rfl, o6, b6⟩
    have hS11 := hS10.after b6 hBB hP1 hP2
    have le11 : base ≤ W11.heap.size := by have := b6.size; omega
    clear oe oe' o5 sb gbl hS10 le10 q0 b6 hz24 hb1 hb2 hb3
    have nb : 0 + 4 + (if x.hb then 24 else 0) ≤ 28 := by split <;> omega
    obtain ⟨n6, hn6⟩ : ∃ k, 0 + 4 + (if x.hb then 24 else 0) = k := ⟨_, rfl⟩
    obtain ⟨z6, hz6⟩ : ∃ z, ([] : List Int) ++ (yB x.hb ++ if x.hb then ((bytesOf x.size 8 ++ tB x.ws x.wn) ++ tB x.ts x.tn) else []) = z := ⟨_, rfl⟩
    rw [hn6] at nb o6
    rw [hz6] at o6
    have HN6 : Hid (0 + 4 + (if x.hb then 24 else 0) = n6) := hn6
    have HZ6 : Hid (([] : List Int) ++ (yB x.hb ++ if x.hb then ((bytesOf x.size 8 ++ tB x.ws x.wn) ++ tB x.ts x.tn) else []) = z6) := hz6
    clear hn6 hz6
    have d7 := hS11.next (W' := W11.drew) (below_draw W11)
    have od7 := own_below o6 (below_draw W11)
    have led7 : base ≤ W11.drew.heap.size := le11
    have Sd7 := d7.s.c.2.2.2.2.2.2
    go_wp2_with fail
    go_region_held3 (fun w' => w'.cell? ⟨w.heap.size, 6, none⟩ = some (.bool x.ha) ∧ w'.cell? ⟨w.heap.size, 7, none⟩ = some (.int .u32 x.af.kind) ∧ w'.cell? ⟨w.heap.size, 8, none⟩ = some (.int .u32 x.af.mode) ∧ w'.cell? ⟨w.heap.size, 9, none⟩ = some (.int .u32 x.af.links) ∧ w'.cell? ⟨w.heap.size, 10, none⟩ = some (.int .u32 x.af.user) ∧ w'.cell? ⟨w.heap.size, 11, none⟩ = some (.int .u32 x.af.group) ∧ w'.cell? ⟨w.heap.size, 12, none⟩ = some (.int .u64 x.af.size) ∧ w'.cell? ⟨w.heap.size, 13, none⟩ = some (.int .u64 x.af.used) ∧ w'.cell? ⟨w.heap.size, 14, none⟩ = some (.int .u64 x.af.id) ∧ w'.cell? ⟨w.heap.size, 15, none⟩ = some (.int .u32 x.af.rs) ∧ w'.cell? ⟨w.heap.size, 16, none⟩ = some (.int .u32 x.af.rn) ∧ w'.cell? ⟨w.heap.size, 17, none⟩ = some (.int .u32 x.af.ws) ∧ w'.cell? ⟨w.heap.size, 18, none⟩ = some (.int .u32 x.af.wn) ∧ w'.cell? ⟨w.heap.size, 19, none⟩ = some (.int .u32 x.af.ts) ∧ w'.cell? ⟨w.heap.size, 20, none⟩ = some (.int .u32 x.af.tn)) (with_reducible assumption) (first
      | (go_at_call 27; have _g := e7; refine (opt_any base v6 n6 z6 (aB x.af) x.ha g7 84 c7 X7 op7 lep7 (by omega) (by omega) (aB_length _) sp7 np7).mono ?_; rintro e W12 ⟨v7, rfl, o7, bb7⟩; have hS12 := e7.after bb7 hBB hP1 hP2; have S27 := hS12.s.c.2.2.2.2.2.2)
      | (go_at_call 16; refine (refbytes_any x.af _ hx.af).mono ?_; rintro e X7 ⟨g7, c7, rfl, k71, k72, oy7, bp7⟩; have e7 := d7.next bp7; have op7 := own_below od7 bp7; have lep7 : base ≤ X7.heap.size := (by have := bp7.size; omega); have sp7 := seg_own oy7 (aB_length _); have np7 : v6.ownBlock ≠ some g7 := (fun h => by have h1 : g7 < W11.heap.size := (own_lt o6 h).2; have h2 : W11.heap.size ≤ g7 := (own_lt oy7 rfl).1; omega); have S17 := e7.s.c.2.2.2.2.2.2))
    have hfin := hS12.b
    have hfz : z6 ++ (yB x.ha ++ if x.ha then aB x.af else []) = wB x := by
      rw [← HZ6.out, wB_eq]
      simp only [List.nil_append, List.append_assoc]
    have hfn : n6 + 4 + (if x.ha then 84 else 0) = (wB x).length := by
      rw [← HN6.out, wB_length]
      omega
    rw [hfz, hfn] at o7
    have hown := own_base o7 hBB
    clear o7 hfz hfn nb HN6 HZ6 d7 od7 led7 Sd7 e7 op7 lep7 sp7 np7 S17 S27 oy7 bp7 bb7 hS12 hS11 o6 le11
    go_wp2
    go_ret2
    exact ⟨_, by rw [hm]; rfl, by rw [hm]; exact hown, hfin⟩
end Go.Proofs.YtecbhhfncklefaaDoor
