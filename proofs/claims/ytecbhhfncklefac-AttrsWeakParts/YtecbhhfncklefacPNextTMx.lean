/- 'next' of the program, of a point of time; nothing but the reader turns. -/
import Derived.Test.YtecbhhfncklefacPRdPNextMx
import Derived.Test.YtecbhhfncklefacStoreWhole
import Derived.Maps.Range
namespace Go.Proofs.Ytecbhhfncklefac
set_option linter.unusedVariables false
open Go.RowKit

set_option maxRecDepth 100000 in
set_option maxHeartbeats 4000000 in
theorem nextt_any (W : World) (h : Nat) (a : Option Addr) (len cap : Nat) (zs : List Int) (s : Rd) (R : Rb W h a len cap zs s) (he : s.e = 0) :
    Calls Try.prog 60 #[.pointer (some ⟨h, 0, none⟩), .int .i64 8, .func (.func 61) #[] #[]] W (Got timC (fun t => .agg #[.int .u32 t.1, .int .u32 t.2]) W h a len cap zs s) := by
  have hn := R.on.n
  have hzl := R.len
  have hlc := R.lc
  have hmx := R.max
  have hlt := R.lt
  have hB1 : Below W.heap.size W (W.alloc (.cells #[.int .u32 0, .int .u32 0] 26)) := (Below.refl _ _).alloc (Nat.le_refl _) _
  have z1 := World.alloc_heap_new W (.cells #[.int .u32 0, .int .u32 0] 26)
  have R1 := R.next hB1
  obtain ⟨a', hcut, hsf⟩ := cut_from R1.seg R.len R.lc s.n (by omega)
  have hget := fun W' hS => tget_any a' (len - s.n) (cap - s.n) (zs.drop s.n) W' (by omega) (by omega) (by rw [List.length_drop, hzl]) (byt_tail R.byt s.n) hS
  have hrl : s.r.length = len - s.n := by rw [R.on.r, List.length_drop, hzl]
  rw [← R.on.r] at hget hsf
  obtain ⟨haft, hk⟩ := aft_tim he
  have hon := on_nxt R.on hk
  generalize gtS s.r = X at *
  generalize gtN s.r = Y at *
  generalize hE' : gtE s.r = E at *
  go_enter Try.func60, Try.ntmps60
  go_wp2_with fail
  generalize (W.alloc (.cells #[.int .u32 0, .int .u32 0] 26)) = W1 at *
  have hdr := below_draw W1
  have hdz : Below W1.heap.size W1 (W1.alloc (.cells #[.int .u32 0, .int .u32 0] 26)).drew := ((Below.refl _ _).alloc (Nat.le_refl _) _).trans ⟨rfl, rfl, rfl, by simp, fun _ _ => rfl⟩
  have hr2 := R1.next hdr
  have hrz := R1.next hdz
  have hs2 := hsf.below hdr
  have hsz := hsf.below hdz
  have z2 := (hdr.block _ (Array.getElem?_eq_some_iff.1 z1).1).trans z1
  have zz := (hdz.block _ (Array.getElem?_eq_some_iff.1 z1).1).trans z1
  have tz : Tp (W1.alloc (.cells #[.int .u32 0, .int .u32 0] 26)).drew W1.heap.size 0 0 := Tp.new W1 0 0
  have hB2 := hB1.trans (hdr.mono hB1.size)
  have hBz := hB1.trans (hdz.mono hB1.size)
  have S2 := And.intro hr2.c.1 hr2.c.2
  have Sz := And.intro hrz.c.1 hrz.c.2
  have hlt1 := R1.lt
  clear R hdr hdz he
  go_region_held3 (fun w' => w'.cell? ⟨h, 0, none⟩ = some (.slice a len cap) ∧ w'.cell? ⟨h, 1, none⟩ = some (.int .i64 (s.n : Int))) (first | with_reducible exact Sc | with_reducible exact Sa | with_reducible exact S3 | with_reducible exact S2 | with_reducible exact Sz) (first
    | (go_at_call 61; refine (hget _ hs2).mono ?_; rintro e W3 ⟨rfl, hb3⟩; have hr3 := hr2.next hb3; have hB3 := hB2.trans (hb3.mono hB2.size); have z3 := (hb3.block _ (Array.getElem?_eq_some_iff.1 z2).1).trans z2; have S3 := And.intro hr3.c.1 hr3.c.2; have ra := hr3.next ((Below.refl W3.heap.size W3).alloc (Nat.le_refl _) (.cells #[.int .u32 0, .int .u32 0] 26)); have Sa := And.intro ra.c.1 ra.c.2; have rc := hr3.next ((Below.refl W3.heap.size W3).alloc (Nat.le_refl _) (.cells #[.int .u32 X, .int .u32 Y] 26)); have Sc := And.intro rc.c.1 rc.c.2)
    | (go_at_call 61; refine (hget _ hsz).mono ?_; rintro e W3 ⟨rfl, hb3⟩; have hr3 := hrz.next hb3; have hB3 := hBz.trans (hb3.mono hBz.size); have z3 := (hb3.block _ (Array.getElem?_eq_some_iff.1 zz).1).trans zz; have t3 := tz.next hb3; have S3 := And.intro hr3.c.1 hr3.c.2; have i0 : W3.frozen? ⟨W1.heap.size, 0, none⟩ = false := (by simp [World.frozen?, show W3.heap[W1.heap.size]? = _ from t3]); have i1 : W3.frozen? ⟨W1.heap.size, 1, none⟩ = false := (by simp [World.frozen?, show W3.heap[W1.heap.size]? = _ from t3]); have j0 := t3.c0; have j1 := t3.c1; have ga := (grown_cell W3 W1.heap.size 0 (.int .u32 X)).trans (grown_cell (W3.setCell ⟨W1.heap.size, 0, none⟩ (.int .u32 X)) W1.heap.size 1 (.int .u32 Y)); have ra : Rb ((W3.setCell ⟨W1.heap.size, 0, none⟩ (.int .u32 X)).setCell ⟨W1.heap.size, 1, none⟩ (.int .u32 Y)) h a len cap zs s := hr3.other ga (Nat.ne_of_gt hlt1) (seg_far hr3.seg t3 (fun n e => by cases e) (fun n e => by cases e) ga); have Sa := And.intro ra.c.1 ra.c.2))
  all_goals clear hget hs2 hsz hr2 hrz z2 zz S2 Sz Sa hB2 hBz S3
  · have hv : Rb (W3.alloc (.cells #[.int .u32 X, .int .u32 Y] 26)) h a len cap zs s := rc
    have tq := Tp.new W3 X Y
    have hb4 : Below W3.heap.size W3 (W3.alloc (.cells #[.int .u32 X, .int .u32 Y] 26)) := (Below.refl _ _).alloc (Nat.le_refl _) _
    have zv := (hb4.block _ (Array.getElem?_eq_some_iff.1 z3).1).trans z3
    have hBV := hB3.trans (hb4.mono hB3.size)
    have hqlt : h < W3.heap.size := hr3.lt
    clear Sc rc ra hr3 hb4 z3 hB3
    generalize W3.alloc (.cells #[.int .u32 X, .int .u32 Y] 26) = V at *
    generalize W3.heap.size = q at *
    have gV := grown_below hBV (some h)
    have hqh : q ≠ h := Nat.ne_of_gt hqlt
    have hwh : W.heap.size ≠ h := Nat.ne_of_gt hlt
    by_cases hE : E = 0
    · have hk' := hk hE
      subst hE
      rw [show s.nxt 0 8 = ⟨s.r.drop 8, s.n + 8, 0⟩ from rfl] at haft hon
      have g1 := grown_cell V h 1 (.int .i64 ((s.n : Int) + 8))
      have tx : Tp (V.setCell ⟨h, 1, none⟩ (.int .i64 ((s.n : Int) + 8))) q X Y := (g1.block q tq.lt (fun e => hqh (Option.some.inj e))).trans tq
      have zx := (g1.block W.heap.size (Array.getElem?_eq_some_iff.1 zv).1 (fun e => hwh (Option.some.inj e))).trans zv
      have rx : Rb (V.setCell ⟨h, 1, none⟩ (.int .i64 ((s.n : Int) + 8))) h a len cap zs ⟨s.r.drop 8, s.n + 8, 0⟩ := hv.step ⟨s.r.drop 8, s.n + 8, 0⟩ hon
      obtain ⟨v0, v1⟩ := hv.c
      have vf := hv.f
      have x0 := tx.c0
      have x1 := tx.c1
      clear hv tq zv
      go_wp2_with (first
        | (go_at_call 30; refine (need_yes _ _).mono ?_; rintro e w1 ⟨rfl, hw1⟩; subst w1)
        | (refine wpList_store_whole rfl _ _ _ rfl W.heap.size _ rfl rfl 26 _ zx time_size rfl (by simp [Value.oneCell']) ?_; intro W9 hr9 hg9 hs9))
      have hR : Rb W9 h a len cap zs ⟨s.r.drop 8, s.n + 8, 0⟩ := rx.other hg9 hwh (seg_far rx.seg zx (fun n e => by cases e) (fun n e => by cases e) hg9)
      exact bodyPost_ret (results_cell_row (p := 6) (ty := 26) rfl _ _ W.heap.size 26 _ (0, 0) _ (by rfl) hr9 Try.underlying26 rfl (by kernel_rfl)) rfl ⟨(gV.andThen g1 (fun j e => .inr e)).andThen hg9 (fun j e => .inl (Nat.le_of_eq (Option.some.inj e))), (X, Y), _, haft, .inl ⟨rfl, rfl, hR⟩⟩
    · have hEb : (E == 0) = false := by simpa using hE
      rw [show s.nxt E 8 = ⟨s.r, s.n, E⟩ by unfold Rd.nxt; rw [if_neg hE]] at haft hon
      clear hv tq zv
      go_wp2_with (go_at_call 30; refine (need_no _ _).mono ?_; rintro e w1 ⟨rfl, hw1⟩; subst w1)
      exact ⟨rfl, gV, (X, Y), _, haft, .inr ⟨hE, rfl⟩⟩
  · have hv := ra
    have tq : Tp ((W3.setCell ⟨W1.heap.size, 0, none⟩ (.int .u32 X)).setCell ⟨W1.heap.size, 1, none⟩ (.int .u32 Y)) W1.heap.size X Y := two_set t3 _ _
    have hge : W.heap.size < W1.heap.size := (Array.getElem?_eq_some_iff.1 z1).1
    have zv := (ga.block _ (Array.getElem?_eq_some_iff.1 z3).1 (fun e => Nat.ne_of_lt hge (Option.some.inj e))).trans z3
    have hBV := hB3.grown ga hB3.size (fun k e => by have h5 := Option.some.inj e; omega)
    have hqlt : h < W1.heap.size := hlt1
    clear i0 i1 j0 j1 ra hr3 z3 hB3 t3 ga tz
    generalize (W3.setCell ⟨W1.heap.size, 0, none⟩ (.int .u32 X)).setCell ⟨W1.heap.size, 1, none⟩ (.int .u32 Y) = V at *
    generalize W1.heap.size = q at *
    have gV := grown_below hBV (some h)
    have hqh : q ≠ h := Nat.ne_of_gt hqlt
    have hwh : W.heap.size ≠ h := Nat.ne_of_gt hlt
    by_cases hE : E = 0
    · have hk' := hk hE
      subst hE
      rw [show s.nxt 0 8 = ⟨s.r.drop 8, s.n + 8, 0⟩ from rfl] at haft hon
      have g1 := grown_cell V h 1 (.int .i64 ((s.n : Int) + 8))
      have tx : Tp (V.setCell ⟨h, 1, none⟩ (.int .i64 ((s.n : Int) + 8))) q X Y := (g1.block q tq.lt (fun e => hqh (Option.some.inj e))).trans tq
      have zx := (g1.block W.heap.size (Array.getElem?_eq_some_iff.1 zv).1 (fun e => hwh (Option.some.inj e))).trans zv
      have rx : Rb (V.setCell ⟨h, 1, none⟩ (.int .i64 ((s.n : Int) + 8))) h a len cap zs ⟨s.r.drop 8, s.n + 8, 0⟩ := hv.step ⟨s.r.drop 8, s.n + 8, 0⟩ hon
      obtain ⟨v0, v1⟩ := hv.c
      have vf := hv.f
      have x0 := tx.c0
      have x1 := tx.c1
      clear hv tq zv
      go_wp2_with (first
        | (go_at_call 30; refine (need_yes _ _).mono ?_; rintro e w1 ⟨rfl, hw1⟩; subst w1)
        | (refine wpList_store_whole rfl _ _ _ rfl W.heap.size _ rfl rfl 26 _ zx time_size rfl (by simp [Value.oneCell']) ?_; intro W9 hr9 hg9 hs9))
      have hR : Rb W9 h a len cap zs ⟨s.r.drop 8, s.n + 8, 0⟩ := rx.other hg9 hwh (seg_far rx.seg zx (fun n e => by cases e) (fun n e => by cases e) hg9)
      exact bodyPost_ret (results_cell_row (p := 6) (ty := 26) rfl _ _ W.heap.size 26 _ (0, 0) _ (by rfl) hr9 Try.underlying26 rfl (by kernel_rfl)) rfl ⟨(gV.andThen g1 (fun j e => .inr e)).andThen hg9 (fun j e => .inl (Nat.le_of_eq (Option.some.inj e))), (X, Y), _, haft, .inl ⟨rfl, rfl, hR⟩⟩
    · have hEb : (E == 0) = false := by simpa using hE
      rw [show s.nxt E 8 = ⟨s.r, s.n, E⟩ by unfold Rd.nxt; rw [if_neg hE]] at haft hon
      clear hv tq zv
      go_wp2_with (go_at_call 30; refine (need_no _ _).mono ?_; rintro e w1 ⟨rfl, hw1⟩; subst w1)
      exact ⟨rfl, gV, (X, Y), _, haft, .inr ⟨hE, rfl⟩⟩

set_option maxRecDepth 100000 in
set_option maxHeartbeats 1000000 in
theorem rdmoment_any : Reads 51 timC (fun t => .agg #[.int .u32 t.1, .int .u32 t.2]) := by
  intro W h a len cap zs s R he
  have hB1 : Below W.heap.size W (W.alloc (.cells #[.int .u32 0, .int .u32 0] 26)) := (Below.refl _ _).alloc (Nat.le_refl _) _
  have z1 := World.alloc_heap_new W (.cells #[.int .u32 0, .int .u32 0] 26)
  have R1 := R.next hB1
  have hwh : W.heap.size ≠ h := Nat.ne_of_gt R.lt
  have hlt := R1.lt
  go_enter Try.func51, Try.ntmps51
  go_wp2_with fail
  generalize (W.alloc (.cells #[.int .u32 0, .int .u32 0] 26)) = W1 at *
  refine (nextt_any W1 h a len cap zs s R1 he).mono ?_
  rintro e W2 ⟨hg, v, s', haft, ⟨h0, rfl, hR⟩ | ⟨h0, rfl⟩⟩
  · have z2 := (hg.block _ (Array.getElem?_eq_some_iff.1 z1).1 (fun e => hwh (Option.some.inj e))).trans z1
    have gV := (grown_below hB1 (some h)).trans hg
    clear z1 R1 hB1
    go_wp2_with (refine wpList_store_whole rfl _ _ _ rfl W.heap.size _ rfl rfl 26 _ z2 time_size rfl (by simp [Value.oneCell']) ?_; intro W9 hr9 hg9 hs9)
    have hR9 : Rb W9 h a len cap zs s' := hR.other hg9 hwh (seg_far hR.seg z2 (fun n e => by cases e) (fun n e => by cases e) hg9)
    exact bodyPost_ret (results_cell_row (p := 2) (ty := 26) rfl _ _ W.heap.size 26 _ (0, 0) _ (by rfl) hr9 Try.underlying26 rfl (by kernel_rfl)) rfl ⟨gV.andThen hg9 (fun j e => .inl (Nat.le_of_eq (Option.some.inj e))), v, s', haft, .inl ⟨h0, rfl, hR9⟩⟩
  · go_wp2
    exact ⟨rfl, (grown_below hB1 (some h)).trans hg, v, s', haft, .inr ⟨h0, rfl⟩⟩
end Go.Proofs.Ytecbhhfncklefac
