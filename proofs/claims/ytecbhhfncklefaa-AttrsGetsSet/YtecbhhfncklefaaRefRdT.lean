/- The document's reader: the next point of time; nothing but the reader turns. -/
import Derived.Test.YtecbhhfncklefaaRefRd
import Derived.Test.YtecbhhfncklefaaRefTGet
import Derived.Maps.Range
namespace Go.Proofs.Ytecbhhfncklefaa
set_option linter.unusedVariables false
open Go.RowKit

theorem tsize : (Try.prog.info? 29).map (·.size) = some 2 := by kernel_rfl

set_option maxRecDepth 100000 in
set_option maxHeartbeats 2000000 in
theorem rd_time (h : Nat) (a : Option Addr) (len cap : Nat) (zs : List Int) (s : Rd) (W : World) (hr : Rr W h a len cap s) (ho : s.On zs) (hlc : len ≤ cap) (hm : cap ≤ 9223372036854775807) (hz : zs.length = len) (hb : Byt zs) (hs : Seg W a zs) :
    Calls Try.prog 49 #[.pointer (some ⟨h, 0, none⟩)] W fun e W' => ∃ x y s', e = .returned (.agg #[.int .u32 x, .int .u32 y]) ∧ Rr W' h a len cap s' ∧ s'.On zs ∧ Aft timC s (x, y) s' ∧ W.grownBy W' (some h) := by
  have hB1 : Below W.heap.size W (W.alloc (.cells #[.int .u32 0, .int .u32 0] 29)) := (Below.refl _ _).alloc (Nat.le_refl _) _
  have z1 := World.alloc_heap_new W (.cells #[.int .u32 0, .int .u32 0] 29)
  have hr1 := hr.next hB1
  have hlt := hr.lt
  obtain ⟨c0, c1, c2, f1, f2⟩ := hr1.c
  by_cases he : s.e ≠ 0
  · have hne : (s.e != 0) = true := by simpa using he
    have ha := aft_stick (c := timC) he (0, 0)
    go_enter Try.func49, Try.ntmps49
    go_wp2
    exact bodyPost_ret (results_cell_row (p := 2) (ty := 29) rfl _ _ W.heap.size 29 _ (0, 0) _ (by rfl) z1 Try.underlying29 rfl (by kernel_rfl)) rfl ⟨_, _, s, rfl, hr1, ho, ha, grown_below hB1 _⟩
  · have he0 : s.e = 0 := by simpa using he
    have hne : (s.e != 0) = false := by simp [he0]
    obtain ⟨a', hcut, hsf⟩ := cut_from (hs.below hB1) hz hlc s.n (by have := ho.n; omega)
    have hget := fun W' hS => reftget_any a' (len - s.n) (cap - s.n) (zs.drop s.n) W' (by omega) (by omega) (by rw [List.length_drop, hz]) (byt_tail hb s.n) hS
    rw [← ho.r] at hget
    obtain ⟨haft, hk⟩ := aft_tim he0
    have hon := on_nxt ho hk
    have hn := ho.n
    have hrl : s.r.length = len - s.n := by rw [ho.r, List.length_drop, hz]
    generalize gtS s.r = X at *
    generalize gtN s.r = Y at *
    generalize hE' : gtE s.r = E at *
    go_enter Try.func49, Try.ntmps49
    go_wp2_with fail
    generalize (W.alloc (.cells #[.int .u32 0, .int .u32 0] 29)) = W1 at *
    have hdr : Below W1.heap.size W1 W1.drew := ⟨rfl, rfl, rfl, Nat.le_refl _, fun _ _ => rfl⟩
    have hdz : Below W1.heap.size W1 (W1.alloc (.cells #[.int .u32 0, .int .u32 0] 29)).drew := ((Below.refl _ _).alloc (Nat.le_refl _) _).trans ⟨rfl, rfl, rfl, by simp, fun _ _ => rfl⟩
    have hr2 := hr1.next hdr
    have hrz := hr1.next hdz
    have hs2 := hsf.below hdr
    have hsz := hsf.below hdz
    rw [← ho.r] at hs2 hsz
    have z2 := (hdr.block _ (Array.getElem?_eq_some_iff.1 z1).1).trans z1
    have zz := (hdz.block _ (Array.getElem?_eq_some_iff.1 z1).1).trans z1
    have tz : Tp (W1.alloc (.cells #[.int .u32 0, .int .u32 0] 29)).drew W1.heap.size 0 0 := Tp.new W1 0 0
    have hB2 := hB1.trans (hdr.mono hB1.size)
    have hBz := hB1.trans (hdz.mono hB1.size)
    have S2 := And.intro hr2.c.1 (And.intro hr2.c.2.1 hr2.c.2.2.1)
    have Sz := And.intro hrz.c.1 (And.intro hrz.c.2.1 hrz.c.2.2.1)
    have hlt1 := hr1.lt
    clear c0 c1 c2 f1 f2 he hdr hdz
    go_region_held3 (fun w' => w'.cell? ⟨h, 0, none⟩ = some (.slice a len cap) ∧ w'.cell? ⟨h, 1, none⟩ = some (.int .i64 (s.n : Int)) ∧ w'.cell? ⟨h, 2, none⟩ = some (.int .i64 s.e)) (first | with_reducible exact Sc | with_reducible exact Sa | with_reducible exact S3 | with_reducible exact S2 | with_reducible exact Sz) (first
      | (go_at_call 63; refine (hget _ hs2).mono ?_; rintro e W3 ⟨rfl, hb3⟩; have hr3 := hr2.next hb3; have hB3 := hB2.trans (hb3.mono hB2.size); have z3 := (hb3.block _ (Array.getElem?_eq_some_iff.1 z2).1).trans z2; have S3 := And.intro hr3.c.1 (And.intro hr3.c.2.1 hr3.c.2.2.1); have ra := hr3.next ((Below.refl W3.heap.size W3).alloc (Nat.le_refl _) (.cells #[.int .u32 0, .int .u32 0] 29)); have Sa := And.intro ra.c.1 (And.intro ra.c.2.1 ra.c.2.2.1); have rc := hr3.next ((Below.refl W3.heap.size W3).alloc (Nat.le_refl _) (.cells #[.int .u32 X, .int .u32 Y] 29)); have Sc := And.intro rc.c.1 (And.intro rc.c.2.1 rc.c.2.2.1))
      | (go_at_call 63; refine (hget _ hsz).mono ?_; rintro e W3 ⟨rfl, hb3⟩; have hr3 := hrz.next hb3; have hB3 := hBz.trans (hb3.mono hBz.size); have z3 := (hb3.block _ (Array.getElem?_eq_some_iff.1 zz).1).trans zz; have t3 := tz.next hb3; have S3 := And.intro hr3.c.1 (And.intro hr3.c.2.1 hr3.c.2.2.1); have i0 : W3.frozen? ⟨W1.heap.size, 0, none⟩ = false := (by simp [World.frozen?, show W3.heap[W1.heap.size]? = _ from t3]); have i1 : W3.frozen? ⟨W1.heap.size, 1, none⟩ = false := (by simp [World.frozen?, show W3.heap[W1.heap.size]? = _ from t3]); have j0 := t3.c0; have j1 := t3.c1; have ra : Rr ((W3.setCell ⟨W1.heap.size, 0, none⟩ (.int .u32 X)).setCell ⟨W1.heap.size, 1, none⟩ (.int .u32 Y)) h a len cap s := (((grown_cell _ _ _ _).block h (by simp [World.setCell]; exact hr3.lt) (fun e => Nat.ne_of_lt hlt1 (Option.some.inj e))).trans ((grown_cell _ _ _ _).block h hr3.lt (fun e => Nat.ne_of_lt hlt1 (Option.some.inj e)))).trans hr3; have Sa := And.intro ra.c.1 (And.intro ra.c.2.1 ra.c.2.2.1)))
    all_goals clear hget hs2 hsz hr2 hrz z2 zz S2 Sz Sa hB2 hBz S3
    · have hv : Rr (W3.alloc (.cells #[.int .u32 X, .int .u32 Y] 29)) h a len cap s := rc
      have tq := Tp.new W3 X Y
      have hb4 : Below W3.heap.size W3 (W3.alloc (.cells #[.int .u32 X, .int .u32 Y] 29)) := (Below.refl _ _).alloc (Nat.le_refl _) _
      have zv := (hb4.block _ (Array.getElem?_eq_some_iff.1 z3).1).trans z3
      have hBV := hB3.trans (hb4.mono hB3.size)
      have hqlt : h < W3.heap.size := hr3.lt
      clear Sc rc ra hr3 hb4 z3 hB3
      generalize W3.alloc (.cells #[.int .u32 X, .int .u32 Y] 29) = V at *
      generalize W3.heap.size = q at *
      have gV := grown_below hBV (some h)
      have hqh : q ≠ h := Nat.ne_of_gt hqlt
      have hwh : W.heap.size ≠ h := Nat.ne_of_gt hlt
      by_cases hE : E = 0
      · have hk' := hk hE
        subst hE
        rw [show s.nxt 0 8 = ⟨s.r.drop 8, s.n + 8, 0⟩ from rfl] at haft hon
        have g1 := (grown_cell V h 2 (.int .i64 0)).trans (grown_cell (V.setCell ⟨h, 2, none⟩ (.int .i64 0)) h 1 (.int .i64 ((s.n : Int) + 8)))
        have tx : Tp ((V.setCell ⟨h, 2, none⟩ (.int .i64 0)).setCell ⟨h, 1, none⟩ (.int .i64 ((s.n : Int) + 8))) q X Y := (g1.block q tq.lt (fun e => hqh (Option.some.inj e))).trans tq
        have zx := (g1.block W.heap.size (Array.getElem?_eq_some_iff.1 zv).1 (fun e => hwh (Option.some.inj e))).trans zv
        have rx := rr_set2 hv (.int .i64 0) (.int .i64 ((s.n : Int) + 8))
        obtain ⟨v0, v1, v2, v3, v4⟩ := hv.c
        have x0 := tx.c0
        have x1 := tx.c1
        go_wp2_with (refine wpList_store_whole rfl _ _ _ rfl W.heap.size _ rfl rfl 29 _ zx tsize rfl (by simp [Value.oneCell']) ?_; intro W9 hr9 hg9 hs9)
        refine bodyPost_ret (results_cell_row (p := 2) (ty := 29) rfl _ _ W.heap.size 29 _ (0, 0) _ (by rfl) hr9 Try.underlying29 rfl (by kernel_rfl)) rfl ?_
        first | refine ⟨X, Y, ⟨s.r.drop 8, s.n + 8, 0⟩, rfl, ?_, hon, haft, ?_⟩ | refine ⟨X, Y, rfl, ⟨s.r.drop 8, s.n + 8, 0⟩, ?_, hon, haft, ?_⟩
        · exact (hg9.block h (Nat.lt_of_lt_of_le hv.lt g1.size) (fun e => hwh (Option.some.inj e).symm)).trans rx
        · exact (gV.andThen g1 (fun j e => .inr e)).andThen hg9 (fun j e => .inl (Nat.le_of_eq (Option.some.inj e)))
      · have hEb : (E == 0) = false := by simpa using hE
        rw [show s.nxt E 8 = ⟨s.r, s.n, E⟩ by unfold Rd.nxt; rw [if_neg hE]] at haft hon
        have g1 := grown_cell V h 2 (.int .i64 E)
        have tx : Tp (V.setCell ⟨h, 2, none⟩ (.int .i64 E)) q X Y := (g1.block q tq.lt (fun e => hqh (Option.some.inj e))).trans tq
        have zx := (g1.block W.heap.size (Array.getElem?_eq_some_iff.1 zv).1 (fun e => hwh (Option.some.inj e))).trans zv
        have rx := rr_set hv (.int .i64 E)
        obtain ⟨v0, v1, v2, v3, v4⟩ := hv.c
        have x0 := tx.c0
        have x1 := tx.c1
        go_wp2_with (refine wpList_store_whole rfl _ _ _ rfl W.heap.size _ rfl rfl 29 _ zx tsize rfl (by simp [Value.oneCell']) ?_; intro W9 hr9 hg9 hs9)
        refine bodyPost_ret (results_cell_row (p := 2) (ty := 29) rfl _ _ W.heap.size 29 _ (0, 0) _ (by rfl) hr9 Try.underlying29 rfl (by kernel_rfl)) rfl ?_
        first | refine ⟨X, Y, ⟨s.r, s.n, E⟩, rfl, ?_, hon, haft, ?_⟩ | refine ⟨X, Y, rfl, ⟨s.r, s.n, E⟩, ?_, hon, haft, ?_⟩
        · exact (hg9.block h (Nat.lt_of_lt_of_le hv.lt g1.size) (fun e => hwh (Option.some.inj e).symm)).trans rx
        · exact (gV.andThen g1 (fun j e => .inr e)).andThen hg9 (fun j e => .inl (Nat.le_of_eq (Option.some.inj e)))
    · have hv := ra
      have tq : Tp ((W3.setCell ⟨W1.heap.size, 0, none⟩ (.int .u32 X)).setCell ⟨W1.heap.size, 1, none⟩ (.int .u32 Y)) W1.heap.size X Y := two_set t3 _ _
      have hge : W.heap.size < W1.heap.size := (Array.getElem?_eq_some_iff.1 z1).1
      have g0 := (grown_cell W3 W1.heap.size 0 (.int .u32 X)).trans (grown_cell (W3.setCell ⟨W1.heap.size, 0, none⟩ (.int .u32 X)) W1.heap.size 1 (.int .u32 Y))
      have zv := (g0.block _ (Array.getElem?_eq_some_iff.1 z3).1 (fun e => Nat.ne_of_lt hge (Option.some.inj e))).trans z3
      have hBV := hB3.grown g0 hB3.size (fun k e => by have h5 := Option.some.inj e; omega)
      have hqlt : h < W1.heap.size := hlt1
      clear i0 i1 j0 j1 ra hr3 z3 hB3 t3 g0 tz
      generalize (W3.setCell ⟨W1.heap.size, 0, none⟩ (.int .u32 X)).setCell ⟨W1.heap.size, 1, none⟩ (.int .u32 Y) = V at *
      generalize W1.heap.size = q at *
      have gV := grown_below hBV (some h)
      have hqh : q ≠ h := Nat.ne_of_gt hqlt
      have hwh : W.heap.size ≠ h := Nat.ne_of_gt hlt
      by_cases hE : E = 0
      · have hk' := hk hE
        subst hE
        rw [show s.nxt 0 8 = ⟨s.r.drop 8, s.n + 8, 0⟩ from rfl] at haft hon
        have g1 := (grown_cell V h 2 (.int .i64 0)).trans (grown_cell (V.setCell ⟨h, 2, none⟩ (.int .i64 0)) h 1 (.int .i64 ((s.n : Int) + 8)))
        have tx : Tp ((V.setCell ⟨h, 2, none⟩ (.int .i64 0)).setCell ⟨h, 1, none⟩ (.int .i64 ((s.n : Int) + 8))) q X Y := (g1.block q tq.lt (fun e => hqh (Option.some.inj e))).trans tq
        have zx := (g1.block W.heap.size (Array.getElem?_eq_some_iff.1 zv).1 (fun e => hwh (Option.some.inj e))).trans zv
        have rx := rr_set2 hv (.int .i64 0) (.int .i64 ((s.n : Int) + 8))
        obtain ⟨v0, v1, v2, v3, v4⟩ := hv.c
        have x0 := tx.c0
        have x1 := tx.c1
        go_wp2_with (refine wpList_store_whole rfl _ _ _ rfl W.heap.size _ rfl rfl 29 _ zx tsize rfl (by simp [Value.oneCell']) ?_; intro W9 hr9 hg9 hs9)
        refine bodyPost_ret (results_cell_row (p := 2) (ty := 29) rfl _ _ W.heap.size 29 _ (0, 0) _ (by rfl) hr9 Try.underlying29 rfl (by kernel_rfl)) rfl ?_
        first | refine ⟨X, Y, ⟨s.r.drop 8, s.n + 8, 0⟩, rfl, ?_, hon, haft, ?_⟩ | refine ⟨X, Y, rfl, ⟨s.r.drop 8, s.n + 8, 0⟩, ?_, hon, haft, ?_⟩
        · exact (hg9.block h (Nat.lt_of_lt_of_le hv.lt g1.size) (fun e => hwh (Option.some.inj e).symm)).trans rx
        · exact (gV.andThen g1 (fun j e => .inr e)).andThen hg9 (fun j e => .inl (Nat.le_of_eq (Option.some.inj e)))
      · have hEb : (E == 0) = false := by simpa using hE
        rw [show s.nxt E 8 = ⟨s.r, s.n, E⟩ by unfold Rd.nxt; rw [if_neg hE]] at haft hon
        have g1 := grown_cell V h 2 (.int .i64 E)
        have tx : Tp (V.setCell ⟨h, 2, none⟩ (.int .i64 E)) q X Y := (g1.block q tq.lt (fun e => hqh (Option.some.inj e))).trans tq
        have zx := (g1.block W.heap.size (Array.getElem?_eq_some_iff.1 zv).1 (fun e => hwh (Option.some.inj e))).trans zv
        have rx := rr_set hv (.int .i64 E)
        obtain ⟨v0, v1, v2, v3, v4⟩ := hv.c
        have x0 := tx.c0
        have x1 := tx.c1
        go_wp2_with (refine wpList_store_whole rfl _ _ _ rfl W.heap.size _ rfl rfl 29 _ zx tsize rfl (by simp [Value.oneCell']) ?_; intro W9 hr9 hg9 hs9)
        refine bodyPost_ret (results_cell_row (p := 2) (ty := 29) rfl _ _ W.heap.size 29 _ (0, 0) _ (by rfl) hr9 Try.underlying29 rfl (by kernel_rfl)) rfl ?_
        first | refine ⟨X, Y, ⟨s.r, s.n, E⟩, rfl, ?_, hon, haft, ?_⟩ | refine ⟨X, Y, rfl, ⟨s.r, s.n, E⟩, ?_, hon, haft, ?_⟩
        · exact (hg9.block h (Nat.lt_of_lt_of_le hv.lt g1.size) (fun e => hwh (Option.some.inj e).symm)).trans rx
        · exact (gV.andThen g1 (fun j e => .inr e)).andThen hg9 (fun j e => .inl (Nat.le_of_eq (Option.some.inj e)))
end Go.Proofs.Ytecbhhfncklefaa
