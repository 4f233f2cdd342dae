/- The answer of a function: a slot and a variable; nothing is claimed of the program here. -/
import Derived.Test.YtecbhhfncklefabStoreWhole
import Derived.Test.YtecbhhfncklefabTimeGetPRdPNextMx
import Derived.Test.YtecbhhfncklefabPNextTMx
namespace Go.Proofs.Ytecbhhfncklefab
set_option linter.unusedVariables false
open Go.RowKit

theorem results_tmp_row {P : Program} {fn : Func} {p u : Tmp} {ty : TypeId} (h : fn.results = #[.tmp u, .cell p ty]) (tmps : Array Value) (w : World) (g : Nat) (t : TypeId) (cs : Array Value) (fr : Nat × Nat) (d : TypeDesc)
    (hp : tmps.getD p undef = .pointer (some ⟨g, 0, none⟩)) (hg : w.heap[g]? = some (.cells cs t fr)) (hu : P.underlying ty = some d) (hd : (match d with | .struct _ | .array _ _ => true | _ => false) = true) (hi : (P.info? ty).map (·.size) = some cs.size) :
    (results fn tmps).run P w = .ok (.tuple #[tmps.getD u undef, .agg cs]) w := by
  have h1 : (results fn tmps).run P w = ((asAddr (tmps.getD p undef)).run P w).andThen fun a w₁ => ((loadVar ty a).run P w₁).andThen fun x w₂ => .ok (.tuple #[tmps.getD u undef, x]) w₂ := by
    simp only [results, h]
    simp [Sem.run_bind, Result.andThen]
  rw [h1, hp]
  simp only [asAddr, Sem.run_pure, Result.andThen_ok, run_loadVar_row w g t ty cs fr d hg hu hd hi]
end Go.Proofs.Ytecbhhfncklefab

/- 'mode', 'setting' and 'before' of the reader; nothing but the reader turns. -/
namespace Go.Proofs.Ytecbhhfncklefab
set_option linter.unusedVariables false
open Go.RowKit

theorem must_err {s : Rd} (b : Bool) (h : s.e ≠ 0) : must b s = s := by simp [must, h]
theorem must_yes (s : Rd) : must true s = s := by simp [must]
theorem must_no {s : Rd} (h : s.e = 0) : must false s = ⟨s.r, s.n, 5⟩ := by simp [must, h]

set_option maxRecDepth 100000 in
set_option maxHeartbeats 1000000 in
theorem rdmode_any : Reads 46 modeC (fun v => .int .u32 v) := by
  intro W h a len cap zs s R he
  have hn := rdnumber_any W h a len cap zs s R he
  go_enter Try.func46, Try.ntmps46
  go_wp2_with fail
  refine hn.mono ?_
  rintro e W' ⟨hg, v, s', haft, ⟨h0, rfl, hR⟩ | ⟨h0, rfl⟩⟩
  · have hm := aft_must (p := fun x => decide (x ≤ 4095)) haft
    clear hn R
    cases hle : decide (v ≤ 4095) with
    | true =>
      rw [hle, must_yes] at hm
      go_wp2_with (go_at_call 43; refine (need_yes _ _).mono ?_; rintro e w1 ⟨rfl, hw1⟩; subst w1)
      go_ret
      exact ⟨hg, v, s', hm, .inl ⟨h0, rfl, hR⟩⟩
    | false =>
      rw [hle, must_no h0] at hm
      go_wp2_with (go_at_call 43; refine (need_no _ _).mono ?_; rintro e w1 ⟨rfl, hw1⟩; subst w1)
      exact ⟨rfl, hg, v, _, hm, .inr ⟨by simp, rfl⟩⟩
  · have hm := aft_must (p := fun x => decide (x ≤ 4095)) haft
    rw [must_err _ h0] at hm
    clear hn R
    go_wp2
    exact ⟨rfl, hg, v, s', hm, .inr ⟨h0, rfl⟩⟩

def setV (x : Int × Int × Int) : Value := .tuple #[.int .u32 x.1, .agg #[.int .u32 x.2.1, .int .u32 x.2.2]]

set_option maxRecDepth 100000 in
set_option maxHeartbeats 2000000 in
theorem rdsetting_any : Reads 62 howC setV := by
  intro W h a len cap zs s R he
  have hB1 : Below W.heap.size W (W.alloc (.cells #[.int .u32 0, .int .u32 0] 26)) := (Below.refl _ _).alloc (Nat.le_refl _) _
  have z1 := World.alloc_heap_new W (.cells #[.int .u32 0, .int .u32 0] 26)
  have R1 := R.next hB1
  have hwh : W.heap.size ≠ h := Nat.ne_of_gt R.lt
  have g1 := grown_below hB1 (some h)
  go_enter Try.func62, Try.ntmps62
  go_wp2_with fail
  generalize (W.alloc (.cells #[.int .u32 0, .int .u32 0] 26)) = W1 at *
  refine (rdnumber_any W1 h a len cap zs s R1 he).mono ?_
  rintro e W2 ⟨hg, v, s', haft, ⟨h0, rfl, hR⟩ | ⟨h0, rfl⟩⟩
  · have hm := aft_must (p := fun x => decide (x ≤ 2)) haft
    have z2 := (hg.block _ (Array.getElem?_eq_some_iff.1 z1).1 (fun e => hwh (Option.some.inj e))).trans z1
    have g2 := g1.trans hg
    clear R R1 z1 hB1 g1 hg
    cases hle : decide (v ≤ 2) with
    | false =>
      rw [hle, must_no h0] at hm
      have hd : Aft howC s (v, (0, 0)) ⟨s'.r, s'.n, 5⟩ := by
        cases h2 : (v == 2) with
        | true => exact aft_dep hm (.inl ⟨h2, aft_stick (by simp) _⟩)
        | false => exact aft_dep hm (.inr ⟨h2, rfl, rfl⟩)
      go_wp2_with (go_at_call 43; refine (need_no _ _).mono ?_; rintro e w1 ⟨rfl, hw1⟩; subst w1)
      exact ⟨rfl, g2, _, _, hd, .inr ⟨by simp, rfl⟩⟩
    | true =>
      rw [hle, must_yes] at hm
      cases h2 : (v == 2) with
      | false =>
        have hd : Aft howC s (v, (0, 0)) s' := aft_dep hm (.inr ⟨h2, rfl, rfl⟩)
        go_wp2_with (first
          | (go_at_call 43; refine (need_yes _ _).mono ?_; rintro e w1 ⟨rfl, hw1⟩; subst w1)
          | (refine wpList_store_whole rfl _ _ _ rfl W.heap.size _ rfl rfl 26 _ z2 time_size rfl (by simp [Value.oneCell']) ?_; intro W9 hr9 hg9 hs9))
        have hR9 := hR.other hg9 hwh (seg_far hR.seg z2 (fun n e => by cases e) (fun n e => by cases e) hg9)
        exact bodyPost_ret (results_tmp_row (u := 2) (p := 3) (ty := 26) rfl _ _ W.heap.size 26 _ (0, 0) _ (by rfl) hr9 Try.underlying26 rfl (by kernel_rfl)) rfl ⟨g2.andThen hg9 (fun j e => .inl (Nat.le_of_eq (Option.some.inj e))), _, s', hd, .inl ⟨h0, rfl, hR9⟩⟩
      | true =>
        go_wp2_with (go_at_call 43; refine (need_yes _ _).mono ?_; rintro e w1 ⟨rfl, hw1⟩; subst w1)
        refine (rdmoment_any W2 h a len cap zs s' hR h0).mono ?_
        rintro e W3 ⟨hg3, t, s3, haft3, ⟨h3, rfl, hR3⟩ | ⟨h3, rfl⟩⟩
        · have hd : Aft howC s (v, t) s3 := aft_dep hm (.inl ⟨h2, haft3⟩)
          have z3 := (hg3.block _ (Array.getElem?_eq_some_iff.1 z2).1 (fun e => hwh (Option.some.inj e))).trans z2
          have g3 := g2.trans hg3
          clear z2 g2 hg3 hR
          go_wp2_with (refine wpList_store_whole rfl _ _ _ rfl W.heap.size _ rfl rfl 26 _ z3 time_size rfl (by simp [Value.oneCell']) ?_; intro W9 hr9 hg9 hs9)
          have hR9 := hR3.other hg9 hwh (seg_far hR3.seg z3 (fun n e => by cases e) (fun n e => by cases e) hg9)
          exact bodyPost_ret (results_tmp_row (u := 2) (p := 3) (ty := 26) rfl _ _ W.heap.size 26 _ (0, 0) _ (by rfl) hr9 Try.underlying26 rfl (by kernel_rfl)) rfl ⟨g3.andThen hg9 (fun j e => .inl (Nat.le_of_eq (Option.some.inj e))), (v, t), s3, hd, .inl ⟨h3, rfl, hR9⟩⟩
        · have hd : Aft howC s (v, t) s3 := aft_dep hm (.inl ⟨h2, haft3⟩)
          have g3 := g2.trans hg3
          clear z2 g2 hg3 hR
          go_wp2
          exact ⟨rfl, g3, _, _, hd, .inr ⟨h3, rfl⟩⟩
  · have hm := aft_must (p := fun x => decide (x ≤ 2)) haft
    rw [must_err _ h0] at hm
    have hd : Aft howC s (v, (0, 0)) s' := by
      cases h2 : (v == 2) with
      | true => exact aft_dep hm (.inl ⟨h2, aft_stick h0 _⟩)
      | false => exact aft_dep hm (.inr ⟨h2, rfl, rfl⟩)
    have g2 := g1.trans hg
    clear R R1 z1 hB1 g1 hg
    go_wp2
    exact ⟨rfl, g2, _, _, hd, .inr ⟨h0, rfl⟩⟩

theorem past_size : (Try.prog.info? 75).map (·.size) = some 5 := by kernel_rfl
def pasV (x : Int × (Int × Int) × (Int × Int)) : Value := .agg #[.int .u64 x.1, .int .u32 x.2.1.1, .int .u32 x.2.1.2, .int .u32 x.2.2.1, .int .u32 x.2.2.2]
/-- A block of numbers is none of bytes. -/
theorem seg_past {W W' : World} {q : Nat} {a : Option Addr} {zs : List Int} {cs : Array Value} {t : TypeId} (hs : Seg W a zs) (hb : W.heap[q]? = some (.cells cs t)) (hc : ∀ (i : Nat) (v : Value), cs[i]? = some v → ∀ n : Int, v ≠ Value.int .u8 n) (hg : W.grownBy W' (some q)) : Seg W' a zs := by
  rcases hs with hs | ⟨b, off, e, hcell⟩
  · exact .inl hs
  · refine .inr ⟨b, off, e, fun i hi => ?_⟩
    have h1 := hcell i hi
    have hne : b ≠ q := by
      rintro rfl
      simp only [World.cell?, hb] at h1
      exact hc (off + i) _ (by simpa using h1) _ rfl
    have hl := World.block_lt_of_cell? _ _ h1
    have hk := hg.block b hl (fun e => hne (Option.some.inj e))
    simp only [World.cell?] at h1 ⊢
    rw [hk]
    exact h1

set_option maxRecDepth 100000 in
set_option maxHeartbeats 2000000 in
theorem rdbefore_any : Reads 67 befC pasV := by
  intro W h a len cap zs s R he
  have hB1 : Below W.heap.size W (W.alloc (.cells #[.int .u64 0, .int .u32 0, .int .u32 0, .int .u32 0, .int .u32 0] 75)) := (Below.refl _ _).alloc (Nat.le_refl _) _
  have z1 := World.alloc_heap_new W (.cells #[.int .u64 0, .int .u32 0, .int .u32 0, .int .u32 0, .int .u32 0] 75)
  have R1 := R.next hB1
  have hwh : W.heap.size ≠ h := Nat.ne_of_gt R.lt
  have g1 := grown_below hB1 (some h)
  go_enter Try.func67, Try.ntmps67
  go_wp2_with fail
  generalize (W.alloc (.cells #[.int .u64 0, .int .u32 0, .int .u32 0, .int .u32 0, .int .u32 0] 75)) = W1 at *
  refine (rdlong_any W1 h a len cap zs s R1 he).mono ?_
  rintro e W2 ⟨hg2, v, s2, haft2, ⟨h2, rfl, hR2⟩ | ⟨h2, rfl⟩⟩
  · have z2 := (hg2.block _ (Array.getElem?_eq_some_iff.1 z1).1 (fun e => hwh (Option.some.inj e))).trans z1
    have g2 := g1.trans hg2
    clear R R1 z1 hB1 g1 hg2
    go_wp2_with fail
    refine (rdmoment_any W2 h a len cap zs s2 hR2 h2).mono ?_
    rintro e W3 ⟨hg3, t, s3, haft3, ⟨h3, rfl, hR3⟩ | ⟨h3, rfl⟩⟩
    · have z3 := (hg3.block _ (Array.getElem?_eq_some_iff.1 z2).1 (fun e => hwh (Option.some.inj e))).trans z2
      have g3 := g2.trans hg3
      clear z2 g2 hg3 hR2
      go_wp2_with fail
      refine (rdmoment_any W3 h a len cap zs s3 hR3 h3).mono ?_
      rintro e W4 ⟨hg4, u, s4, haft4, ⟨h4, rfl, hR4⟩ | ⟨h4, rfl⟩⟩
      · have z4 := (hg4.block _ (Array.getElem?_eq_some_iff.1 z3).1 (fun e => hwh (Option.some.inj e))).trans z3
        have g4 := g3.trans hg4
        have hd : Aft befC s (v, t, u) s4 := aft_seq haft2 (aft_seq haft3 haft4)
        clear z3 g3 hg4 hR3
        go_wp2_with (refine wpList_store_whole rfl _ _ _ rfl W.heap.size _ rfl rfl 75 _ z4 past_size rfl (by simp [Value.oneCell']) ?_; intro W9 hr9 hg9 hs9)
        have hR9 := hR4.other hg9 hwh (seg_past hR4.seg z4 (fun i v hv n e => by subst e; rcases i with _ | _ | _ | _ | _ | i <;> simp at hv) hg9)
        exact bodyPost_ret (results_cell_row (p := 2) (ty := 75) rfl _ _ W.heap.size 75 _ (0, 0) _ (by rfl) hr9 Try.underlying75 rfl (by kernel_rfl)) rfl ⟨g4.andThen hg9 (fun j e => .inl (Nat.le_of_eq (Option.some.inj e))), (v, t, u), s4, hd, .inl ⟨h4, rfl, hR9⟩⟩
      · have hd : Aft befC s (v, t, u) s4 := aft_seq haft2 (aft_seq haft3 haft4)
        have g4 := g3.trans hg4
        go_wp2
        exact ⟨rfl, g4, _, _, hd, .inr ⟨h4, rfl⟩⟩
    · have hd : Aft befC s (v, t, (0, 0)) s3 := aft_seq haft2 (aft_seq haft3 (aft_stick h3 _))
      have g3 := g2.trans hg3
      go_wp2
      exact ⟨rfl, g3, _, _, hd, .inr ⟨h3, rfl⟩⟩
  · have hd : Aft befC s (v, (0, 0), (0, 0)) s2 := aft_seq haft2 (aft_stick (c := timC.seq timC) h2 _)
    have g2 := g1.trans hg2
    go_wp2
    exact ⟨rfl, g2, _, _, hd, .inr ⟨h2, rfl⟩⟩
end Go.Proofs.Ytecbhhfncklefab
