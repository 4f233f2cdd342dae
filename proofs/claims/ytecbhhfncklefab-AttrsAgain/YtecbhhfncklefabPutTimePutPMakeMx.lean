/- 'PutLong', 'PutYes': the bytes of a number, the highest first, in memory of their own that has no spare room; nothing that was there turns. -/
import Derived.Test.YtecbhhfncklefabToldPut4Mx
import Derived.Test.YtecbhhfncklefabTimeEq
import Derived.Test.YtecbhhfncklefabConcat
import Derived.Test.YtecbhhfncklefabAppendEachPPartPRowMx
namespace Go.Proofs.Ytecbhhfncklefab
set_option linter.unusedVariables false
open Go.RowKit Go.Shelf
attribute [local go_sem] Oper.semAt_some

theorem put8_any (x : Int) (hx0 : 0 ≤ x) (hx1 : x ≤ 18446744073709551615) (w : World) :
    Calls Try.prog 80 #[.int .u64 x, .int .i64 8] w fun e W' => e = .returned (.slice (some ⟨w.heap.size, 0, none⟩) 8 8) ∧
      W'.ownsRow w.heap.size 5 1 (.slice (some ⟨w.heap.size, 0, none⟩) 8 8) 8 ((bytesOf x 8).map (Value.int .u8)) ∧ Below w.heap.size w W' := put_any x 8 hx0 hx1 (by omega) (by omega) w

set_option maxHeartbeats 400000 in
theorem PutLong_any (x : Int) (hx0 : 0 ≤ x) (hx1 : x ≤ 18446744073709551615) (w : World) :
    Calls Try.prog 57 #[.int .u64 x] w fun e W' => e = .returned (.slice (some ⟨w.heap.size, 0, none⟩) 8 8) ∧
      W'.ownsRow w.heap.size 5 1 (.slice (some ⟨w.heap.size, 0, none⟩) 8 8) 8 ((bytesOf x 8).map (Value.int .u8)) ∧ Below w.heap.size w W' := by
  go_enter Try.func57, Try.ntmps57
  go_wp2_with (go_at_call 80; refine (put8_any x hx0 hx1 _).mono ?_; rintro e w' ⟨rfl, hown, hb⟩)
  go_ret
  exact ⟨rfl, hown, hb⟩

set_option maxHeartbeats 400000 in
theorem PutYes_any (y : Bool) (w : World) :
    Calls Try.prog 51 #[.bool y] w fun e W' => e = .returned (.slice (some ⟨w.heap.size, 0, none⟩) 4 4) ∧
      W'.ownsRow w.heap.size 5 1 (.slice (some ⟨w.heap.size, 0, none⟩) 4 4) 4 ((bytesOf (if y then 1 else 0) 4).map (Value.int .u8)) ∧ Below w.heap.size w W' := by
  cases y
  · go_enter Try.func51, Try.ntmps51
    go_wp2_with (go_at_call 53; refine (Put_any 0 (by omega) (by omega) _).mono ?_; rintro e w' ⟨rfl, hown, hb⟩)
    go_ret
    exact ⟨rfl, hown, hb⟩
  · go_enter Try.func51, Try.ntmps51
    go_wp2_with (go_at_call 53; refine (Put_any 1 (by omega) (by omega) _).mono ?_; rintro e w' ⟨rfl, hown, hb⟩)
    go_ret
    exact ⟨rfl, hown, hb⟩
end Go.Proofs.Ytecbhhfncklefab

/- 'Put' of the program: a point of time's bytes, in memory of their own; nothing that was there turns. -/
namespace Go.Proofs.Ytecbhhfncklefab
set_option linter.unusedVariables false
open Go.RowKit

theorem parts_two {W : World} {p q : Part} (hp : p.In W) (hq : q.In W) : ∀ x ∈ [p, q], x.In W := by
  intro x hx
  simp only [List.mem_cons, List.not_mem_nil, or_false] at hx
  rcases hx with rfl | rfl
  · exact hp
  · exact hq
theorem cells_two (W : World) (t : TypeId) (p q : Part) : ∀ i, (h : i < [p, q].length) → (W.alloc (.cells #[p.v, q.v] t)).cell? ⟨W.heap.size, i, none⟩ = some [p, q][i].v := by
  intro i hi
  match i, hi with
  | 0, _ => simp
  | 1, _ => simp

set_option maxRecDepth 100000 in
set_option maxHeartbeats 1000000 in
theorem tput_any (s n : Int) (w : World) (s0 : 0 ≤ s) (s1 : s ≤ 4294967295) (n0 : 0 ≤ n) (n1 : n ≤ 4294967295) :
    Calls Try.prog 72 #[.agg #[.int .u32 s, .int .u32 n]] w fun e w' => ∃ G c, e = .returned (.slice (some ⟨G, 0, none⟩) 8 c) ∧ 8 ≤ c ∧ c ≤ 9223372036854775807 ∧
      w'.ownsRow w.heap.size 5 1 (.slice (some ⟨G, 0, none⟩) 8 c) 8 ((tB s n).map (Value.int .u8)) ∧ Below w.heap.size w w' := by
  have a1 := (Tp.new w s n).next (below_draw _)
  have hB1 : Below w.heap.size w (w.alloc (.cells #[.int .u32 s, .int .u32 n] 26)).drew := ((Below.refl _ _).alloc (Nat.le_refl _) _).trans ((below_draw _).mono (by simp))
  go_enter Try.func72, Try.ntmps72
  go_wp2_with fail
  have S1 := And.intro a1.c0 a1.c1
  generalize (w.alloc (.cells #[.int .u32 s, .int .u32 n] 26)) = W0 at *
  go_region_held3 (fun w' => w'.cell? ⟨w.heap.size, 0, none⟩ = some (.int .u32 s) ∧ w'.cell? ⟨w.heap.size, 1, none⟩ = some (.int .u32 n)) (first | with_reducible exact S5 | with_reducible exact S4 | with_reducible exact S3 | with_reducible exact S2 | with_reducible exact S1) (first
    | (go_at_call 50; refine (concat_any [Part.mk (some ⟨W0.heap.size, 0, none⟩) 4 4 (bytesOf s 4), Part.mk (some ⟨W2.heap.size, 0, none⟩) 4 4 (bytesOf n 4)] W3.heap.size 2 _ rfl (by omega) hk4 hi4 (by simp [allOf, bytesOf_length])).mono ?_; rintro e W5 ⟨v, rfl, hown5, hb5⟩; have a5 := a4.next hb5; have S5 := And.intro a5.c0 a5.c1)
    | (go_at_call 53; refine (Put_any n n0 n1 _).mono ?_; rintro e W3 ⟨rfl, hown3, hb3⟩; have a3 := a2.next hb3; have hB3 := hB2.trans (hb3.mono hB2.size); have S3 := And.intro a3.c0 a3.c1; have hx3 := own_below hown2 hb3; have a4 := a3.alloc (.cells #[.slice (some ⟨W0.heap.size, 0, none⟩) 4 4, .slice (some ⟨W2.heap.size, 0, none⟩) 4 4] 29); have S4 := And.intro a4.c0 a4.c1; have hb4 : Below W3.heap.size W3 (W3.alloc (.cells #[.slice (some ⟨W0.heap.size, 0, none⟩) 4 4, .slice (some ⟨W2.heap.size, 0, none⟩) 4 4] 29)) := (Below.refl _ _).alloc (Nat.le_refl _) _; have hi4 := parts_two ((own_mem hx3 (bytesOf_length s 4)).below hb4) ((own_mem hown3 (bytesOf_length n 4)).below hb4); have hk4 := cells_two W3 29 (Part.mk (some ⟨W0.heap.size, 0, none⟩) 4 4 (bytesOf s 4)) (Part.mk (some ⟨W2.heap.size, 0, none⟩) 4 4 (bytesOf n 4)))
    | (go_at_call 53; refine (Put_any s s0 s1 _).mono ?_; rintro e W2 ⟨rfl, hown2, hb2⟩; have a2 := a1.next hb2; have hB2 := hB1.trans (hb2.mono hB1.size); have S2 := And.intro a2.c0 a2.c1))
  all_goals
    have hB4 := hB3.alloc hB3.size (.cells #[.slice (some ⟨W0.heap.size, 0, none⟩) 4 4, .slice (some ⟨W2.heap.size, 0, none⟩) 4 4] 29)
    have hB5 := hB4.trans (hb5.mono hB4.size)
    have hown6 := own_base hown5 hB4.size
    rw [show allOf [Part.mk (some ⟨W0.heap.size, 0, none⟩) 4 4 (bytesOf s 4), Part.mk (some ⟨W2.heap.size, 0, none⟩) 4 4 (bytesOf n 4)] = tB s n by simp [allOf, tB], tB_length] at hown6
    obtain ⟨G, c, rfl, hc1, hc2, -⟩ := own_shape hown6 (by omega)
    clear S1 S2 S3 S4 S5 a1 a2 a3 a4 a5 hB1 hB2 hB3 hB4 hb2 hb3 hb4 hb5 hown5 hown2 hown3 hx3 hi4 hk4
    go_wp2
    go_ret
    exact ⟨G, c, rfl, hc1, hc2, hown6, hB5⟩
end Go.Proofs.Ytecbhhfncklefab

/- The parts 'number', 'long', 'kind', 'mode', 'moment' of the program: what each tells; nothing that was there turns. -/
namespace Go.Proofs.Ytecbhhfncklefab
set_option linter.unusedVariables false
open Go.RowKit

theorem made (fn : Fn) (first cap : Array Value) (w : World) : (Instr.makeFunc fn first cap).run Try.prog w = .ok (.func fn first cap) w := rfl

set_option maxRecDepth 100000 in
set_option maxHeartbeats 400000 in
theorem number1_any (n : Int) (h0 : 0 ≤ n) (h1 : n ≤ 4294967295) (g : Nat) (w : World) (hc : w.heap[g]? = some (.cells #[.int .u32 n] 22)) : Calls Try.prog 54 #[.pointer (some ⟨g, 0, none⟩)] w (Told1 true (bytesOf n 4) w) := by
  have c0 : w.cell? ⟨g, 0, none⟩ = some (.int .u32 n) := by simp [World.cell?, hc]
  go_enter Try.func54, Try.ntmps54
  go_wp2_with (go_at_call 53; refine (Put_any n h0 h1 _).mono ?_; rintro e w1 ⟨rfl, ho1, hb1⟩)
  go_ret
  exact told_yes hb1 (bytesOf_length n 4) ho1

theorem enter_number : ∀ (args : Array Value) (w : World), (callFunc 54 args).run Try.prog w = .ok (.enter 54 args) w := fun _ _ => by simp [go_sem]
set_option maxRecDepth 100000 in
set_option maxHeartbeats 400000 in
theorem number_any (n : Int) (h0 : 0 ≤ n) (h1 : n ≤ 4294967295) (w : World) : Calls Try.prog 26 #[.int .u32 n] w fun e w' => ∃ v, e = .returned v ∧ Tells w' v true (bytesOf n 4) ∧ Below w.heap.size w w' := by
  have hmf := made
  go_enter Try.func26, Try.ntmps26
  go_wp2
  go_ret
  have hb1 : Below w.heap.size w (w.alloc (.cells #[.int .u32 n] 22)) := (Below.refl _ _).alloc (Nat.le_refl _) _
  have hh := World.alloc_heap_new w (.cells #[.int .u32 n] 22)
  refine ⟨_, rfl, ⟨_, _, rfl, enter_number, fun W hW => number1_any n h0 h1 _ W ((hW.block _ (by simp)).trans hh)⟩, hb1⟩

set_option maxRecDepth 100000 in
set_option maxHeartbeats 400000 in
theorem long1_any (n : Int) (h0 : 0 ≤ n) (h1 : n ≤ 18446744073709551615) (g : Nat) (w : World) (hc : w.heap[g]? = some (.cells #[.int .u64 n] 24)) : Calls Try.prog 56 #[.pointer (some ⟨g, 0, none⟩)] w (Told1 true (bytesOf n 8) w) := by
  have c0 : w.cell? ⟨g, 0, none⟩ = some (.int .u64 n) := by simp [World.cell?, hc]
  go_enter Try.func56, Try.ntmps56
  go_wp2_with (go_at_call 57; refine (PutLong_any n h0 h1 _).mono ?_; rintro e w1 ⟨rfl, ho1, hb1⟩)
  go_ret
  exact told_yes hb1 (bytesOf_length n 8) ho1

theorem enter_long : ∀ (args : Array Value) (w : World), (callFunc 56 args).run Try.prog w = .ok (.enter 56 args) w := fun _ _ => by simp [go_sem]
set_option maxRecDepth 100000 in
set_option maxHeartbeats 400000 in
theorem long_any (n : Int) (h0 : 0 ≤ n) (h1 : n ≤ 18446744073709551615) (w : World) : Calls Try.prog 28 #[.int .u64 n] w fun e w' => ∃ v, e = .returned v ∧ Tells w' v true (bytesOf n 8) ∧ Below w.heap.size w w' := by
  have hmf := made
  go_enter Try.func28, Try.ntmps28
  go_wp2
  go_ret
  have hb1 : Below w.heap.size w (w.alloc (.cells #[.int .u64 n] 24)) := (Below.refl _ _).alloc (Nat.le_refl _) _
  have hh := World.alloc_heap_new w (.cells #[.int .u64 n] 24)
  refine ⟨_, rfl, ⟨_, _, rfl, enter_long, fun W hW => long1_any n h0 h1 _ W ((hW.block _ (by simp)).trans hh)⟩, hb1⟩

set_option maxRecDepth 100000 in
set_option maxHeartbeats 400000 in
theorem kind1_any (n : Int) (h0 : 0 ≤ n) (h1 : n ≤ 4294967295) (g : Nat) (w : World) (hc : w.heap[g]? = some (.cells #[.int .u32 n] 23)) : Calls Try.prog 70 #[.pointer (some ⟨g, 0, none⟩)] w (Told1 (kok n) (bytesOf n 4) w) := by
  have c0 : w.cell? ⟨g, 0, none⟩ = some (.int .u32 n) := by simp [World.cell?, hc]
  have hk := iskind_any n w
  cases hm : kok n with
  | true =>
    rw [hm] at hk
    go_enter Try.func70, Try.ntmps70
    go_wp2_with (first
      | (go_at_call 45; refine hk.mono ?_; rintro e w1 ⟨rfl, hw1⟩; subst hw1)
      | (go_at_call 43; refine (need_yes _ _).mono ?_; rintro e w1 ⟨rfl, hw1⟩; subst hw1)
      | (go_at_call 53; refine (Put_any n h0 h1 _).mono ?_; rintro e w1 ⟨rfl, ho1, hb1⟩))
    go_ret
    exact told_yes hb1 (bytesOf_length n 4) ho1
  | false =>
    rw [hm] at hk
    go_enter Try.func70, Try.ntmps70
    go_wp2_with (first
      | (go_at_call 45; refine hk.mono ?_; rintro e w1 ⟨rfl, hw1⟩; subst hw1)
      | (go_at_call 43; refine (need_no _ _).mono ?_; rintro e w1 ⟨rfl, hw1⟩; subst hw1))
    exact ⟨rfl, told_no (Below.refl _ _)⟩

theorem enter_kind : ∀ (args : Array Value) (w : World), (callFunc 70 args).run Try.prog w = .ok (.enter 70 args) w := fun _ _ => by simp [go_sem]
set_option maxRecDepth 100000 in
set_option maxHeartbeats 400000 in
theorem kind_any (n : Int) (h0 : 0 ≤ n) (h1 : n ≤ 4294967295) (w : World) : Calls Try.prog 40 #[.int .u32 n] w fun e w' => ∃ v, e = .returned v ∧ Tells w' v (kok n) (bytesOf n 4) ∧ Below w.heap.size w w' := by
  have hmf := made
  go_enter Try.func40, Try.ntmps40
  go_wp2
  go_ret
  have hb1 : Below w.heap.size w (w.alloc (.cells #[.int .u32 n] 23)) := (Below.refl _ _).alloc (Nat.le_refl _) _
  have hh := World.alloc_heap_new w (.cells #[.int .u32 n] 23)
  refine ⟨_, rfl, ⟨_, _, rfl, enter_kind, fun W hW => kind1_any n h0 h1 _ W ((hW.block _ (by simp)).trans hh)⟩, hb1⟩

set_option maxRecDepth 100000 in
set_option maxHeartbeats 400000 in
theorem mode1_any (n : Int) (h0 : 0 ≤ n) (h1 : n ≤ 4294967295) (g : Nat) (w : World) (hc : w.heap[g]? = some (.cells #[.int .u32 n] 22)) : Calls Try.prog 52 #[.pointer (some ⟨g, 0, none⟩)] w (Told1 (decide (n ≤ 4095)) (bytesOf n 4) w) := by
  have c0 : w.cell? ⟨g, 0, none⟩ = some (.int .u32 n) := by simp [World.cell?, hc]
  cases hm : decide (n ≤ 4095) with
  | true =>
    go_enter Try.func52, Try.ntmps52
    go_wp2_with (first
      | (go_at_call 43; refine (need_yes _ _).mono ?_; rintro e w1 ⟨rfl, hw1⟩; subst hw1)
      | (go_at_call 53; refine (Put_any n h0 h1 _).mono ?_; rintro e w1 ⟨rfl, ho1, hb1⟩))
    go_ret
    exact told_yes hb1 (bytesOf_length n 4) ho1
  | false =>
    go_enter Try.func52, Try.ntmps52
    go_wp2_with (first
      | (go_at_call 43; refine (need_no _ _).mono ?_; rintro e w1 ⟨rfl, hw1⟩; subst hw1))
    exact ⟨rfl, told_no (Below.refl _ _)⟩

theorem enter_mode : ∀ (args : Array Value) (w : World), (callFunc 52 args).run Try.prog w = .ok (.enter 52 args) w := fun _ _ => by simp [go_sem]
set_option maxRecDepth 100000 in
set_option maxHeartbeats 400000 in
theorem mode_any (n : Int) (h0 : 0 ≤ n) (h1 : n ≤ 4294967295) (w : World) : Calls Try.prog 25 #[.int .u32 n] w fun e w' => ∃ v, e = .returned v ∧ Tells w' v (decide (n ≤ 4095)) (bytesOf n 4) ∧ Below w.heap.size w w' := by
  have hmf := made
  go_enter Try.func25, Try.ntmps25
  go_wp2
  go_ret
  have hb1 : Below w.heap.size w (w.alloc (.cells #[.int .u32 n] 22)) := (Below.refl _ _).alloc (Nat.le_refl _) _
  have hh := World.alloc_heap_new w (.cells #[.int .u32 n] 22)
  refine ⟨_, rfl, ⟨_, _, rfl, enter_mode, fun W hW => mode1_any n h0 h1 _ W ((hW.block _ (by simp)).trans hh)⟩, hb1⟩

set_option maxRecDepth 100000 in
set_option maxHeartbeats 400000 in
theorem moment1_any (s n : Int) (h0 : 0 ≤ s) (h1 : s ≤ 4294967295) (n0 : 0 ≤ n) (n1 : n ≤ 4294967295) (g : Nat) (w : World) (hc : Tp w g s n) : Calls Try.prog 71 #[.pointer (some ⟨g, 0, none⟩)] w (Told1 (tok n) (tB s n) w) := by
  have c0 := hc.c0
  have c1 := hc.c1
  have hk := tcheck_any s n w
  cases hm : tok n with
  | true =>
    rw [hm] at hk
    go_enter Try.func71, Try.ntmps71
    go_wp2_with (first
      | (go_at_call 18; refine hk.mono ?_; rintro e w1 ⟨rfl, hb1⟩; have a1 := hc.next hb1; have d0 := a1.c0; have d1 := a1.c1)
      | (go_at_call 43; refine (need_yes _ _).mono ?_; rintro e w2 ⟨rfl, hw2⟩; subst hw2)
      | (go_at_call 72; refine (tput_any s n _ h0 h1 n0 n1).mono ?_; rintro e w3 ⟨G, c, rfl, _, _, ho3, hb3⟩))
    go_ret
    exact told_yes (hb1.trans (hb3.mono hb1.size)) (tB_length s n) (own_base ho3 hb1.size)
  | false =>
    rw [hm] at hk
    go_enter Try.func71, Try.ntmps71
    go_wp2_with (first
      | (go_at_call 18; refine hk.mono ?_; rintro e w1 ⟨rfl, hb1⟩)
      | (go_at_call 43; refine (need_no _ _).mono ?_; rintro e w2 ⟨rfl, hw2⟩; subst hw2))
    exact ⟨rfl, told_no hb1⟩

theorem enter_moment : ∀ (args : Array Value) (w : World), (callFunc 71 args).run Try.prog w = .ok (.enter 71 args) w := fun _ _ => by simp [go_sem]
set_option maxRecDepth 100000 in
set_option maxHeartbeats 400000 in
theorem moment_any (s n : Int) (h0 : 0 ≤ s) (h1 : s ≤ 4294967295) (n0 : 0 ≤ n) (n1 : n ≤ 4294967295) (w : World) : Calls Try.prog 41 #[.agg #[.int .u32 s, .int .u32 n]] w fun e w' => ∃ v, e = .returned v ∧ Tells w' v (tok n) (tB s n) ∧ Below w.heap.size w w' := by
  have hmf := made
  go_enter Try.func41, Try.ntmps41
  go_wp2
  go_ret
  have hb1 : Below w.heap.size w (w.alloc (.cells #[.int .u32 s, .int .u32 n] 26)) := (Below.refl _ _).alloc (Nat.le_refl _) _
  have hh := World.alloc_heap_new w (.cells #[.int .u32 s, .int .u32 n] 26)
  refine ⟨_, rfl, ⟨_, _, rfl, enter_moment, fun W hW => moment1_any s n h0 h1 n0 n1 _ W ((hW.block _ (by simp)).trans hh)⟩, hb1⟩
end Go.Proofs.Ytecbhhfncklefab
