/- The parts 'number', 'long', 'kind', 'mode', 'moment' of the program: what each tells; nothing that was there turns. -/
import Derived.Test.YtecbhhfncklefaaDoorAppendEachPPartMx
import Derived.Test.YtecbhhfncklefaaDoorPutTimePutMx
namespace Go.Proofs.YtecbhhfncklefaaDoor
set_option linter.unusedVariables false
open Go.RowKit

theorem made (fn : Fn) (first cap : Array Value) (w : World) : (Instr.makeFunc fn first cap).run Tryd.prog w = .ok (.func fn first cap) w := rfl

set_option maxRecDepth 100000 in
set_option maxHeartbeats 400000 in
theorem number1_any (n : Int) (h0 : 0 ≤ n) (h1 : n ≤ 4294967295) (g : Nat) (w : World) (hc : w.heap[g]? = some (.cells #[.int .u32 n] 22)) : Calls Tryd.prog 68 #[.pointer (some ⟨g, 0, none⟩)] w (Told1 true (bytesOf n 4) w) := by
  have c0 : w.cell? ⟨g, 0, none⟩ = some (.int .u32 n) := by simp [World.cell?, hc]
  go_enter Tryd.func68, Tryd.ntmps68
  go_wp2_with (go_at_call 67; refine (Put_any n h0 h1 _).mono ?_; rintro e w1 ⟨rfl, ho1, hb1⟩)
  go_ret
  exact told_yes hb1 (bytesOf_length n 4) ho1

theorem enter_number : ∀ (args : Array Value) (w : World), (callFunc 68 args).run Tryd.prog w = .ok (.enter 68 args) w := fun _ _ => by simp [go_sem]
set_option maxRecDepth 100000 in
set_option maxHeartbeats 400000 in
theorem number_any (n : Int) (h0 : 0 ≤ n) (h1 : n ≤ 4294967295) (w : World) : Calls Tryd.prog 22 #[.int .u32 n] w fun e w' => ∃ v, e = .returned v ∧ Tells w' v true (bytesOf n 4) ∧ Below w.heap.size w w' := by
  have hmf := made
  go_enter Tryd.func22, Tryd.ntmps22
  go_wp2
  go_ret
  have hb1 : Below w.heap.size w (w.alloc (.cells #[.int .u32 n] 22)) := (Below.refl _ _).alloc (Nat.le_refl _) _
  have hh := World.alloc_heap_new w (.cells #[.int .u32 n] 22)
  refine ⟨_, rfl, ⟨_, _, rfl, enter_number, fun W hW => number1_any n h0 h1 _ W ((hW.block _ (by simp)).trans hh)⟩, hb1⟩

set_option maxRecDepth 100000 in
set_option maxHeartbeats 400000 in
theorem long1_any (n : Int) (h0 : 0 ≤ n) (h1 : n ≤ 18446744073709551615) (g : Nat) (w : World) (hc : w.heap[g]? = some (.cells #[.int .u64 n] 24)) : Calls Tryd.prog 70 #[.pointer (some ⟨g, 0, none⟩)] w (Told1 true (bytesOf n 8) w) := by
  have c0 : w.cell? ⟨g, 0, none⟩ = some (.int .u64 n) := by simp [World.cell?, hc]
  go_enter Tryd.func70, Tryd.ntmps70
  go_wp2_with (go_at_call 71; refine (PutLong_any n h0 h1 _).mono ?_; rintro e w1 ⟨rfl, ho1, hb1⟩)
  go_ret
  exact told_yes hb1 (bytesOf_length n 8) ho1

theorem enter_long : ∀ (args : Array Value) (w : World), (callFunc 70 args).run Tryd.prog w = .ok (.enter 70 args) w := fun _ _ => by simp [go_sem]
set_option maxRecDepth 100000 in
set_option maxHeartbeats 400000 in
theorem long_any (n : Int) (h0 : 0 ≤ n) (h1 : n ≤ 18446744073709551615) (w : World) : Calls Tryd.prog 24 #[.int .u64 n] w fun e w' => ∃ v, e = .returned v ∧ Tells w' v true (bytesOf n 8) ∧ Below w.heap.size w w' := by
  have hmf := made
  go_enter Tryd.func24, Tryd.ntmps24
  go_wp2
  go_ret
  have hb1 : Below w.heap.size w (w.alloc (.cells #[.int .u64 n] 24)) := (Below.refl _ _).alloc (Nat.le_refl _) _
  have hh := World.alloc_heap_new w (.cells #[.int .u64 n] 24)
  refine ⟨_, rfl, ⟨_, _, rfl, enter_long, fun W hW => long1_any n h0 h1 _ W ((hW.block _ (by simp)).trans hh)⟩, hb1⟩

set_option maxRecDepth 100000 in
set_option maxHeartbeats 400000 in
theorem kind1_any (n : Int) (h0 : 0 ≤ n) (h1 : n ≤ 4294967295) (g : Nat) (w : World) (hc : w.heap[g]? = some (.cells #[.int .u32 n] 23)) : Calls Tryd.prog 77 #[.pointer (some ⟨g, 0, none⟩)] w (Told1 (kok n) (bytesOf n 4) w) := by
  have c0 : w.cell? ⟨g, 0, none⟩ = some (.int .u32 n) := by simp [World.cell?, hc]
  have hk := iskind_any n w
  cases hm : kok n with
  | true =>
    rw [hm] at hk
    go_enter Tryd.func77, Tryd.ntmps77
    go_wp2_with (first
      | (go_at_call 78; refine hk.mono ?_; rintro e w1 ⟨rfl, hw1⟩; subst hw1)
      | (go_at_call 65; refine (need_yes _ _).mono ?_; rintro e w1 ⟨rfl, hw1⟩; subst hw1)
      | (go_at_call 67; refine (Put_any n h0 h1 _).mono ?_; rintro e w1 ⟨rfl, ho1, hb1⟩))
    go_ret
    exact told_yes hb1 (bytesOf_length n 4) ho1
  | false =>
    rw [hm] at hk
    go_enter Tryd.func77, Tryd.ntmps77
    go_wp2_with (first
      | (go_at_call 78; refine hk.mono ?_; rintro e w1 ⟨rfl, hw1⟩; subst hw1)
      | (go_at_call 65; refine (need_no _ _).mono ?_; rintro e w1 ⟨rfl, hw1⟩; subst hw1))
    exact ⟨rfl, told_no (Below.refl _ _)⟩

theorem enter_kind : ∀ (args : Array Value) (w : World), (callFunc 77 args).run Tryd.prog w = .ok (.enter 77 args) w := fun _ _ => by simp [go_sem]
set_option maxRecDepth 100000 in
set_option maxHeartbeats 400000 in
theorem kind_any (n : Int) (h0 : 0 ≤ n) (h1 : n ≤ 4294967295) (w : World) : Calls Tryd.prog 38 #[.int .u32 n] w fun e w' => ∃ v, e = .returned v ∧ Tells w' v (kok n) (bytesOf n 4) ∧ Below w.heap.size w w' := by
  have hmf := made
  go_enter Tryd.func38, Tryd.ntmps38
  go_wp2
  go_ret
  have hb1 : Below w.heap.size w (w.alloc (.cells #[.int .u32 n] 23)) := (Below.refl _ _).alloc (Nat.le_refl _) _
  have hh := World.alloc_heap_new w (.cells #[.int .u32 n] 23)
  refine ⟨_, rfl, ⟨_, _, rfl, enter_kind, fun W hW => kind1_any n h0 h1 _ W ((hW.block _ (by simp)).trans hh)⟩, hb1⟩

set_option maxRecDepth 100000 in
set_option maxHeartbeats 400000 in
theorem mode1_any (n : Int) (h0 : 0 ≤ n) (h1 : n ≤ 4294967295) (g : Nat) (w : World) (hc : w.heap[g]? = some (.cells #[.int .u32 n] 22)) : Calls Tryd.prog 66 #[.pointer (some ⟨g, 0, none⟩)] w (Told1 (decide (n ≤ 4095)) (bytesOf n 4) w) := by
  have c0 : w.cell? ⟨g, 0, none⟩ = some (.int .u32 n) := by simp [World.cell?, hc]
  cases hm : decide (n ≤ 4095) with
  | true =>
    go_enter Tryd.func66, Tryd.ntmps66
    go_wp2_with (first
      | (go_at_call 65; refine (need_yes _ _).mono ?_; rintro e w1 ⟨rfl, hw1⟩; subst hw1)
      | (go_at_call 67; refine (Put_any n h0 h1 _).mono ?_; rintro e w1 ⟨rfl, ho1, hb1⟩))
    go_ret
    exact told_yes hb1 (bytesOf_length n 4) ho1
  | false =>
    go_enter Tryd.func66, Tryd.ntmps66
    go_wp2_with (first
      | (go_at_call 65; refine (need_no _ _).mono ?_; rintro e w1 ⟨rfl, hw1⟩; subst hw1))
    exact ⟨rfl, told_no (Below.refl _ _)⟩

theorem enter_mode : ∀ (args : Array Value) (w : World), (callFunc 66 args).run Tryd.prog w = .ok (.enter 66 args) w := fun _ _ => by simp [go_sem]
set_option maxRecDepth 100000 in
set_option maxHeartbeats 400000 in
theorem mode_any (n : Int) (h0 : 0 ≤ n) (h1 : n ≤ 4294967295) (w : World) : Calls Tryd.prog 21 #[.int .u32 n] w fun e w' => ∃ v, e = .returned v ∧ Tells w' v (decide (n ≤ 4095)) (bytesOf n 4) ∧ Below w.heap.size w w' := by
  have hmf := made
  go_enter Tryd.func21, Tryd.ntmps21
  go_wp2
  go_ret
  have hb1 : Below w.heap.size w (w.alloc (.cells #[.int .u32 n] 22)) := (Below.refl _ _).alloc (Nat.le_refl _) _
  have hh := World.alloc_heap_new w (.cells #[.int .u32 n] 22)
  refine ⟨_, rfl, ⟨_, _, rfl, enter_mode, fun W hW => mode1_any n h0 h1 _ W ((hW.block _ (by simp)).trans hh)⟩, hb1⟩

set_option maxRecDepth 100000 in
set_option maxHeartbeats 400000 in
theorem moment1_any (s n : Int) (h0 : 0 ≤ s) (h1 : s ≤ 4294967295) (n0 : 0 ≤ n) (n1 : n ≤ 4294967295) (g : Nat) (w : World) (hc : Tp w g s n) : Calls Tryd.prog 79 #[.pointer (some ⟨g, 0, none⟩)] w (Told1 (tok n) (tB s n) w) := by
  have c0 := hc.c0
  have c1 := hc.c1
  have hk := tcheck_any s n w
  cases hm : tok n with
  | true =>
    rw [hm] at hk
    go_enter Tryd.func79, Tryd.ntmps79
    go_wp2_with (first
      | (go_at_call 80; refine hk.mono ?_; rintro e w1 ⟨rfl, hb1⟩; have a1 := hc.next hb1; have d0 := a1.c0; have d1 := a1.c1)
      | (go_at_call 65; refine (need_yes _ _).mono ?_; rintro e w2 ⟨rfl, hw2⟩; subst hw2)
      | (go_at_call 81; refine (tput_any s n _ h0 h1 n0 n1).mono ?_; rintro e w3 ⟨G, c, rfl, _, _, ho3, hb3⟩))
    go_ret
    exact told_yes (hb1.trans (hb3.mono hb1.size)) (tB_length s n) (own_base ho3 hb1.size)
  | false =>
    rw [hm] at hk
    go_enter Tryd.func79, Tryd.ntmps79
    go_wp2_with (first
      | (go_at_call 80; refine hk.mono ?_; rintro e w1 ⟨rfl, hb1⟩)
      | (go_at_call 65; refine (need_no _ _).mono ?_; rintro e w2 ⟨rfl, hw2⟩; subst hw2))
    exact ⟨rfl, told_no hb1⟩

theorem enter_moment : ∀ (args : Array Value) (w : World), (callFunc 79 args).run Tryd.prog w = .ok (.enter 79 args) w := fun _ _ => by simp [go_sem]
set_option maxRecDepth 100000 in
set_option maxHeartbeats 400000 in
theorem moment_any (s n : Int) (h0 : 0 ≤ s) (h1 : s ≤ 4294967295) (n0 : 0 ≤ n) (n1 : n ≤ 4294967295) (w : World) : Calls Tryd.prog 39 #[.agg #[.int .u32 s, .int .u32 n]] w fun e w' => ∃ v, e = .returned v ∧ Tells w' v (tok n) (tB s n) ∧ Below w.heap.size w w' := by
  have hmf := made
  go_enter Tryd.func39, Tryd.ntmps39
  go_wp2
  go_ret
  have hb1 : Below w.heap.size w (w.alloc (.cells #[.int .u32 s, .int .u32 n] 26)) := (Below.refl _ _).alloc (Nat.le_refl _) _
  have hh := World.alloc_heap_new w (.cells #[.int .u32 s, .int .u32 n] 26)
  refine ⟨_, rfl, ⟨_, _, rfl, enter_moment, fun W hW => moment1_any s n h0 h1 n0 n1 _ W ((hW.block _ (by simp)).trans hh)⟩, hb1⟩
end Go.Proofs.YtecbhhfncklefaaDoor
