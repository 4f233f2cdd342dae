/- 'Name' and 'Path': what a text is as a name and as a path; nothing that was there turns. -/
import Derived.Test.YtmeampolndpjeaaDoorFlaws
import Derived.LoopN
namespace Go.Proofs.YtmeampolndpjeaaDoor
set_option linter.unusedVariables false
open Go.RowKit

/-- What is answered: as a name, as a path. -/
def nameE (s : ByteArray) : Int := if s.size = 0 ∨ hasB s 0 ∨ hasB s 47 then 22 else if 255 < s.size then 63 else 0
def pathE (s : ByteArray) : Int := if s.size = 0 ∨ hasB s 0 then 22 else if 1024 < s.size then 63 else 0

set_option maxRecDepth 100000 in
set_option maxHeartbeats 400000 in
theorem has1_any (s : ByteArray) (c : Int) (B : Nat) (w : World) (h0 : 0 ≤ c) (h1 : c ≤ 255) (hB : w.cell? ⟨B, 0, none⟩ = some (.int .u8 c)) :
    Calls Tryd.prog 48 #[.string s, .pointer (some ⟨B, 0, none⟩)] w fun e w' => e = .returned (.int .u32 (if hasB s c then 22 else 0)) ∧ w' = w := by
  have hi := firstIdx_has s c h0 h1
  have hc := index_any s c w
  by_cases h : hasB s c
  · rw [if_pos h]
    replace hi := hi.2 h
    generalize firstIdx s c.toNat.toUInt8 = x at *
    go_enter Tryd.func48, Tryd.ntmps48
    go_wp2_with (go_at_call 49; refine hc.mono ?_; rintro e w' ⟨rfl, hw'⟩; subst w')
    go_ret
    exact ⟨rfl, rfl⟩
  · rw [if_neg h]
    replace hi : ¬ 0 ≤ firstIdx s c.toNat.toUInt8 := fun k => h (hi.1 k)
    generalize firstIdx s c.toNat.toUInt8 = x at *
    go_enter Tryd.func48, Tryd.ntmps48
    go_wp2_with (go_at_call 49; refine hc.mono ?_; rintro e w' ⟨rfl, hw'⟩; subst w')
    go_ret
    exact ⟨rfl, rfl⟩

set_option maxRecDepth 100000 in
set_option maxHeartbeats 400000 in
theorem longer1_any (s : ByteArray) (m : Nat) (B : Nat) (w : World) (hB : w.cell? ⟨B, 0, none⟩ = some (.int .i64 (m : Int))) :
    Calls Tryd.prog 50 #[.string s, .pointer (some ⟨B, 0, none⟩)] w fun e w' => e = .returned (.int .u32 (if m < s.size then 63 else 0)) ∧ w' = w := by
  by_cases h : m < s.size
  · rw [if_pos h]
    go_enter Tryd.func50, Tryd.ntmps50
    go_wp2
    go_ret
    exact ⟨rfl, rfl⟩
  · rw [if_neg h]
    go_enter Tryd.func50, Tryd.ntmps50
    go_wp2
    go_ret
    exact ⟨rfl, rfl⟩

theorem isEmpty_size (s : ByteArray) : s.toList.isEmpty = decide (s.size = 0) := by
  rw [ByteArray.toList_eq]
  have e : s.data.toList.length = s.size := by rw [Array.length_toList]; rfl
  rw [← e]
  cases s.data.toList <;> simp

set_option maxRecDepth 100000 in
set_option maxHeartbeats 400000 in
theorem empty_any (s : ByteArray) (w : World) :
    Calls Tryd.prog 16 #[.string s] w fun e w' => e = .returned (.int .u32 (if s.size = 0 then 22 else 0)) ∧ w' = w := by
  have hb := isEmpty_size s
  by_cases h : s.size = 0
  · rw [if_pos h]
    rw [decide_eq_true h] at hb
    go_enter Tryd.func16, Tryd.ntmps16
    go_wp2
    go_ret
    exact ⟨rfl, rfl⟩
  · rw [if_neg h]
    rw [decide_eq_false h] at hb
    go_enter Tryd.func16, Tryd.ntmps16
    go_wp2
    go_ret
    exact ⟨rfl, rfl⟩

set_option maxRecDepth 100000 in
set_option maxHeartbeats 400000 in
theorem has_any (c : Int) (w : World) :
    Calls Tryd.prog 17 #[.int .u8 c] w fun e w' => e = .returned (.func (.func 48) #[] #[.pointer (some ⟨w.heap.size, 0, none⟩)]) ∧ w' = w.alloc (.cells #[.int .u8 c] 5) := by
  have hmf : ∀ (fn : Fn) (first cap : Array Value) (w : World), (Instr.makeFunc fn first cap).run Tryd.prog w = .ok (.func fn first cap) w := fun _ _ _ _ => rfl
  go_enter Tryd.func17, Tryd.ntmps17
  go_wp2
  go_ret
  exact ⟨rfl, rfl⟩

set_option maxRecDepth 100000 in
set_option maxHeartbeats 400000 in
theorem longer_any (c : Int) (w : World) :
    Calls Tryd.prog 18 #[.int .i64 c] w fun e w' => e = .returned (.func (.func 50) #[] #[.pointer (some ⟨w.heap.size, 0, none⟩)]) ∧ w' = w.alloc (.cells #[.int .i64 c] 3) := by
  have hmf : ∀ (fn : Fn) (first cap : Array Value) (w : World), (Instr.makeFunc fn first cap).run Tryd.prog w = .ok (.func fn first cap) w := fun _ _ _ _ => rfl
  go_enter Tryd.func18, Tryd.ntmps18
  go_wp2
  go_ret
  exact ⟨rfl, rfl⟩

theorem store_fn {P : Program} {w : World} {a : Addr} {m : Mode} (fn : Fn) (first captured : Array Value) : (store a (.func fn first captured) m).run P w = stored P w a (.func fn first captured) m := run_store P w a _ m rfl
attribute [local go_sem] store_fn

theorem cell_old {w : World} {b : Nat} (hb : b < w.heap.size) (o : Obj) (i : Nat) : (w.alloc o).cell? ⟨b, i, none⟩ = w.cell? ⟨b, i, none⟩ :=
  Below.cell (p := ⟨b, i, none⟩) ((Below.refl _ _).alloc (Nat.le_refl _) o) hb

theorem cell_new {w : World} {b : Nat} (hb : b = w.heap.size) (C : Array Value) (t : TypeId) (i : Nat) {v : Value} (h : C[i]? = some v) : (w.alloc (.cells C t)).cell? ⟨b, i, none⟩ = some v := by
  subst hb
  have e : (w.alloc (.cells C t)).heap[w.heap.size]? = some (.cells C t) := by
    show (w.heap.push _)[w.heap.size]? = _
    simp
  simp only [World.cell?, e]
  simpa using h

set_option maxRecDepth 100000 in
set_option maxHeartbeats 1000000 in
theorem first_name (s : ByteArray) (A B1 B2 B3 : Nat) (w : World)
    (h0 : w.cell? ⟨A, 0, none⟩ = some (.func (.func 16) #[] #[]))
    (h1 : w.cell? ⟨A, 1, none⟩ = some (.func (.func 48) #[] #[.pointer (some ⟨B1, 0, none⟩)]))
    (h2 : w.cell? ⟨A, 2, none⟩ = some (.func (.func 48) #[] #[.pointer (some ⟨B2, 0, none⟩)]))
    (h3 : w.cell? ⟨A, 3, none⟩ = some (.func (.func 50) #[] #[.pointer (some ⟨B3, 0, none⟩)]))
    (k1 : w.cell? ⟨B1, 0, none⟩ = some (.int .u8 0)) (k2 : w.cell? ⟨B2, 0, none⟩ = some (.int .u8 47)) (k3 : w.cell? ⟨B3, 0, none⟩ = some (.int .i64 255)) :
    Calls Tryd.prog 19 #[.string s, .slice (some ⟨A, 0, none⟩) 4 4] w fun e w' => e = .returned (.int .u32 (nameE s)) ∧ w' = w := by
  have c0 := empty_any s w
  have c1 := has1_any s 0 B1 w (by omega) (by omega) k1
  have c2 := has1_any s 47 B2 w (by omega) (by omega) k2
  have c3 := longer1_any s 255 B3 w k3
  by_cases g0 : s.size = 0
  · rw [if_pos g0] at c0
    have hE : nameE s = 22 := by simp [nameE, g0]
    rw [hE]
    clear hE
    go_enter Tryd.func19, Tryd.ntmps19
    go_wp2
    refine wp_loop_rounds 5 ?_
    rw [rounds_succ]
    go_wp2_with fail
    refine c0.mono ?_
    rintro e w' ⟨rfl, hw'⟩
    subst w'
    go_wp2_with fail
    go_ret
    exact ⟨rfl, rfl⟩
  · rw [if_neg g0] at c0
    by_cases g1 : hasB s 0
    · rw [if_pos g1] at c1
      have hE : nameE s = 22 := by simp [nameE, g0, g1]
      rw [hE]
      clear hE
      go_enter Tryd.func19, Tryd.ntmps19
      go_wp2
      refine wp_loop_rounds 5 ?_
      rw [rounds_succ]
      go_wp2_with fail
      refine c0.mono ?_
      rintro e w' ⟨rfl, hw'⟩
      subst w'
      go_wp2_with fail
      rw [rounds_succ]
      go_wp2_with fail
      refine c1.mono ?_
      rintro e w' ⟨rfl, hw'⟩
      subst w'
      go_wp2_with fail
      go_ret
      exact ⟨rfl, rfl⟩
    · rw [if_neg g1] at c1
      by_cases g2 : hasB s 47
      · rw [if_pos g2] at c2
        have hE : nameE s = 22 := by simp [nameE, g0, g1, g2]
        rw [hE]
        clear hE
        go_enter Tryd.func19, Tryd.ntmps19
        go_wp2
        refine wp_loop_rounds 5 ?_
        rw [rounds_succ]
        go_wp2_with fail
        refine c0.mono ?_
        rintro e w' ⟨rfl, hw'⟩
        subst w'
        go_wp2_with fail
        rw [rounds_succ]
        go_wp2_with fail
        refine c1.mono ?_
        rintro e w' ⟨rfl, hw'⟩
        subst w'
        go_wp2_with fail
        rw [rounds_succ]
        go_wp2_with fail
        refine c2.mono ?_
        rintro e w' ⟨rfl, hw'⟩
        subst w'
        go_wp2_with fail
        go_ret
        exact ⟨rfl, rfl⟩
      · rw [if_neg g2] at c2
        by_cases g3 : 255 < s.size
        · rw [if_pos g3] at c3
          have hE : nameE s = 63 := by simp [nameE, g0, g1, g2, g3]
          rw [hE]
          clear hE
          go_enter Tryd.func19, Tryd.ntmps19
          go_wp2
          refine wp_loop_rounds 5 ?_
          rw [rounds_succ]
          go_wp2_with fail
          refine c0.mono ?_
          rintro e w' ⟨rfl, hw'⟩
          subst w'
          go_wp2_with fail
          rw [rounds_succ]
          go_wp2_with fail
          refine c1.mono ?_
          rintro e w' ⟨rfl, hw'⟩
          subst w'
          go_wp2_with fail
          rw [rounds_succ]
          go_wp2_with fail
          refine c2.mono ?_
          rintro e w' ⟨rfl, hw'⟩
          subst w'
          go_wp2_with fail
          rw [rounds_succ]
          go_wp2_with fail
          refine c3.mono ?_
          rintro e w' ⟨rfl, hw'⟩
          subst w'
          go_wp2_with fail
          go_ret
          exact ⟨rfl, rfl⟩
        · rw [if_neg g3] at c3
          have hE : nameE s = 0 := by simp [nameE, g0, g1, g2, g3]
          rw [hE]
          clear hE
          go_enter Tryd.func19, Tryd.ntmps19
          go_wp2
          refine wp_loop_rounds 5 ?_
          rw [rounds_succ]
          go_wp2_with fail
          refine c0.mono ?_
          rintro e w' ⟨rfl, hw'⟩
          subst w'
          go_wp2_with fail
          rw [rounds_succ]
          go_wp2_with fail
          refine c1.mono ?_
          rintro e w' ⟨rfl, hw'⟩
          subst w'
          go_wp2_with fail
          rw [rounds_succ]
          go_wp2_with fail
          refine c2.mono ?_
          rintro e w' ⟨rfl, hw'⟩
          subst w'
          go_wp2_with fail
          rw [rounds_succ]
          go_wp2_with fail
          refine c3.mono ?_
          rintro e w' ⟨rfl, hw'⟩
          subst w'
          go_wp2_with fail
          rw [rounds_succ]
          go_wp2
          go_ret
          exact ⟨rfl, rfl⟩

set_option maxRecDepth 100000 in
set_option maxHeartbeats 1000000 in
theorem first_path (s : ByteArray) (A B1 B2 : Nat) (w : World)
    (h0 : w.cell? ⟨A, 0, none⟩ = some (.func (.func 16) #[] #[]))
    (h1 : w.cell? ⟨A, 1, none⟩ = some (.func (.func 48) #[] #[.pointer (some ⟨B1, 0, none⟩)]))
    (h2 : w.cell? ⟨A, 2, none⟩ = some (.func (.func 50) #[] #[.pointer (some ⟨B2, 0, none⟩)]))
    (k1 : w.cell? ⟨B1, 0, none⟩ = some (.int .u8 0)) (k2 : w.cell? ⟨B2, 0, none⟩ = some (.int .i64 1024)) :
    Calls Tryd.prog 19 #[.string s, .slice (some ⟨A, 0, none⟩) 3 3] w fun e w' => e = .returned (.int .u32 (pathE s)) ∧ w' = w := by
  have c0 := empty_any s w
  have c1 := has1_any s 0 B1 w (by omega) (by omega) k1
  have c2 := longer1_any s 1024 B2 w k2
  by_cases g0 : s.size = 0
  · rw [if_pos g0] at c0
    have hE : pathE s = 22 := by simp [pathE, g0]
    rw [hE]
    clear hE
    go_enter Tryd.func19, Tryd.ntmps19
    go_wp2
    refine wp_loop_rounds 4 ?_
    rw [rounds_succ]
    go_wp2_with fail
    refine c0.mono ?_
    rintro e w' ⟨rfl, hw'⟩
    subst w'
    go_wp2_with fail
    go_ret
    exact ⟨rfl, rfl⟩
  · rw [if_neg g0] at c0
    by_cases g1 : hasB s 0
    · rw [if_pos g1] at c1
      have hE : pathE s = 22 := by simp [pathE, g0, g1]
      rw [hE]
      clear hE
      go_enter Tryd.func19, Tryd.ntmps19
      go_wp2
      refine wp_loop_rounds 4 ?_
      rw [rounds_succ]
      go_wp2_with fail
      refine c0.mono ?_
      rintro e w' ⟨rfl, hw'⟩
      subst w'
      go_wp2_with fail
      rw [rounds_succ]
      go_wp2_with fail
      refine c1.mono ?_
      rintro e w' ⟨rfl, hw'⟩
      subst w'
      go_wp2_with fail
      go_ret
      exact ⟨rfl, rfl⟩
    · rw [if_neg g1] at c1
      by_cases g2 : 1024 < s.size
      · rw [if_pos g2] at c2
        have hE : pathE s = 63 := by simp [pathE, g0, g1, g2]
        rw [hE]
        clear hE
        go_enter Tryd.func19, Tryd.ntmps19
        go_wp2
        refine wp_loop_rounds 4 ?_
        rw [rounds_succ]
        go_wp2_with fail
        refine c0.mono ?_
        rintro e w' ⟨rfl, hw'⟩
        subst w'
        go_wp2_with fail
        rw [rounds_succ]
        go_wp2_with fail
        refine c1.mono ?_
        rintro e w' ⟨rfl, hw'⟩
        subst w'
        go_wp2_with fail
        rw [rounds_succ]
        go_wp2_with fail
        refine c2.mono ?_
        rintro e w' ⟨rfl, hw'⟩
        subst w'
        go_wp2_with fail
        go_ret
        exact ⟨rfl, rfl⟩
      · rw [if_neg g2] at c2
        have hE : pathE s = 0 := by simp [pathE, g0, g1, g2]
        rw [hE]
        clear hE
        go_enter Tryd.func19, Tryd.ntmps19
        go_wp2
        refine wp_loop_rounds 4 ?_
        rw [rounds_succ]
        go_wp2_with fail
        refine c0.mono ?_
        rintro e w' ⟨rfl, hw'⟩
        subst w'
        go_wp2_with fail
        rw [rounds_succ]
        go_wp2_with fail
        refine c1.mono ?_
        rintro e w' ⟨rfl, hw'⟩
        subst w'
        go_wp2_with fail
        rw [rounds_succ]
        go_wp2_with fail
        refine c2.mono ?_
        rintro e w' ⟨rfl, hw'⟩
        subst w'
        go_wp2_with fail
        rw [rounds_succ]
        go_wp2
        go_ret
        exact ⟨rfl, rfl⟩

set_option maxRecDepth 100000 in
set_option maxHeartbeats 1000000 in
theorem name_any (s : ByteArray) (w : World) : Calls Tryd.prog 8 #[.string s] w fun e w' => e = .returned (.int .u32 (nameE s)) ∧ Below w.heap.size w w' := by
  go_enter Tryd.func8, Tryd.ntmps8
  go_wp2_with fail
  refine (has_any 0 _).mono ?_
  rintro e w' ⟨rfl, hw'⟩
  subst w'
  go_wp2_with fail
  refine (has_any 47 _).mono ?_
  rintro e w' ⟨rfl, hw'⟩
  subst w'
  go_wp2_with fail
  refine (longer_any 255 _).mono ?_
  rintro e w' ⟨rfl, hw'⟩
  subst w'
  go_wp2_with fail
  have k0 : (((((w).alloc (.cells #[.int .u8 0] 5)).alloc (.cells #[.int .u8 47] 5)).alloc (.cells #[.int .i64 255] 3)).alloc (.cells #[.func (.func 16) #[] #[], .func (.func 48) #[] #[.pointer (some ⟨w.heap.size, 0, none⟩)], .func (.func 48) #[] #[.pointer (some ⟨w.heap.size + 1, 0, none⟩)], .func (.func 50) #[] #[.pointer (some ⟨w.heap.size + 1 + 1, 0, none⟩)]] 46)).cell? ⟨w.heap.size, 0, none⟩ = some (.int .u8 0) := by
    refine (cell_old (by simp; try omega) _ _).trans ?_
    refine (cell_old (by simp; try omega) _ _).trans ?_
    refine (cell_old (by simp; try omega) _ _).trans ?_
    exact cell_new (by simp) _ _ _ (by rfl)
  have k1 : (((((w).alloc (.cells #[.int .u8 0] 5)).alloc (.cells #[.int .u8 47] 5)).alloc (.cells #[.int .i64 255] 3)).alloc (.cells #[.func (.func 16) #[] #[], .func (.func 48) #[] #[.pointer (some ⟨w.heap.size, 0, none⟩)], .func (.func 48) #[] #[.pointer (some ⟨w.heap.size + 1, 0, none⟩)], .func (.func 50) #[] #[.pointer (some ⟨w.heap.size + 1 + 1, 0, none⟩)]] 46)).cell? ⟨w.heap.size + 1, 0, none⟩ = some (.int .u8 47) := by
    refine (cell_old (by simp; try omega) _ _).trans ?_
    refine (cell_old (by simp; try omega) _ _).trans ?_
    exact cell_new (by simp) _ _ _ (by rfl)
  have k2 : (((((w).alloc (.cells #[.int .u8 0] 5)).alloc (.cells #[.int .u8 47] 5)).alloc (.cells #[.int .i64 255] 3)).alloc (.cells #[.func (.func 16) #[] #[], .func (.func 48) #[] #[.pointer (some ⟨w.heap.size, 0, none⟩)], .func (.func 48) #[] #[.pointer (some ⟨w.heap.size + 1, 0, none⟩)], .func (.func 50) #[] #[.pointer (some ⟨w.heap.size + 1 + 1, 0, none⟩)]] 46)).cell? ⟨w.heap.size + 1 + 1, 0, none⟩ = some (.int .i64 255) := by
    refine (cell_old (by simp; try omega) _ _).trans ?_
    exact cell_new (by simp) _ _ _ (by rfl)
  have h0 : (((((w).alloc (.cells #[.int .u8 0] 5)).alloc (.cells #[.int .u8 47] 5)).alloc (.cells #[.int .i64 255] 3)).alloc (.cells #[.func (.func 16) #[] #[], .func (.func 48) #[] #[.pointer (some ⟨w.heap.size, 0, none⟩)], .func (.func 48) #[] #[.pointer (some ⟨w.heap.size + 1, 0, none⟩)], .func (.func 50) #[] #[.pointer (some ⟨w.heap.size + 1 + 1, 0, none⟩)]] 46)).cell? ⟨w.heap.size + 1 + 1 + 1, 0, none⟩ = some (.func (.func 16) #[] #[]) := cell_new (by simp) _ _ _ (by rfl)
  have h1 : (((((w).alloc (.cells #[.int .u8 0] 5)).alloc (.cells #[.int .u8 47] 5)).alloc (.cells #[.int .i64 255] 3)).alloc (.cells #[.func (.func 16) #[] #[], .func (.func 48) #[] #[.pointer (some ⟨w.heap.size, 0, none⟩)], .func (.func 48) #[] #[.pointer (some ⟨w.heap.size + 1, 0, none⟩)], .func (.func 50) #[] #[.pointer (some ⟨w.heap.size + 1 + 1, 0, none⟩)]] 46)).cell? ⟨w.heap.size + 1 + 1 + 1, 1, none⟩ = some (.func (.func 48) #[] #[.pointer (some ⟨w.heap.size, 0, none⟩)]) := cell_new (by simp) _ _ _ (by rfl)
  have h2 : (((((w).alloc (.cells #[.int .u8 0] 5)).alloc (.cells #[.int .u8 47] 5)).alloc (.cells #[.int .i64 255] 3)).alloc (.cells #[.func (.func 16) #[] #[], .func (.func 48) #[] #[.pointer (some ⟨w.heap.size, 0, none⟩)], .func (.func 48) #[] #[.pointer (some ⟨w.heap.size + 1, 0, none⟩)], .func (.func 50) #[] #[.pointer (some ⟨w.heap.size + 1 + 1, 0, none⟩)]] 46)).cell? ⟨w.heap.size + 1 + 1 + 1, 2, none⟩ = some (.func (.func 48) #[] #[.pointer (some ⟨w.heap.size + 1, 0, none⟩)]) := cell_new (by simp) _ _ _ (by rfl)
  have h3 : (((((w).alloc (.cells #[.int .u8 0] 5)).alloc (.cells #[.int .u8 47] 5)).alloc (.cells #[.int .i64 255] 3)).alloc (.cells #[.func (.func 16) #[] #[], .func (.func 48) #[] #[.pointer (some ⟨w.heap.size, 0, none⟩)], .func (.func 48) #[] #[.pointer (some ⟨w.heap.size + 1, 0, none⟩)], .func (.func 50) #[] #[.pointer (some ⟨w.heap.size + 1 + 1, 0, none⟩)]] 46)).cell? ⟨w.heap.size + 1 + 1 + 1, 3, none⟩ = some (.func (.func 50) #[] #[.pointer (some ⟨w.heap.size + 1 + 1, 0, none⟩)]) := cell_new (by simp) _ _ _ (by rfl)
  have hB : Below w.heap.size w (((((w).alloc (.cells #[.int .u8 0] 5)).alloc (.cells #[.int .u8 47] 5)).alloc (.cells #[.int .i64 255] 3)).alloc (.cells #[.func (.func 16) #[] #[], .func (.func 48) #[] #[.pointer (some ⟨w.heap.size, 0, none⟩)], .func (.func 48) #[] #[.pointer (some ⟨w.heap.size + 1, 0, none⟩)], .func (.func 50) #[] #[.pointer (some ⟨w.heap.size + 1 + 1, 0, none⟩)]] 46)) := (((((Below.refl _ _).alloc (Nat.le_refl _) _).alloc (by simp; try omega) _).alloc (by simp; try omega) _).alloc (by simp; try omega) _)
  generalize ((((w).alloc (.cells #[.int .u8 0] 5)).alloc (.cells #[.int .u8 47] 5)).alloc (.cells #[.int .i64 255] 3)).alloc (.cells #[.func (.func 16) #[] #[], .func (.func 48) #[] #[.pointer (some ⟨w.heap.size, 0, none⟩)], .func (.func 48) #[] #[.pointer (some ⟨w.heap.size + 1, 0, none⟩)], .func (.func 50) #[] #[.pointer (some ⟨w.heap.size + 1 + 1, 0, none⟩)]] 46) = w1 at *
  refine (first_name s _ _ _ _ w1 h0 h1 h2 h3 k0 k1 k2).mono ?_
  rintro e w' ⟨rfl, hw'⟩
  subst w'
  go_wp2
  go_ret
  exact ⟨rfl, hB⟩

set_option maxRecDepth 100000 in
set_option maxHeartbeats 1000000 in
theorem path_any (s : ByteArray) (w : World) : Calls Tryd.prog 10 #[.string s] w fun e w' => e = .returned (.int .u32 (pathE s)) ∧ Below w.heap.size w w' := by
  go_enter Tryd.func10, Tryd.ntmps10
  go_wp2_with fail
  refine (has_any 0 _).mono ?_
  rintro e w' ⟨rfl, hw'⟩
  subst w'
  go_wp2_with fail
  refine (longer_any 1024 _).mono ?_
  rintro e w' ⟨rfl, hw'⟩
  subst w'
  go_wp2_with fail
  have k0 : ((((w).alloc (.cells #[.int .u8 0] 5)).alloc (.cells #[.int .i64 1024] 3)).alloc (.cells #[.func (.func 16) #[] #[], .func (.func 48) #[] #[.pointer (some ⟨w.heap.size, 0, none⟩)], .func (.func 50) #[] #[.pointer (some ⟨w.heap.size + 1, 0, none⟩)]] 50)).cell? ⟨w.heap.size, 0, none⟩ = some (.int .u8 0) := by
    refine (cell_old (by simp; try omega) _ _).trans ?_
    refine (cell_old (by simp; try omega) _ _).trans ?_
    exact cell_new (by simp) _ _ _ (by rfl)
  have k1 : ((((w).alloc (.cells #[.int .u8 0] 5)).alloc (.cells #[.int .i64 1024] 3)).alloc (.cells #[.func (.func 16) #[] #[], .func (.func 48) #[] #[.pointer (some ⟨w.heap.size, 0, none⟩)], .func (.func 50) #[] #[.pointer (some ⟨w.heap.size + 1, 0, none⟩)]] 50)).cell? ⟨w.heap.size + 1, 0, none⟩ = some (.int .i64 1024) := by
    refine (cell_old (by simp; try omega) _ _).trans ?_
    exact cell_new (by simp) _ _ _ (by rfl)
  have h0 : ((((w).alloc (.cells #[.int .u8 0] 5)).alloc (.cells #[.int .i64 1024] 3)).alloc (.cells #[.func (.func 16) #[] #[], .func (.func 48) #[] #[.pointer (some ⟨w.heap.size, 0, none⟩)], .func (.func 50) #[] #[.pointer (some ⟨w.heap.size + 1, 0, none⟩)]] 50)).cell? ⟨w.heap.size + 1 + 1, 0, none⟩ = some (.func (.func 16) #[] #[]) := cell_new (by simp) _ _ _ (by rfl)
  have h1 : ((((w).alloc (.cells #[.int .u8 0] 5)).alloc (.cells #[.int .i64 1024] 3)).alloc (.cells #[.func (.func 16) #[] #[], .func (.func 48) #[] #[.pointer (some ⟨w.heap.size, 0, none⟩)], .func (.func 50) #[] #[.pointer (some ⟨w.heap.size + 1, 0, none⟩)]] 50)).cell? ⟨w.heap.size + 1 + 1, 1, none⟩ = some (.func (.func 48) #[] #[.pointer (some ⟨w.heap.size, 0, none⟩)]) := cell_new (by simp) _ _ _ (by rfl)
  have h2 : ((((w).alloc (.cells #[.int .u8 0] 5)).alloc (.cells #[.int .i64 1024] 3)).alloc (.cells #[.func (.func 16) #[] #[], .func (.func 48) #[] #[.pointer (some ⟨w.heap.size, 0, none⟩)], .func (.func 50) #[] #[.pointer (some ⟨w.heap.size + 1, 0, none⟩)]] 50)).cell? ⟨w.heap.size + 1 + 1, 2, none⟩ = some (.func (.func 50) #[] #[.pointer (some ⟨w.heap.size + 1, 0, none⟩)]) := cell_new (by simp) _ _ _ (by rfl)
  have hB : Below w.heap.size w ((((w).alloc (.cells #[.int .u8 0] 5)).alloc (.cells #[.int .i64 1024] 3)).alloc (.cells #[.func (.func 16) #[] #[], .func (.func 48) #[] #[.pointer (some ⟨w.heap.size, 0, none⟩)], .func (.func 50) #[] #[.pointer (some ⟨w.heap.size + 1, 0, none⟩)]] 50)) := ((((Below.refl _ _).alloc (Nat.le_refl _) _).alloc (by simp; try omega) _).alloc (by simp; try omega) _)
  generalize (((w).alloc (.cells #[.int .u8 0] 5)).alloc (.cells #[.int .i64 1024] 3)).alloc (.cells #[.func (.func 16) #[] #[], .func (.func 48) #[] #[.pointer (some ⟨w.heap.size, 0, none⟩)], .func (.func 50) #[] #[.pointer (some ⟨w.heap.size + 1, 0, none⟩)]] 50) = w1 at *
  refine (first_path s _ _ _ w1 h0 h1 h2 k0 k1).mono ?_
  rintro e w' ⟨rfl, hw'⟩
  subst w'
  go_wp2
  go_ret
  exact ⟨rfl, hB⟩

end Go.Proofs.YtmeampolndpjeaaDoor
