/- Of which kind may a node be? Plain mathematics. -/
import Derived.Test.YtecbhhfncklefabAttrMathM
import Derived.Test.YtecbhhfncklefabACellTimeEqM
import Derived.Defers
import Derived.Recover
import Derived.WalkSmall
import Derived.WalkLawsBesides
import Derived.Test.YtecbhhfncklefabRows
import Derived.Test.YtecbhhfncklefabBase
import Derived.Outline
import Derived.Maps.AppendAt
import Derived.Lib.AppendZeros
namespace Go.Proofs.Ytecbhhfncklefab
set_option linter.unusedVariables false

theorem kok_cases {k : Int} : ((k == 1) = true ∧ kok k = true) ∨ ((k == 1) = false ∧ (k == 2) = true ∧ kok k = true) ∨ ((k == 1) = false ∧ (k == 2) = false ∧ (k == 5) = true ∧ kok k = true) ∨ ((k == 1) = false ∧ (k == 2) = false ∧ (k == 5) = false ∧ kok k = false) := by
  by_cases h1 : k = 1
  · exact .inl ⟨by simp [h1], by simp [kok, h1]⟩
  · by_cases h2 : k = 2
    · exact .inr (.inl ⟨by simp [h1], by simp [h2], by simp [kok, h2]⟩)
    · by_cases h5 : k = 5
      · exact .inr (.inr (.inl ⟨by simp [h1], by simp [h2], by simp [h5], by simp [kok, h5]⟩))
      · exact .inr (.inr (.inr ⟨by simp [h1], by simp [h2], by simp [h5], by simp [kok, h1, h2, h5]⟩))

end Go.Proofs.Ytecbhhfncklefab

/- 'need', 'isKind', 'leftOff' of the program: the first error leaves a call off, and is told; nothing turns. -/
namespace Go.Proofs.Ytecbhhfncklefab
set_option linter.unusedVariables false
open Go.RowKit

/-- A call that was left off with this error. -/
def bad (e : Int) : List PanicEntry := [{ v := .iface 32 (.int .i64 e), recovered := false }]
/-- The ending of a call that answers v, or was left off with the error e. -/
def Ends (e : Int) (v : Value) : Ending := if e = 0 then .returned v else .panicked (bad e)
theorem ends_ok (v : Value) : Ends 0 v = .returned v := rfl
theorem ends_bad {e : Int} (h : e ≠ 0) (v : Value) : Ends e v = .panicked (bad e) := by unfold Ends; rw [if_neg h]

theorem need_yes (x : Int) (w : World) : Calls Try.prog 43 #[.bool true, .int .i64 x] w fun e w' => e = .returned (.tuple #[]) ∧ w' = w := by
  go_enter Try.func43, Try.ntmps43
  go_wp2
  go_end0
  exact ⟨rfl, rfl⟩

theorem need_no (x : Int) (w : World) : Calls Try.prog 43 #[.bool false, .int .i64 x] w fun e w' => e = .panicked (bad x) ∧ w' = w := by
  go_enter Try.func43, Try.ntmps43
  go_wp2
  exact ⟨rfl, rfl, rfl⟩

theorem iskind_any (k : Int) (w : World) : Calls Try.prog 45 #[.int .u32 k] w fun e w' => e = .returned (.bool (kok k)) ∧ w' = w := by
  rcases kok_cases (k := k) with ⟨q1, r⟩ | ⟨q1, q2, r⟩ | ⟨q1, q2, q5, r⟩ | ⟨q1, q2, q5, r⟩ <;> rw [r] <;> clear r
  · go_enter Try.func45, Try.ntmps45
    go_wp2
    go_ret
    exact ⟨rfl, rfl⟩
  · go_enter Try.func45, Try.ntmps45
    go_wp2
    go_ret
    exact ⟨rfl, rfl⟩
  · go_enter Try.func45, Try.ntmps45
    go_wp2
    go_ret
    exact ⟨rfl, rfl⟩
  · go_enter Try.func45, Try.ntmps45
    go_wp2
    go_ret
    exact ⟨rfl, rfl⟩

theorem leftoff_none (w : World) : Calls Try.prog 38 #[.nilIface] w fun e w' => e = .returned (.int .i64 0) ∧ w' = w := by
  go_enter Try.func38, Try.ntmps38
  go_wp2
  go_ret
  exact ⟨rfl, rfl⟩

set_option maxRecDepth 100000 in
theorem leftoff_some (x : Int) (w : World) : Calls Try.prog 38 #[.iface 32 (.int .i64 x)] w fun e w' => e = .returned (.int .i64 x) ∧ w' = w := by
  have hta : ∀ w : World, (Instr.typeAssert (.iface 32 (.int .i64 x)) 20 32 true).run Try.prog w = .ok (.tuple #[.int .i64 x, .bool true]) w := fun w => by
    simp [Instr.typeAssert, go_sem]
  go_enter Try.func38, Try.ntmps38
  go_wp2
  go_ret
  exact ⟨rfl, rfl⟩
end Go.Proofs.Ytecbhhfncklefab

/- 'slices.Grow' of nil: an empty slice with room of its own (nil for none); nothing that was there turns. -/
namespace Go.Proofs.Ytecbhhfncklefab
set_option linter.unusedVariables false
open Go.RowKit

theorem infoG : (Try.prog.info? 5).map (fun i => (i.zero, i.size, i.bytes)) = some (some (.int .u8 0), 1, 1) := by kernel_rfl

set_option maxRecDepth 100000 in
set_option maxHeartbeats 400000 in
theorem grow_nil (n : Nat) (w : World) (hn : n ≤ 140737488355328) :
    Calls Try.prog 79 #[.slice none 0 0, .int .i64 (n : Int)] w fun e w' => ∃ v, e = .returned v ∧ w'.ownsRow w.heap.size 5 1 v 0 [] ∧ Below w.heap.size w w' := by
  obtain ⟨i0, hi, hz0, hz1, hz2⟩ := info_parts infoG
  by_cases h0 : n = 0
  · subst h0
    go_enter Try.func79, Try.ntmps79
    go_wp2
    go_ret
    exact ⟨_, rfl, ⟨rfl, .inl ⟨rfl, rfl⟩⟩, Below.refl _ _⟩
  · have hrun := Lib.run_append_nil_zeros (P := Try.prog) w 29 3 29 5 i0 (.int .u8 0) .i64 .i64 Try.underlying29 Try.underlying3 hi hz0 n (by omega) (by omega) (by omega) (by rw [hz2]; omega)
    have hg := grownCap_ge w n 0 5
    have hg2 := grownCap_le_maxLen w n 0 5 (by unfold maxLen; omega)
    go_enter Try.func79, Try.ntmps79
    go_wp2_with (at_builtin; refine Lib.wpList_append_run _ rfl _ _ _ _ rfl _ _ rfl rfl _ _ hrun ?_)
    go_ret
    have hB : Below w.heap.size w (w.alloc (.cells (Builtin.zeroCells #[.int .u8 0] n ++ Builtin.zeroCells #[.int .u8 0] (grownCap w n 0 5 - n)) 5)).drew := ((Below.refl _ _).alloc (Nat.le_refl _) _).drew
    refine ⟨_, rfl, ⟨rfl, .inr ⟨w.heap.size, grownCap w n 0 5, Builtin.zeroCells #[.int .u8 0] n ++ Builtin.zeroCells #[.int .u8 0] (grownCap w n 0 5 - n), rfl, Nat.le_refl _, ?_, Nat.zero_le _, hg2, ?_, rfl⟩⟩, hB⟩
    · show (w.heap.push _)[w.heap.size]? = _
      rw [Array.getElem?_push_size]
    · simp [size_zeroCells]
      omega
end Go.Proofs.Ytecbhhfncklefab
