/- 'need', 'isKind', 'leftOff' of the program: the first error leaves a call off, and is told; nothing turns. -/
import Derived.Test.YtecbhhfncklefabTimeEq
import Derived.Test.YtecbhhfncklefabKokMath
import Derived.Defers
import Derived.Recover
import Derived.WalkSmall
import Derived.WalkLawsBesides
namespace Go.Proofs.Ytecbhhfncklefab
set_option linter.unusedVariables false
open Go.RowKit

/-- A call that was left off with this error. -/
def bad (e : Int) : List PanicEntry := [{ v := .iface 32 (.int .i64 e), recovered := false }]
/-- The ending of a call that answers v, or was left off with the error e. -/
def Ends (e : Int) (v : Value) : Ending := if e = 0 then .returned v else .panicked (bad e)
theorem ends_ok (v : Value) : Ends 0 v = .returned v := rfl
theorem ends_bad {e : Int} (h : e ≠ 0) (v : Value) : Ends e v = .panicked (bad e) := by unfold Ends; rw [if_neg h]

theorem need_yes (x : Int) (w : World) : Calls Try.prog 43 #[.bool true, .int .i64 x] w fun e w' => e = .returned (.tuple #[]) ∧ w' = w := by
  go_enter Try.func43, Try.ntmps43
  go_wp2
  go_end0
  exact ⟨rfl, rfl⟩

theorem need_no (x : Int) (w : World) : Calls Try.prog 43 #[.bool false, .int .i64 x] w fun e w' => e = .panicked (bad x) ∧ w' = w := by
  go_enter Try.func43, Try.ntmps43
  go_wp2
  exact ⟨rfl, rfl, rfl⟩

theorem iskind_any (k : Int) (w : World) : Calls Try.prog 45 #[.int .u32 k] w fun e w' => e = .returned (.bool (kok k)) ∧ w' = w := by
  rcases kok_cases (k := k) with ⟨q1, r⟩ | ⟨q1, q2, r⟩ | ⟨q1, q2, q5, r⟩ | ⟨q1, q2, q5, r⟩ <;> rw [r] <;> clear r
  · go_enter Try.func45, Try.ntmps45
    go_wp2
    go_ret
    exact ⟨rfl, rfl⟩
  · go_enter Try.func45, Try.ntmps45
    go_wp2
    go_ret
    exact ⟨rfl, rfl⟩
  · go_enter Try.func45, Try.ntmps45
    go_wp2
    go_ret
    exact ⟨rfl, rfl⟩
  · go_enter Try.func45, Try.ntmps45
    go_wp2
    go_ret
    exact ⟨rfl, rfl⟩

theorem leftoff_none (w : World) : Calls Try.prog 38 #[.nilIface] w fun e w' => e = .returned (.int .i64 0) ∧ w' = w := by
  go_enter Try.func38, Try.ntmps38
  go_wp2
  go_ret
  exact ⟨rfl, rfl⟩

set_option maxRecDepth 100000 in
theorem leftoff_some (x : Int) (w : World) : Calls Try.prog 38 #[.iface 32 (.int .i64 x)] w fun e w' => e = .returned (.int .i64 x) ∧ w' = w := by
  have hta : ∀ w : World, (Instr.typeAssert (.iface 32 (.int .i64 x)) 20 32 true).run Try.prog w = .ok (.tuple #[.int .i64 x, .bool true]) w := fun w => by
    simp [Instr.typeAssert, go_sem]
  go_enter Try.func38, Try.ntmps38
  go_wp2
  go_ret
  exact ⟨rfl, rfl⟩
end Go.Proofs.Ytecbhhfncklefab
