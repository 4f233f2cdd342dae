/- The deferred closures of the program: what was left off is told as an error; nothing else turns. -/
import Derived.Test.YtecbhhfncklefaaPNeed
namespace Go.Proofs.Ytecbhhfncklefaa
set_option linter.unusedVariables false
open Go.RowKit

theorem idle_geta (p : Addr) (x : Int) (w : World) (hc : w.cell? p = some (.int .i64 x)) (hz : w.frozen? p = false) :
    CallsD Try.prog 27 #[.pointer (some p)] .returning w fun e u' w' => e = .returned (.tuple #[]) ∧ u' = .returning ∧ w' = w.setCell p (.int .i64 0) := by
  refine callsD_of_wpS Try.func27 rfl fun c₀ cs hu => ?_
  have hrec : recoverD (c₀ :: cs) = none := by simp [recoverD, hu]
  apply wpS_region
  simp [wpOpsS, go_sem, hrec, Try.ntmps27]
  refine (leftoff_none w).mono ?_
  rintro e w1 ⟨rfl, rfl⟩
  cases c₀
  simp_all [go_sem, Oper.upon, bodyPostS, results, Try.results27]
theorem caught_geta (p : Addr) (x y : Int) (older : List PanicEntry) (w : World) (hc : w.cell? p = some (.int .i64 x)) (hz : w.frozen? p = false) :
    CallsD Try.prog 27 #[.pointer (some p)] (.panicking ({ v := .iface 32 (.int .i64 y), recovered := false } :: older)) w fun e u' w' =>
      e = .returned (.tuple #[]) ∧ u' = .panicking ({ v := .iface 32 (.int .i64 y), recovered := true } :: older) ∧ w' = w.setCell p (.int .i64 y) := by
  refine callsD_of_wpS Try.func27 rfl fun c₀ cs hu => ?_
  have hrec : recoverD (c₀ :: cs) = some (.iface 32 (.int .i64 y), { c₀ with mode := .panicking ({ v := .iface 32 (.int .i64 y), recovered := true } :: older) } :: cs) := by simp [recoverD, hu]
  apply wpS_region
  simp [wpOpsS, go_sem, hrec, Try.ntmps27]
  refine (leftoff_some y w).mono ?_
  rintro e w1 ⟨rfl, rfl⟩
  simp_all [go_sem, Oper.upon, bodyPostS, results, Try.results27]

theorem idle_gets (p : Addr) (x : Int) (w : World) (hc : w.cell? p = some (.int .i64 x)) (hz : w.frozen? p = false) :
    CallsD Try.prog 41 #[.pointer (some p)] .returning w fun e u' w' => e = .returned (.tuple #[]) ∧ u' = .returning ∧ w' = w.setCell p (.int .i64 0) := by
  refine callsD_of_wpS Try.func41 rfl fun c₀ cs hu => ?_
  have hrec : recoverD (c₀ :: cs) = none := by simp [recoverD, hu]
  apply wpS_region
  simp [wpOpsS, go_sem, hrec, Try.ntmps41]
  refine (leftoff_none w).mono ?_
  rintro e w1 ⟨rfl, rfl⟩
  cases c₀
  simp_all [go_sem, Oper.upon, bodyPostS, results, Try.results41]
theorem caught_gets (p : Addr) (x y : Int) (older : List PanicEntry) (w : World) (hc : w.cell? p = some (.int .i64 x)) (hz : w.frozen? p = false) :
    CallsD Try.prog 41 #[.pointer (some p)] (.panicking ({ v := .iface 32 (.int .i64 y), recovered := false } :: older)) w fun e u' w' =>
      e = .returned (.tuple #[]) ∧ u' = .panicking ({ v := .iface 32 (.int .i64 y), recovered := true } :: older) ∧ w' = w.setCell p (.int .i64 y) := by
  refine callsD_of_wpS Try.func41 rfl fun c₀ cs hu => ?_
  have hrec : recoverD (c₀ :: cs) = some (.iface 32 (.int .i64 y), { c₀ with mode := .panicking ({ v := .iface 32 (.int .i64 y), recovered := true } :: older) } :: cs) := by simp [recoverD, hu]
  apply wpS_region
  simp [wpOpsS, go_sem, hrec, Try.ntmps41]
  refine (leftoff_some y w).mono ?_
  rintro e w1 ⟨rfl, rfl⟩
  simp_all [go_sem, Oper.upon, bodyPostS, results, Try.results41]

theorem idle_getw (p : Addr) (x : Int) (w : World) (hc : w.cell? p = some (.int .i64 x)) (hz : w.frozen? p = false) :
    CallsD Try.prog 50 #[.pointer (some p)] .returning w fun e u' w' => e = .returned (.tuple #[]) ∧ u' = .returning ∧ w' = w.setCell p (.int .i64 0) := by
  refine callsD_of_wpS Try.func50 rfl fun c₀ cs hu => ?_
  have hrec : recoverD (c₀ :: cs) = none := by simp [recoverD, hu]
  apply wpS_region
  simp [wpOpsS, go_sem, hrec, Try.ntmps50]
  refine (leftoff_none w).mono ?_
  rintro e w1 ⟨rfl, rfl⟩
  cases c₀
  simp_all [go_sem, Oper.upon, bodyPostS, results, Try.results50]
theorem caught_getw (p : Addr) (x y : Int) (older : List PanicEntry) (w : World) (hc : w.cell? p = some (.int .i64 x)) (hz : w.frozen? p = false) :
    CallsD Try.prog 50 #[.pointer (some p)] (.panicking ({ v := .iface 32 (.int .i64 y), recovered := false } :: older)) w fun e u' w' =>
      e = .returned (.tuple #[]) ∧ u' = .panicking ({ v := .iface 32 (.int .i64 y), recovered := true } :: older) ∧ w' = w.setCell p (.int .i64 y) := by
  refine callsD_of_wpS Try.func50 rfl fun c₀ cs hu => ?_
  have hrec : recoverD (c₀ :: cs) = some (.iface 32 (.int .i64 y), { c₀ with mode := .panicking ({ v := .iface 32 (.int .i64 y), recovered := true } :: older) } :: cs) := by simp [recoverD, hu]
  apply wpS_region
  simp [wpOpsS, go_sem, hrec, Try.ntmps50]
  refine (leftoff_some y w).mono ?_
  rintro e w1 ⟨rfl, rfl⟩
  simp_all [go_sem, Oper.upon, bodyPostS, results, Try.results50]
end Go.Proofs.Ytecbhhfncklefaa
