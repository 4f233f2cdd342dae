/- The deferred closures of the program: what was left off is told as an error; nothing else turns. -/
import Derived.Test.YtecbhhfncklefacKokMathPNeedGrownCellRead4Mx
import Derived.Test.YtecbhhfncklefacStoreWhole
import Derived.Test.YtecbhhfncklefacStorePartRegRowPBoxMx
namespace Go.Proofs.Ytecbhhfncklefac
set_option linter.unusedVariables false
open Go.RowKit

theorem idle_geta (p : Addr) (x : Int) (w : World) (hc : w.cell? p = some (.int .i64 x)) (hz : w.frozen? p = false) :
    CallsD Try.prog 47 #[.pointer (some p)] .returning w fun e u' w' => e = .returned (.tuple #[]) ∧ u' = .returning ∧ w' = w.setCell p (.int .i64 0) := by
  refine callsD_of_wpS Try.func47 rfl fun c₀ cs hu => ?_
  have hrec : recoverD (c₀ :: cs) = none := by simp [recoverD, hu]
  apply wpS_region
  simp [wpOpsS, go_sem, hrec, Try.ntmps47]
  refine (leftoff_none w).mono ?_
  rintro e w1 ⟨rfl, rfl⟩
  cases c₀
  simp_all [go_sem, Oper.upon, bodyPostS, results, Try.results47]
theorem caught_geta (p : Addr) (x y : Int) (older : List PanicEntry) (w : World) (hc : w.cell? p = some (.int .i64 x)) (hz : w.frozen? p = false) :
    CallsD Try.prog 47 #[.pointer (some p)] (.panicking ({ v := .iface 31 (.int .i64 y), recovered := false } :: older)) w fun e u' w' =>
      e = .returned (.tuple #[]) ∧ u' = .panicking ({ v := .iface 31 (.int .i64 y), recovered := true } :: older) ∧ w' = w.setCell p (.int .i64 y) := by
  refine callsD_of_wpS Try.func47 rfl fun c₀ cs hu => ?_
  have hrec : recoverD (c₀ :: cs) = some (.iface 31 (.int .i64 y), { c₀ with mode := .panicking ({ v := .iface 31 (.int .i64 y), recovered := true } :: older) } :: cs) := by simp [recoverD, hu]
  apply wpS_region
  simp [wpOpsS, go_sem, hrec, Try.ntmps47]
  refine (leftoff_some y w).mono ?_
  rintro e w1 ⟨rfl, rfl⟩
  simp_all [go_sem, Oper.upon, bodyPostS, results, Try.results47]

end Go.Proofs.Ytecbhhfncklefac

/- The answer of a function: a variable, a slot and a number's variable; nothing is claimed of the program here. -/
namespace Go.Proofs.Ytecbhhfncklefac
set_option linter.unusedVariables false
open Go.RowKit

theorem results_row_tmp_cell {P : Program} {fn : Func} {p u q : Tmp} {ty te : TypeId} (h : fn.results = #[.cell p ty, .tmp u, .cell q te]) (tmps : Array Value) (w : World) (g k : Nat) (t : TypeId) (cs : Array Value) (fr : Nat × Nat) (d : TypeDesc) (x : Value)
    (hp : tmps.getD p undef = .pointer (some ⟨g, 0, none⟩)) (hq : tmps.getD q undef = .pointer (some ⟨k, 0, none⟩)) (hg : w.heap[g]? = some (.cells cs t fr)) (hu : P.underlying ty = some d) (hd : (match d with | .struct _ | .array _ _ => true | _ => false) = true) (hi : (P.info? ty).map (·.size) = some cs.size)
    (hk : (loadVar te ⟨k, 0, none⟩).run P w = .ok x w) :
    (results fn tmps).run P w = .ok (.tuple #[.agg cs, tmps.getD u undef, x]) w := by
  have h1 : (results fn tmps).run P w = ((asAddr (tmps.getD p undef)).run P w).andThen fun a w₁ => ((loadVar ty a).run P w₁).andThen fun x w₂ => ((asAddr (tmps.getD q undef)).run P w₂).andThen fun b w₃ => ((loadVar te b).run P w₃).andThen fun y w₄ => .ok (.tuple #[x, tmps.getD u undef, y]) w₄ := by
    simp only [results, h]
    simp [Sem.run_bind, Result.andThen]
  rw [h1, hp, hq]
  simp only [asAddr, Sem.run_pure, Result.andThen_ok, run_loadVar_row w g t ty cs fr d hg hu hd hi, hk]
end Go.Proofs.Ytecbhhfncklefac

/- An error's variable is read; nothing is claimed of the program here. -/
namespace Go.Proofs.Ytecbhhfncklefac
set_option linter.unusedVariables false
open Go.RowKit

theorem sz_err : (Try.prog.info? 31).map (·.size) = some 1 := by kernel_rfl
theorem load_err {w : World} {k : Nat} {x : Int} (h : w.heap[k]? = some (.cells #[.int .i64 x] 31)) : (loadVar 31 ⟨k, 0, none⟩).run Try.prog w = .ok (.int .i64 x) w := by
  have c : w.cell? ⟨k, 0, none⟩ = some (.int .i64 x) := by simp [World.cell?, h]
  simp [go_sem, c]

end Go.Proofs.Ytecbhhfncklefac

/- The answer of a function: a variable and two slots; nothing is claimed of the program here. -/
namespace Go.Proofs.Ytecbhhfncklefac
set_option linter.unusedVariables false
open Go.RowKit

theorem results_row_tmp2 {P : Program} {fn : Func} {p u v : Tmp} {ty : TypeId} (h : fn.results = #[.cell p ty, .tmp u, .tmp v]) (tmps : Array Value) (w : World) (g : Nat) (t : TypeId) (cs : Array Value) (fr : Nat × Nat) (d : TypeDesc)
    (hp : tmps.getD p undef = .pointer (some ⟨g, 0, none⟩)) (hg : w.heap[g]? = some (.cells cs t fr)) (hu : P.underlying ty = some d) (hd : (match d with | .struct _ | .array _ _ => true | _ => false) = true) (hi : (P.info? ty).map (·.size) = some cs.size) :
    (results fn tmps).run P w = .ok (.tuple #[.agg cs, tmps.getD u undef, tmps.getD v undef]) w := by
  have h1 : (results fn tmps).run P w = ((asAddr (tmps.getD p undef)).run P w).andThen fun a w₁ => ((loadVar ty a).run P w₁).andThen fun x w₂ => .ok (.tuple #[x, tmps.getD u undef, tmps.getD v undef]) w₂ := by
    simp only [results, h]
    simp [Sem.run_bind, Result.andThen]
  rw [h1, hp]
  simp only [asAddr, Sem.run_pure, Result.andThen_ok, run_loadVar_row w g t ty cs fr d hg hu hd hi]
end Go.Proofs.Ytecbhhfncklefac
