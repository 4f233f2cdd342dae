/- What a store, a draw, a call turns: plain words on worlds; nothing is claimed of the program here. -/
import Derived.Test.YtecbhhfncklefaaDoorBase
import Derived.Maps.AppendAt
import Derived.Test.YtecbhhfncklefaaDoorKokMathPNeedM
namespace Go.Proofs.YtecbhhfncklefaaDoor
set_option linter.unusedVariables false
open Go.RowKit

theorem grown_cell (W : World) (h i : Nat) (v : Value) : W.grownBy (W.setCell ⟨h, i, none⟩ v) (some h) :=
  ⟨rfl, rfl, rfl, by simp [World.setCell], fun k _ hne => Below.heap_setCell _ _ _ _ (fun e => hne (by rw [e]))⟩
theorem grown_same (W : World) (g : Option Nat) : W.grownBy W g := ⟨rfl, rfl, rfl, Nat.le_refl _, fun _ _ _ => rfl⟩
theorem grown_drew (W : World) (g : Option Nat) : W.grownBy W.drew g := ⟨rfl, rfl, rfl, Nat.le_refl _, fun _ _ _ => rfl⟩
theorem grown_below {W W' : World} (hb : Below W.heap.size W W') (g : Option Nat) : W.grownBy W' g := ⟨hb.os, hb.tape, hb.output, hb.size, fun k hk _ => hb.block k hk⟩
end Go.Proofs.YtecbhhfncklefaaDoor

/- The deferred closures of the program: what was left off is told as an error; nothing else turns. -/
namespace Go.Proofs.YtecbhhfncklefaaDoor
set_option linter.unusedVariables false
open Go.RowKit

theorem idle_put (p : Addr) (x : Int) (w : World) (hc : w.cell? p = some (.int .i64 x)) (hz : w.frozen? p = false) :
    CallsD Tryd.prog 35 #[.pointer (some p)] .returning w fun e u' w' => e = .returned (.tuple #[]) ∧ u' = .returning ∧ w' = w.setCell p (.int .i64 0) := by
  refine callsD_of_wpS Tryd.func35 rfl fun c₀ cs hu => ?_
  have hrec : recoverD (c₀ :: cs) = none := by simp [recoverD, hu]
  apply wpS_region
  simp [wpOpsS, go_sem, hrec, Tryd.ntmps35]
  refine (leftoff_none w).mono ?_
  rintro e w1 ⟨rfl, rfl⟩
  cases c₀
  simp_all [go_sem, Oper.upon, bodyPostS, results, Tryd.results35]
theorem caught_put (p : Addr) (x y : Int) (older : List PanicEntry) (w : World) (hc : w.cell? p = some (.int .i64 x)) (hz : w.frozen? p = false) :
    CallsD Tryd.prog 35 #[.pointer (some p)] (.panicking ({ v := .iface 30 (.int .i64 y), recovered := false } :: older)) w fun e u' w' =>
      e = .returned (.tuple #[]) ∧ u' = .panicking ({ v := .iface 30 (.int .i64 y), recovered := true } :: older) ∧ w' = w.setCell p (.int .i64 y) := by
  refine callsD_of_wpS Tryd.func35 rfl fun c₀ cs hu => ?_
  have hrec : recoverD (c₀ :: cs) = some (.iface 30 (.int .i64 y), { c₀ with mode := .panicking ({ v := .iface 30 (.int .i64 y), recovered := true } :: older) } :: cs) := by simp [recoverD, hu]
  apply wpS_region
  simp [wpOpsS, go_sem, hrec, Tryd.ntmps35]
  refine (leftoff_some y w).mono ?_
  rintro e w1 ⟨rfl, rfl⟩
  simp_all [go_sem, Oper.upon, bodyPostS, results, Tryd.results35]
end Go.Proofs.YtecbhhfncklefaaDoor
