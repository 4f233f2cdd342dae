/- What a store, a draw, a call turns: plain words on worlds; nothing is claimed of the program here. -/
import Derived.Test.YtecbhhfncklefaaDoorBase
import Derived.Maps.AppendAt
import Derived.Test.YtecbhhfncklefaaDoorTimeEqKokMathPNeedPiecesMx
import Derived.Test.YtecbhhfncklefaaDoorPRowMx
import Derived.Test.YtecbhhfncklefaaDoorAttrMath2
namespace Go.Proofs.YtecbhhfncklefaaDoor
set_option linter.unusedVariables false
open Go.RowKit

theorem grown_cell (W : World) (h i : Nat) (v : Value) : W.grownBy (W.setCell ⟨h, i, none⟩ v) (some h) :=
  ⟨rfl, rfl, rfl, by simp [World.setCell], fun k _ hne => Below.heap_setCell _ _ _ _ (fun e => hne (by rw [e]))⟩
theorem grown_same (W : World) (g : Option Nat) : W.grownBy W g := ⟨rfl, rfl, rfl, Nat.le_refl _, fun _ _ _ => rfl⟩
theorem grown_drew (W : World) (g : Option Nat) : W.grownBy W.drew g := ⟨rfl, rfl, rfl, Nat.le_refl _, fun _ _ _ => rfl⟩
theorem grown_below {W W' : World} (hb : Below W.heap.size W W') (g : Option Nat) : W.grownBy W' g := ⟨hb.os, hb.tape, hb.output, hb.size, fun k hk _ => hb.block k hk⟩
end Go.Proofs.YtecbhhfncklefaaDoor

/- The deferred closures of the program: what was left off is told as an error; nothing else turns. -/
namespace Go.Proofs.YtecbhhfncklefaaDoor
set_option linter.unusedVariables false
open Go.RowKit

theorem idle_put (p : Addr) (x : Int) (w : World) (hc : w.cell? p = some (.int .i64 x)) (hz : w.frozen? p = false) :
    CallsD Tryd.prog 35 #[.pointer (some p)] .returning w fun e u' w' => e = .returned (.tuple #[]) ∧ u' = .returning ∧ w' = w.setCell p (.int .i64 0) := by
  refine callsD_of_wpS Tryd.func35 rfl fun c₀ cs hu => ?_
  have hrec : recoverD (c₀ :: cs) = none := by simp [recoverD, hu]
  apply wpS_region
  simp [wpOpsS, go_sem, hrec, Tryd.ntmps35]
  refine (leftoff_none w).mono ?_
  rintro e w1 ⟨rfl, rfl⟩
  cases c₀
  simp_all [go_sem, Oper.upon, bodyPostS, results, Tryd.results35]
theorem caught_put (p : Addr) (x y : Int) (older : List PanicEntry) (w : World) (hc : w.cell? p = some (.int .i64 x)) (hz : w.frozen? p = false) :
    CallsD Tryd.prog 35 #[.pointer (some p)] (.panicking ({ v := .iface 30 (.int .i64 y), recovered := false } :: older)) w fun e u' w' =>
      e = .returned (.tuple #[]) ∧ u' = .panicking ({ v := .iface 30 (.int .i64 y), recovered := true } :: older) ∧ w' = w.setCell p (.int .i64 y) := by
  refine callsD_of_wpS Tryd.func35 rfl fun c₀ cs hu => ?_
  have hrec : recoverD (c₀ :: cs) = some (.iface 30 (.int .i64 y), { c₀ with mode := .panicking ({ v := .iface 30 (.int .i64 y), recovered := true } :: older) } :: cs) := by simp [recoverD, hu]
  apply wpS_region
  simp [wpOpsS, go_sem, hrec, Tryd.ntmps35]
  refine (leftoff_some y w).mono ?_
  rintro e w1 ⟨rfl, rfl⟩
  simp_all [go_sem, Oper.upon, bodyPostS, results, Tryd.results35]
end Go.Proofs.YtecbhhfncklefaaDoor

/- 'put' of the program: parts, all of them or none; what was left off is told as an error; nothing that was there turns. -/
namespace Go.Proofs.YtecbhhfncklefaaDoor
set_option linter.unusedVariables false
open Go.RowKit


set_option maxRecDepth 100000 in
set_option maxHeartbeats 1000000 in
theorem ptput_any (xs : List Tl) (b n cap : Nat) (w : World) (hn : xs.length = n) (hn0 : 0 < n) (hnm : n ≤ 1000) (hm : (allZ xs).length ≤ 1000000)
    (hc : ∀ i, (hi : i < xs.length) → w.cell? ⟨b, i, none⟩ = some xs[i].v) (ht : ∀ x ∈ xs, x.At w) :
    Calls Tryd.prog 13 #[.slice (some ⟨b, 0, none⟩) n cap] w fun e w' => ∃ v, e = .returned (.tuple #[v, .int .i64 (paE (allM xs))]) ∧
      w'.ownsRow w.heap.size 5 1 v (paZ (allM xs) (allZ xs)).length ((paZ (allM xs) (allZ xs)).map (Value.int .u8)) ∧ Below w.heap.size w w' := by
  have hrow := fun W h1 h2 => row_any xs b n cap W hn hn0 hnm hm h1 h2
  generalize allM xs = M at hrow ⊢
  generalize allZ xs = Z at hrow ⊢
  have hmf : ∀ (fn : Fn) (first cap : Array Value) (w : World), (Instr.makeFunc fn first cap).run Tryd.prog w = .ok (.func fn first cap) w := fun _ _ _ _ => rfl
  have hB1 : Below w.heap.size w (w.alloc (.cells #[.int .i64 0] 30)) := (Below.refl _ _).alloc (Nat.le_refl _) _
  have hh1 := World.alloc_heap_new w (.cells #[.int .i64 0] 30)
  go_enter_defers Tryd.func13, Tryd.ntmps13
  go_wp2_with fail
  generalize (w.alloc (.cells #[.int .i64 0] 30)) = W1 at *
  refine (hrow W1 (fun i hi => (hB1.cell (p := ⟨b, i, none⟩) (World.block_lt_of_cell? _ _ (hc i hi))).trans (hc i hi)) (fun x hx => (ht x hx).next hB1)).mono ?_
  rintro e W2 ⟨v2, rfl, ⟨K, caps, rfl, hen, hcl⟩, hb2⟩
  have hB2 := hB1.trans (hb2.mono hB1.size)
  have hh2 := (hb2.block _ (Array.getElem?_eq_some_iff.1 hh1).1).trans hh1
  clear hrow hc ht hm
  go_wp2_with fail
  refine (hcl W2 (Below.refl _ _)).mono ?_
  rintro e W3 ⟨hb3, ⟨rfl, v3, rfl, ho3⟩ | ⟨rfl, rfl⟩⟩
  · have hB3 := hB2.trans (hb3.mono hB2.size)
    have hh3 := (hb3.block _ (Array.getElem?_eq_some_iff.1 hh2).1).trans hh2
    have c3 : W3.cell? ⟨w.heap.size, 0, none⟩ = some (.int .i64 0) := by simp [World.cell?, hh3]
    have f3 : W3.frozen? ⟨w.heap.size, 0, none⟩ = false := by simp [World.frozen?, hh3]
    have hlt2 : w.heap.size < W2.heap.size := (Array.getElem?_eq_some_iff.1 hh2).1
    clear hcl hB1 hb2 hh1 hb3 hh2
    go_wp2
    refine leaves_cons (f := 35) (args := #[.pointer (some ⟨w.heap.size, 0, none⟩)]) (by simp) (by simp [go_sem]) ?_
    have h4 := setCell_same (k := 0) hh3 (.int .i64 0)
    have g4 := grown_cell W3 w.heap.size 0 (.int .i64 0)
    have o4 := ho3.kept g4 (.inr fun e => by have := own_low ho3 e; omega)
    have B4 := hB3.grown g4 hB3.size (fun k e => by cases e; omega)
    clear c3 f3 hh3 g4 ho3 hB3
    generalize W3.setCell ⟨w.heap.size, 0, none⟩ (.int .i64 0) = W4 at *
    refine (idle_put ⟨w.heap.size, 0, none⟩ 0 W4 (by simp [World.cell?, h4]) (by simp [World.frozen?, h4])).mono ?_
    rintro e u' w'' ⟨rfl, rfl, hw''⟩
    have h5 := setCell_same (k := 0) h4 (.int .i64 0)
    have g5 := grown_cell W4 w.heap.size 0 (.int .i64 0)
    have o5 := o4.kept g5 (.inr fun e => by have := own_low o4 e; omega)
    have B5 := B4.grown g5 B4.size (fun k e => by cases e; omega)
    rw [← hw''] at h5 o5 B5
    have c5 : w''.cell? ⟨w.heap.size, 0, none⟩ = some (.int .i64 0) := by simp [World.cell?, h5]
    clear hw'' h4 o4 B4 g5
    simp [Leaves, settle, results, Tryd.results13, go_sem, c5]
    exact ⟨_, ⟨rfl, rfl⟩, own_base o5 (Nat.le_of_lt hlt2), B5⟩
  · have hB3 := hB2.trans (hb3.mono hB2.size)
    have hh3 := (hb3.block _ (Array.getElem?_eq_some_iff.1 hh2).1).trans hh2
    have c3 : W3.cell? ⟨w.heap.size, 0, none⟩ = some (.int .i64 0) := by simp [World.cell?, hh3]
    have f3 : W3.frozen? ⟨w.heap.size, 0, none⟩ = false := by simp [World.frozen?, hh3]
    clear hcl hB1 hb2 hh1 hb3 hh2
    go_wp2
    refine leaves_cons (f := 35) (args := #[.pointer (some ⟨w.heap.size, 0, none⟩)]) (by simp) (by simp [go_sem]) ?_
    refine (caught_put ⟨w.heap.size, 0, none⟩ 0 1 [] _ c3 f3).mono ?_
    rintro e u' w'' ⟨rfl, rfl, hw''⟩
    have h5 := setCell_same (k := 0) hh3 (.int .i64 1)
    have g5 := grown_cell W3 w.heap.size 0 (.int .i64 1)
    have B5 := hB3.grown g5 hB3.size (fun k e => by cases e; omega)
    rw [← hw''] at h5 B5
    have c5 : w''.cell? ⟨w.heap.size, 0, none⟩ = some (.int .i64 1) := by simp [World.cell?, h5]
    clear hw'' g5 c3 f3 hh3 hB3
    simp [Leaves, settle, results, Tryd.results13, go_sem, c5]
    exact ⟨_, ⟨rfl, rfl⟩, own_empty _ _ _, B5⟩
end Go.Proofs.YtecbhhfncklefaaDoor
