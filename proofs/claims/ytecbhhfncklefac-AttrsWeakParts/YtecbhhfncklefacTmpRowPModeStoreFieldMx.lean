/- The answer of a function: a slot and a variable; nothing is claimed of the program here. -/
import Derived.Test.YtecbhhfncklefacStoreWhole
import Derived.Test.YtecbhhfncklefacPRdPNextMx
import Derived.Test.YtecbhhfncklefacPNextTMx
import Derived.Laws.CopyRow
import Derived.Deep.WholeRow
import Derived.WalkKit
namespace Go.Proofs.Ytecbhhfncklefac
set_option linter.unusedVariables false
open Go.RowKit

theorem results_tmp_row {P : Program} {fn : Func} {p u : Tmp} {ty : TypeId} (h : fn.results = #[.tmp u, .cell p ty]) (tmps : Array Value) (w : World) (g : Nat) (t : TypeId) (cs : Array Value) (fr : Nat × Nat) (d : TypeDesc)
    (hp : tmps.getD p undef = .pointer (some ⟨g, 0, none⟩)) (hg : w.heap[g]? = some (.cells cs t fr)) (hu : P.underlying ty = some d) (hd : (match d with | .struct _ | .array _ _ => true | _ => false) = true) (hi : (P.info? ty).map (·.size) = some cs.size) :
    (results fn tmps).run P w = .ok (.tuple #[tmps.getD u undef, .agg cs]) w := by
  have h1 : (results fn tmps).run P w = ((asAddr (tmps.getD p undef)).run P w).andThen fun a w₁ => ((loadVar ty a).run P w₁).andThen fun x w₂ => .ok (.tuple #[tmps.getD u undef, x]) w₂ := by
    simp only [results, h]
    simp [Sem.run_bind, Result.andThen]
  rw [h1, hp]
  simp only [asAddr, Sem.run_pure, Result.andThen_ok, run_loadVar_row w g t ty cs fr d hg hu hd hi]
end Go.Proofs.Ytecbhhfncklefac

/- 'mode', 'setting' and 'before' of the reader; nothing but the reader turns. -/
namespace Go.Proofs.Ytecbhhfncklefac
set_option linter.unusedVariables false
open Go.RowKit

theorem must_err {s : Rd} (b : Bool) (h : s.e ≠ 0) : must b s = s := by simp [must, h]
theorem must_yes (s : Rd) : must true s = s := by simp [must]
theorem must_no {s : Rd} (h : s.e = 0) : must false s = ⟨s.r, s.n, 5⟩ := by simp [must, h]

set_option maxRecDepth 100000 in
set_option maxHeartbeats 1000000 in
theorem rdmode_any : Reads 49 modeC (fun v => .int .u32 v) := by
  intro W h a len cap zs s R he
  have hn := rdnumber_any W h a len cap zs s R he
  go_enter Try.func49, Try.ntmps49
  go_wp2_with fail
  refine hn.mono ?_
  rintro e W' ⟨hg, v, s', haft, ⟨h0, rfl, hR⟩ | ⟨h0, rfl⟩⟩
  · have hm := aft_must (p := fun x => decide (x ≤ 4095)) haft
    clear hn R
    cases hle : decide (v ≤ 4095) with
    | true =>
      rw [hle, must_yes] at hm
      go_wp2_with (go_at_call 30; refine (need_yes _ _).mono ?_; rintro e w1 ⟨rfl, hw1⟩; subst w1)
      go_ret
      exact ⟨hg, v, s', hm, .inl ⟨h0, rfl, hR⟩⟩
    | false =>
      rw [hle, must_no h0] at hm
      go_wp2_with (go_at_call 30; refine (need_no _ _).mono ?_; rintro e w1 ⟨rfl, hw1⟩; subst w1)
      exact ⟨rfl, hg, v, _, hm, .inr ⟨by simp, rfl⟩⟩
  · have hm := aft_must (p := fun x => decide (x ≤ 4095)) haft
    rw [must_err _ h0] at hm
    clear hn R
    go_wp2
    exact ⟨rfl, hg, v, s', hm, .inr ⟨h0, rfl⟩⟩

def setV (x : Int × Int × Int) : Value := .tuple #[.int .u32 x.1, .agg #[.int .u32 x.2.1, .int .u32 x.2.2]]

theorem past_size : (Try.prog.info? 48).map (·.size) = some 5 := by kernel_rfl
def pasV (x : Int × (Int × Int) × (Int × Int)) : Value := .agg #[.int .u64 x.1, .int .u32 x.2.1.1, .int .u32 x.2.1.2, .int .u32 x.2.2.1, .int .u32 x.2.2.2]
/-- A block of numbers is none of bytes. -/
theorem seg_past {W W' : World} {q : Nat} {a : Option Addr} {zs : List Int} {cs : Array Value} {t : TypeId} (hs : Seg W a zs) (hb : W.heap[q]? = some (.cells cs t)) (hc : ∀ (i : Nat) (v : Value), cs[i]? = some v → ∀ n : Int, v ≠ Value.int .u8 n) (hg : W.grownBy W' (some q)) : Seg W' a zs := by
  rcases hs with hs | ⟨b, off, e, hcell⟩
  · exact .inl hs
  · refine .inr ⟨b, off, e, fun i hi => ?_⟩
    have h1 := hcell i hi
    have hne : b ≠ q := by
      rintro rfl
      simp only [World.cell?, hb] at h1
      exact hc (off + i) _ (by simpa using h1) _ rfl
    have hl := World.block_lt_of_cell? _ _ h1
    have hk := hg.block b hl (fun e => hne (Option.some.inj e))
    simp only [World.cell?] at h1 ⊢
    rw [hk]
    exact h1

end Go.Proofs.Ytecbhhfncklefac

/- A cell of a variable is stored, the world behind it a letter; nothing is claimed of the program here. -/
namespace Go.Proofs.Ytecbhhfncklefac
set_option linter.unusedVariables false
open Go.RowKit

theorem run_store_field {P : Program} (w : World) (g i : Nat) (t ty : TypeId) (old : Array Value) (v : Value) (hg : w.heap[g]? = some (.cells old t (0, 0))) (hi : (P.info? ty).map (·.size) = some 1) (hlt : i < old.size)
    (h1 : v.oneCell' = true) : (storeVar ty ⟨g, i, none⟩ v).run P w = .ok () (w.setRow g (old.toList.take i ++ [v] ++ old.toList.drop (i + 1)).toArray) := by
  have := run_storeCells_at (P := P) g i t [v] 0 old w hg (by simp; omega) (fun x hx => by simp at hx; subst hx; exact h1)
  have hc : v.cells = #[v] := by cases v <;> first | rfl | cases h1
  cases hq : P.info? ty with
  | none => simp [hq] at hi
  | some j =>
    have hs : j.size = 1 := by simpa [hq] using hi
    simp only [Nat.add_zero, List.length_singleton] at this
    simp [storeVar, sizeOf, typeInfo, hq, hc, hs, this]

theorem wpList_store_field {P : Program} {ops : Array Oper} {rest : List Oper} {op : Oper} {a : Act} {w : World} {Q : Exit → Act → World → Prop} (hgd : op.guard = none) (ty : TypeId) (x y : Operand) (ho : op.op = .store ty x y)
    (g i : Nat) (v : Value) (hx : a.eval x = .pointer (some ⟨g, i, none⟩)) (hy : a.eval y = v)
    (t : TypeId) (old : Array Value) (hg : w.heap[g]? = some (.cells old t (0, 0))) (hi : (P.info? ty).map (·.size) = some 1) (hlt : i < old.size)
    (h1 : v.oneCell' = true) (new : Array Value) (hnew : (old.toList.take i ++ [v] ++ old.toList.drop (i + 1)).toArray = new)
    (h : ∀ w' : World, w'.heap[g]? = some (.cells new t (0, 0)) → w.grownBy w' (some g) → w'.heap.size = w.heap.size → wpList P ops Q rest (a.put op.dst undef) w') : wpList P ops Q (op :: rest) a w := by
  subst hnew
  refine wpList_plain hgd fun _ hK => ?_
  unfold Oper.wp execOp
  simp only [ho, hx, hy, Instr.storeAt, Instr.sureAddr, Sem.run_bind, Sem.run_pure, Result.andThen_ok, run_store_field w g i t ty old v hg hi hlt h1]
  refine hK _ _ (h _ ?_ ⟨rfl, rfl, rfl, ?_, ?_⟩ ?_)
  · have hl := (Array.getElem?_eq_some_iff.1 hg).1
    simp [World.setRow, Array.getElem?_modify, hg]
  · simp [World.setRow]
  · intro j hj hne
    have : ¬ g = j := fun e => hne (by rw [e])
    simp [World.setRow, Array.getElem?_modify, this]
  · simp [World.setRow]
end Go.Proofs.Ytecbhhfncklefac
