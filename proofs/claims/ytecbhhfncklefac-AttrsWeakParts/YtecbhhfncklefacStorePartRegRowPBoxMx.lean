/- A part of a variable of a struct is stored: a law for the walk that hands on a letter; nothing is claimed of the program here. -/
import Derived.Test.YtecbhhfncklefacTmpRowPModeStoreFieldMx
import Derived.Test.YtecbhhfncklefacStoreWhole
import Derived.Deep.RegionHeld3
namespace Go.Proofs.Ytecbhhfncklefac
set_option linter.unusedVariables false
open Go.RowKit

theorem run_store_part {P : Program} (w : World) (g i : Nat) (t ty : TypeId) (old : Array Value) (vs : List Value) (hg : w.heap[g]? = some (.cells old t (0, 0))) (hi : (P.info? ty).map (·.size) = some vs.length) (hlt : i + vs.length ≤ old.size)
    (h1 : ∀ x ∈ vs, x.oneCell' = true) : (storeVar ty ⟨g, i, none⟩ (.agg vs.toArray)).run P w = .ok () (w.setRow g (old.toList.take i ++ vs ++ old.toList.drop (i + vs.length)).toArray) := by
  have := run_storeCells_at (P := P) g i t vs 0 old w hg (by omega) h1
  cases hq : P.info? ty with
  | none => simp [hq] at hi
  | some j =>
    have hs : j.size = vs.length := by simpa [hq] using hi
    simp only [Nat.add_zero] at this
    simp [storeVar, sizeOf, typeInfo, hq, Value.cells, hs, this]

/-- A part of a variable of a struct is stored. -/
theorem wpList_store_part {P : Program} {ops : Array Oper} {rest : List Oper} {op : Oper} {a : Act} {w : World} {Q : Exit → Act → World → Prop} (hgd : op.guard = none) (ty : TypeId) (x y : Operand) (ho : op.op = .store ty x y)
    (g i : Nat) (vs : List Value) (hx : a.eval x = .pointer (some ⟨g, i, none⟩)) (hy : a.eval y = .agg vs.toArray)
    (t : TypeId) (old : Array Value) (hg : w.heap[g]? = some (.cells old t (0, 0))) (hi : (P.info? ty).map (·.size) = some vs.length) (hlt : i + vs.length ≤ old.size)
    (h1 : ∀ x ∈ vs, x.oneCell' = true) (new : Array Value) (hnew : (old.toList.take i ++ vs ++ old.toList.drop (i + vs.length)).toArray = new)
    (h : ∀ w' : World, w'.heap[g]? = some (.cells new t (0, 0)) → w.grownBy w' (some g) → w'.heap.size = w.heap.size → wpList P ops Q rest (a.put op.dst undef) w') : wpList P ops Q (op :: rest) a w := by
  subst hnew
  refine wpList_plain hgd fun _ hK => ?_
  unfold Oper.wp execOp
  simp only [ho, hx, hy, Instr.storeAt, Instr.sureAddr, Sem.run_bind, Sem.run_pure, Result.andThen_ok, run_store_part w g i t ty old vs hg hi hlt h1]
  refine hK _ _ (h _ ?_ ⟨rfl, rfl, rfl, ?_, ?_⟩ ?_)
  · have hl := (Array.getElem?_eq_some_iff.1 hg).1
    simp [World.setRow, Array.getElem?_modify, hg]
  · simp [World.setRow]
  · intro j hj hne
    have : ¬ g = j := fun e => hne (by rw [e])
    simp [World.setRow, Array.getElem?_modify, this]
  · simp [World.setRow]
end Go.Proofs.Ytecbhhfncklefac

/- A whole variable is read at a step of a drawn region; nothing is claimed of the program here. -/
namespace Go.Proofs.Ytecbhhfncklefac
set_option linter.unusedVariables false
open Go.RowKit

theorem run_load_row {P : Program} {o : Oper} {a : Act} {w : World} (ty : TypeId) (x : Operand) (ho : o.op = .load ty x) (g : Nat) (hx : a.eval x = .pointer (some ⟨g, 0, none⟩)) (t : TypeId) (cs : Array Value) (fr : Nat × Nat) (d : TypeDesc)
    (hg : w.heap[g]? = some (.cells cs t fr)) (hu : P.underlying ty = some d) (hd : (match d with | .struct _ | .array _ _ => true | _ => false) = true) (hi : (P.info? ty).map (·.size) = some cs.size) :
    (execOp a.eval o).run P w = .ok (.value (.agg cs)) w := by
  unfold execOp
  simp only [ho, hx, Instr.loadAt, Instr.sureAddr, Sem.run_bind, Sem.run_pure, Result.andThen_ok, run_loadVar_row w g t ty cs fr d hg hu hd hi]

/-- A whole variable is stored, the world behind it a letter. -/
theorem wp_store_letter {P : Program} {o : Oper} {a : Act} {w : World} {K : Act → World → Prop} {Q : Exit → Act → World → Prop} (ty : TypeId) (x y : Operand) (ho : o.op = .store ty x y)
    (g : Nat) (cells : Array Value) (hx : a.eval x = .pointer (some ⟨g, 0, none⟩)) (hy : a.eval y = .agg cells)
    (t : TypeId) (old : Array Value) (hg : w.heap[g]? = some (.cells old t (0, 0))) (hi : (P.info? ty).map (·.size) = some cells.size)
    (hold : old.size = cells.size) (h1 : cells.all (·.oneCell') = true)
    (h : ∀ w' : World, w'.heap[g]? = some (.cells cells t (0, 0)) → w.grownBy w' (some g) → w'.heap.size = w.heap.size → K (a.put o.dst undef) w') : o.wp P a w K Q := by
  refine wp_store_row ty x y ho g cells hx hy t old hg hi hold h1 (h _ ?_ ⟨rfl, rfl, rfl, ?_, ?_⟩ ?_)
  · have hl := (Array.getElem?_eq_some_iff.1 hg).1
    simp [World.setRow, Array.getElem?_modify, hg]
  · simp [World.setRow]
  · intro i hi' hne
    have : ¬ g = i := fun e => hne (by rw [e])
    simp [World.setRow, Array.getElem?_modify, this]
  · simp [World.setRow]
end Go.Proofs.Ytecbhhfncklefac

/- A variable of a struct beside the reader: what calls and stores make of the two; nothing is claimed of the program here. -/
namespace Go.Proofs.Ytecbhhfncklefac
set_option linter.unusedVariables false
open Go.RowKit

def noU8 (v : Value) : Bool := match v with | .int .u8 _ => false | _ => true
theorem no_u8 {cs : Array Value} (h : cs.all noU8 = true) : ∀ (i : Nat) (v : Value), cs[i]? = some v → ∀ n : Int, v ≠ Value.int .u8 n := by
  rintro i v hv n rfl
  obtain ⟨hi, hv⟩ := Array.getElem?_eq_some_iff.1 hv
  have := (Array.all_eq_true.1 h) i hi
  rw [hv] at this
  cases this

/-- The reader's box, and a variable made since. -/
structure Nd (W : World) (h : Nat) (a : Option Addr) (len cap : Nat) (zs : List Int) (q : Nat) (t : TypeId) (W1 : World) (s : Rd) (cs : Array Value) : Prop where
  g : W.grownBy W1 (some h)
  R : Rb W1 h a len cap zs s
  z : W1.heap[q]? = some (.cells cs t)

section
variable {W W1 W2 : World} {h : Nat} {a : Option Addr} {len cap : Nat} {zs : List Int} {q : Nat} {t : TypeId} {s s' : Rd} {cs cs' : Array Value}
theorem Nd.lt (n : Nd W h a len cap zs q t W1 s cs) : q < W1.heap.size := (Array.getElem?_eq_some_iff.1 n.z).1
theorem Nd.call (n : Nd W h a len cap zs q t W1 s cs) (hqh : q ≠ h) (hg : W1.grownBy W2 (some h)) (hR : Rb W2 h a len cap zs s') : Nd W h a len cap zs q t W2 s' cs :=
  ⟨n.g.trans hg, hR, (hg.block q n.lt (fun e => hqh (Option.some.inj e))).trans n.z⟩
theorem Nd.next (n : Nd W h a len cap zs q t W1 s cs) (hb : Below W1.heap.size W1 W2) : Nd W h a len cap zs q t W2 s cs :=
  ⟨n.g.trans (grown_below hb (some h)), n.R.next hb, (hb.block q n.lt).trans n.z⟩
theorem Nd.store (n : Nd W h a len cap zs q t W1 s cs) (hqh : q ≠ h) (hq : W.heap.size ≤ q) (hc : cs.all noU8 = true) (hr : W2.heap[q]? = some (.cells cs' t)) (hg : W1.grownBy W2 (some q)) : Nd W h a len cap zs q t W2 s cs' :=
  ⟨n.g.andThen hg (fun j e => .inl (by have := Option.some.inj e; omega)), n.R.other hg hqh (seg_past n.R.seg n.z (no_u8 hc) hg), hr⟩
/-- Another block turns. -/
theorem Nd.far (n : Nd W h a len cap zs q t W1 s cs) {g : Nat} {t' : TypeId} {ds : Array Value} (hgh : g ≠ h) (hgq : g ≠ q) (hg0 : W.heap.size ≤ g) (hz : W1.heap[g]? = some (.cells ds t')) (hc : ds.all noU8 = true) (hg : W1.grownBy W2 (some g)) : Nd W h a len cap zs q t W2 s cs :=
  ⟨n.g.andThen hg (fun j e => .inl (by have := Option.some.inj e; omega)), n.R.other hg hgh (seg_past n.R.seg hz (no_u8 hc) hg), (hg.block q n.lt (fun e => hgq (Option.some.inj e).symm)).trans n.z⟩
end

/-- As wpList_store_part, wpList_store_field: at a step of a drawn region. -/
theorem wp_part_letter {P : Program} {o : Oper} {a : Act} {w : World} {K : Act → World → Prop} {Q : Exit → Act → World → Prop} (ty : TypeId) (x y : Operand) (ho : o.op = .store ty x y)
    (g i : Nat) (vs : List Value) (hx : a.eval x = .pointer (some ⟨g, i, none⟩)) (hy : a.eval y = .agg vs.toArray)
    (t : TypeId) (old : Array Value) (hg : w.heap[g]? = some (.cells old t (0, 0))) (hi : (P.info? ty).map (·.size) = some vs.length) (hlt : i + vs.length ≤ old.size)
    (h1 : ∀ x ∈ vs, x.oneCell' = true) (new : Array Value) (hnew : (old.toList.take i ++ vs ++ old.toList.drop (i + vs.length)).toArray = new)
    (h : ∀ w' : World, w'.heap[g]? = some (.cells new t (0, 0)) → w.grownBy w' (some g) → w'.heap.size = w.heap.size → K (a.put o.dst undef) w') : o.wp P a w K Q := by
  subst hnew
  unfold Oper.wp execOp
  simp only [ho, hx, hy, Instr.storeAt, Instr.sureAddr, Sem.run_bind, Sem.run_pure, Result.andThen_ok, run_store_part w g i t ty old vs hg hi hlt h1]
  refine h _ ?_ ⟨rfl, rfl, rfl, ?_, ?_⟩ ?_
  · have hl := (Array.getElem?_eq_some_iff.1 hg).1
    simp [World.setRow, Array.getElem?_modify, hg]
  · simp [World.setRow]
  · intro j hj hne
    have : ¬ g = j := fun e => hne (by rw [e])
    simp [World.setRow, Array.getElem?_modify, this]
  · simp [World.setRow]
theorem wp_field_letter {P : Program} {o : Oper} {a : Act} {w : World} {K : Act → World → Prop} {Q : Exit → Act → World → Prop} (ty : TypeId) (x y : Operand) (ho : o.op = .store ty x y)
    (g i : Nat) (v : Value) (hx : a.eval x = .pointer (some ⟨g, i, none⟩)) (hy : a.eval y = v)
    (t : TypeId) (old : Array Value) (hg : w.heap[g]? = some (.cells old t (0, 0))) (hi : (P.info? ty).map (·.size) = some 1) (hlt : i < old.size)
    (h1 : v.oneCell' = true) (new : Array Value) (hnew : (old.toList.take i ++ [v] ++ old.toList.drop (i + 1)).toArray = new)
    (h : ∀ w' : World, w'.heap[g]? = some (.cells new t (0, 0)) → w.grownBy w' (some g) → w'.heap.size = w.heap.size → K (a.put o.dst undef) w') : o.wp P a w K Q := by
  subst hnew
  unfold Oper.wp execOp
  simp only [ho, hx, hy, Instr.storeAt, Instr.sureAddr, Sem.run_bind, Sem.run_pure, Result.andThen_ok, run_store_field w g i t ty old v hg hi hlt h1]
  refine h _ ?_ ⟨rfl, rfl, rfl, ?_, ?_⟩ ?_
  · have hl := (Array.getElem?_eq_some_iff.1 hg).1
    simp [World.setRow, Array.getElem?_modify, hg]
  · simp [World.setRow]
  · intro j hj hne
    have : ¬ g = j := fun e => hne (by rw [e])
    simp [World.setRow, Array.getElem?_modify, this]
  · simp [World.setRow]
end Go.Proofs.Ytecbhhfncklefac
