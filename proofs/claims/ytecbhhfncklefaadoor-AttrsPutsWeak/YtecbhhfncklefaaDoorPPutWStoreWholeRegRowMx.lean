/- 'PutWeak' of the program: its bytes, in memory of their own, or refused; nothing that was there turns. -/
import Derived.Test.YtecbhhfncklefaaDoorPPersMx
import Derived.Test.YtecbhhfncklefaaDoorPNodeMx
import Derived.Test.YtecbhhfncklefaaDoorGrownCellPCatchPPutMx
import Derived.Test.YtecbhhfncklefaaDoorAForms
import Derived.Test.YtecbhhfncklefaaDoorWCell
import Derived.Test.YtecbhhfncklefaaDoorRows
import Derived.Test.YtecbhhfncklefaaDoorBase
import Derived.Laws.Tables
import Derived.Deep.RegionHeld3
namespace Go.Proofs.YtecbhhfncklefaaDoor
set_option linter.unusedVariables false
open Go.RowKit

theorem weak_m {x : Wk} {v1 v2 : Value} : allM [Tl.mk v1 (if x.hb then (tok x.wn && tok x.tn) else (x.size == 0 && (x.ws == 0 && x.wn == 0) && (x.ts == 0 && x.tn == 0))) (yB x.hb ++ if x.hb then bytesOf x.size 8 ++ (tB x.ws x.wn ++ tB x.ts x.tn) else []), Tl.mk v2 (if x.ha then amay x.af else az x.af) (yB x.ha ++ if x.ha then aB x.af else [])] = (wmay x) := by
  rw [Bool.eq_iff_iff]
  simp only [allM, List.all_cons, List.all_nil, Bool.and_true, wmay, Bool.and_eq_true, Bool.or_eq_true, beq_iff_eq]
  generalize (amay x.af = true) = P
  generalize (az x.af = true) = R
  cases x.hb <;> cases x.ha <;> simp [tok] <;> first | omega | grind
theorem weak_z {x : Wk} {v1 v2 : Value} : allZ [Tl.mk v1 (if x.hb then (tok x.wn && tok x.tn) else (x.size == 0 && (x.ws == 0 && x.wn == 0) && (x.ts == 0 && x.tn == 0))) (yB x.hb ++ if x.hb then bytesOf x.size 8 ++ (tB x.ws x.wn ++ tB x.ts x.tn) else []), Tl.mk v2 (if x.ha then amay x.af else az x.af) (yB x.ha ++ if x.ha then aB x.af else [])] = (wB x) := by
  simp only [allZ, List.flatMap_cons, List.flatMap_nil, List.append_nil]
  rfl

set_option maxRecDepth 100000 in
set_option maxHeartbeats 8000000 in
theorem wput_any : WPut 11 := by
  intro x w hx
  have hlen := (wB_bnd x).2.1
  obtain ⟨x1, x2, x3, x4, x5, haf⟩ := hx
  have a0 := Wp.new w x
  have hB0 : Below w.heap.size w (w.alloc (.cells #[.bool x.hb, .int .u64 x.size, .int .u32 x.ws, .int .u32 x.wn, .int .u32 x.ts, .int .u32 x.tn, .bool x.ha, .int .u32 x.af.kind, .int .u32 x.af.mode, .int .u32 x.af.links, .int .u32 x.af.user, .int .u32 x.af.group, .int .u64 x.af.size, .int .u64 x.af.used, .int .u64 x.af.id, .int .u32 x.af.rs, .int .u32 x.af.rn, .int .u32 x.af.ws, .int .u32 x.af.wn, .int .u32 x.af.ts, .int .u32 x.af.tn] 41)) := (Below.refl _ _).alloc (Nat.le_refl _) _
  go_enter Tryd.func11, Tryd.ntmps11
  go_wp2_with fail
  generalize (w.alloc (.cells #[.bool x.hb, .int .u64 x.size, .int .u32 x.ws, .int .u32 x.wn, .int .u32 x.ts, .int .u32 x.tn, .bool x.ha, .int .u32 x.af.kind, .int .u32 x.af.mode, .int .u32 x.af.links, .int .u32 x.af.user, .int .u32 x.af.group, .int .u64 x.af.size, .int .u64 x.af.used, .int .u64 x.af.id, .int .u32 x.af.rs, .int .u32 x.af.rn, .int .u32 x.af.ws, .int .u32 x.af.wn, .int .u32 x.af.ts, .int .u32 x.af.tn] 41)) = W0 at *
  have B0 := below_draw W0
  have S0 := (a0.next B0).c
  go_region_held3 (fun w' => w'.cell? ⟨w.heap.size, 0, none⟩ = some (.bool x.hb) ∧ w'.cell? ⟨w.heap.size, 1, none⟩ = some (.int .u64 x.size) ∧ w'.cell? ⟨w.heap.size, 2, none⟩ = some (.int .u32 x.ws) ∧ w'.cell? ⟨w.heap.size, 3, none⟩ = some (.int .u32 x.wn) ∧ w'.cell? ⟨w.heap.size, 4, none⟩ = some (.int .u32 x.ts) ∧ w'.cell? ⟨w.heap.size, 5, none⟩ = some (.int .u32 x.tn) ∧ w'.cell? ⟨w.heap.size, 6, none⟩ = some (.bool x.ha) ∧ w'.cell? ⟨w.heap.size, 7, none⟩ = some (.int .u32 x.af.kind) ∧ w'.cell? ⟨w.heap.size, 8, none⟩ = some (.int .u32 x.af.mode) ∧ w'.cell? ⟨w.heap.size, 9, none⟩ = some (.int .u32 x.af.links) ∧ w'.cell? ⟨w.heap.size, 10, none⟩ = some (.int .u32 x.af.user) ∧ w'.cell? ⟨w.heap.size, 11, none⟩ = some (.int .u32 x.af.group) ∧ w'.cell? ⟨w.heap.size, 12, none⟩ = some (.int .u64 x.af.size) ∧ w'.cell? ⟨w.heap.size, 13, none⟩ = some (.int .u64 x.af.used) ∧ w'.cell? ⟨w.heap.size, 14, none⟩ = some (.int .u64 x.af.id) ∧ w'.cell? ⟨w.heap.size, 15, none⟩ = some (.int .u32 x.af.rs) ∧ w'.cell? ⟨w.heap.size, 16, none⟩ = some (.int .u32 x.af.rn) ∧ w'.cell? ⟨w.heap.size, 17, none⟩ = some (.int .u32 x.af.ws) ∧ w'.cell? ⟨w.heap.size, 18, none⟩ = some (.int .u32 x.af.wn) ∧ w'.cell? ⟨w.heap.size, 19, none⟩ = some (.int .u32 x.af.ts) ∧ w'.cell? ⟨w.heap.size, 20, none⟩ = some (.int .u32 x.af.tn)) (first | with_reducible exact SR | with_reducible exact SA | with_reducible exact S2 | with_reducible exact S1 | with_reducible exact S0) (first
    | (go_at_call 13; have _g := B2; have hba : Below W2.heap.size W2 (W2.alloc (.cells #[.func (.func f1) #[] p1, .func (.func f2) #[] p2] 46)) := (Below.refl _ _).alloc (Nat.le_refl _) _; have k2 := u2.next hba; have C2 := hba; have C1 := b2.trans (C2.mono b2.size); have k1 := u1.next C1; refine (ptput_any [Tl.mk (.func (.func f1) #[] p1) (if x.hb then (tok x.wn && tok x.tn) else (x.size == 0 && (x.ws == 0 && x.wn == 0) && (x.ts == 0 && x.tn == 0))) (yB x.hb ++ if x.hb then bytesOf x.size 8 ++ (tB x.ws x.wn ++ tB x.ts x.tn) else []), Tl.mk (.func (.func f2) #[] p2) (if x.ha then amay x.af else az x.af) (yB x.ha ++ if x.ha then aB x.af else [])] W2.heap.size 2 2 (W2.alloc (.cells #[.func (.func f1) #[] p1, .func (.func f2) #[] p2] 46)) rfl (by omega) (by omega) (by rw [weak_z]; omega) (cells_tl W2 _ [Tl.mk (.func (.func f1) #[] p1) (if x.hb then (tok x.wn && tok x.tn) else (x.size == 0 && (x.ws == 0 && x.wn == 0) && (x.ts == 0 && x.tn == 0))) (yB x.hb ++ if x.hb then bytesOf x.size 8 ++ (tB x.ws x.wn ++ tB x.ts x.tn) else []), Tl.mk (.func (.func f2) #[] p2) (if x.ha then amay x.af else az x.af) (yB x.ha ++ if x.ha then aB x.af else [])]) (at_cons k1 (at_cons k2 (at_nil _)))).mono ?_; rw [weak_z, weak_m]; rintro e WR ⟨vr, rfl, tr, br⟩; have BR := (B2.trans (hba.mono B2.size)).trans (br.mono (B2.trans (hba.mono B2.size)).size); have SR := (a0.next BR).c)
    | (go_at_call 33; have _g := B1; refine (pera_any x.ha x.af _ (amay x.af) (aB x.af) (by rw [aB_length]; omega) (node_maker x.af haf) _).mono ?_; rintro e W2 ⟨_, rfl, ⟨f2, p2, rfl, t2⟩, b2⟩; have u2 : Tells W2 (.func (.func f2) #[] p2) (if x.ha then amay x.af else az x.af) (yB x.ha ++ if x.ha then aB x.af else []) := ⟨f2, p2, rfl, t2⟩; have B2 := B1.trans (b2.mono B1.size); have S2 := (a0.next B2).c; have hba : Below W2.heap.size W2 (W2.alloc (.cells #[.func (.func f1) #[] p1, .func (.func f2) #[] p2] 46)) := (Below.refl _ _).alloc (Nat.le_refl _) _; have SA := (a0.next (B2.trans (hba.mono B2.size))).c)
    | (go_at_call 31; have _g := B0; refine (perp_any x.hb x.size x.ws x.wn x.ts x.tn _ (tok x.wn && tok x.tn) (bytesOf x.size 8 ++ (tB x.ws x.wn ++ tB x.ts x.tn)) (by simp [bytesOf_length, tB_length]) (before_maker x.size x.ws x.wn x.ts x.tn (by omega) (by omega) (by omega) (by omega) (by omega) (by omega) (by omega) (by omega) (by omega) (by omega)) _).mono ?_; rintro e W1 ⟨_, rfl, ⟨f1, p1, rfl, t1⟩, b1⟩; have u1 : Tells W1 (.func (.func f1) #[] p1) (if x.hb then (tok x.wn && tok x.tn) else (x.size == 0 && (x.ws == 0 && x.wn == 0) && (x.ts == 0 && x.tn == 0))) (yB x.hb ++ if x.hb then bytesOf x.size 8 ++ (tB x.ws x.wn ++ tB x.ts x.tn) else []) := ⟨f1, p1, rfl, t1⟩; have B1 := B0.trans (b1.mono B0.size); have S1 := (a0.next B1).c))
  have hBa := (hB0.trans (B2.mono hB0.size)).trans (hba.mono (hB0.trans (B2.mono hB0.size)).size)
  have hfin := hBa.trans (br.mono hBa.size)
  have hown := own_base tr hBa.size
  clear S0 B0 S1 B1 S2 B2 u1 t1 b1 u2 t2 b2 SR SA tr br
  go_wp2
  go_ret2
  exact ⟨vr, rfl, hown, hfin⟩
end Go.Proofs.YtecbhhfncklefaaDoor

/- A whole variable (a struct or an array) is stored: a law for the walk that hands on a letter; nothing is claimed of the program here. -/
namespace Go.Proofs.YtecbhhfncklefaaDoor
set_option linter.unusedVariables false
open Go.RowKit

/-- A whole variable is stored. -/
theorem wpList_store_whole {P : Program} {ops : Array Oper} {rest : List Oper} {op : Oper} {a : Act} {w : World} {Q : Exit → Act → World → Prop} (hgd : op.guard = none) (ty : TypeId) (x y : Operand) (ho : op.op = .store ty x y)
    (g : Nat) (cells : Array Value) (hx : a.eval x = .pointer (some ⟨g, 0, none⟩)) (hy : a.eval y = .agg cells)
    (t : TypeId) (old : Array Value) (hg : w.heap[g]? = some (.cells old t (0, 0))) (hi : (P.info? ty).map (·.size) = some cells.size)
    (hold : old.size = cells.size) (h1 : cells.all (·.oneCell') = true)
    (h : ∀ w' : World, w'.heap[g]? = some (.cells cells t (0, 0)) → w.grownBy w' (some g) → w'.heap.size = w.heap.size → wpList P ops Q rest (a.put op.dst undef) w') : wpList P ops Q (op :: rest) a w := by
  refine wpList_plain hgd fun _ hK => wp_store_row ty x y ho g cells hx hy t old hg hi hold h1 (hK _ _ (h _ ?_ ⟨rfl, rfl, rfl, ?_, ?_⟩ ?_))
  · have hl := (Array.getElem?_eq_some_iff.1 hg).1
    simp [World.setRow, Array.getElem?_modify, hg]
  · simp [World.setRow]
  · intro i hi' hne
    have : ¬ g = i := fun e => hne (by rw [e])
    simp [World.setRow, Array.getElem?_modify, this]
  · simp [World.setRow]

/-- The answer: a variable, and a slot. -/
theorem results_row_tmp {P : Program} {fn : Func} {p u : Tmp} {ty : TypeId} (h : fn.results = #[.cell p ty, .tmp u]) (tmps : Array Value) (w : World) (g : Nat) (t : TypeId) (cs : Array Value) (fr : Nat × Nat) (d : TypeDesc)
    (hp : tmps.getD p undef = .pointer (some ⟨g, 0, none⟩)) (hg : w.heap[g]? = some (.cells cs t fr)) (hu : P.underlying ty = some d) (hd : (match d with | .struct _ | .array _ _ => true | _ => false) = true) (hi : (P.info? ty).map (·.size) = some cs.size) :
    (results fn tmps).run P w = .ok (.tuple #[.agg cs, tmps.getD u undef]) w := by
  rw [results_cell_tmp h, hp]
  simp only [asAddr, Sem.run_pure, Result.andThen_ok, run_loadVar_row w g t ty cs fr d hg hu hd hi]
end Go.Proofs.YtecbhhfncklefaaDoor

/- A whole variable is read at a step of a drawn region; nothing is claimed of the program here. -/
namespace Go.Proofs.YtecbhhfncklefaaDoor
set_option linter.unusedVariables false
open Go.RowKit

theorem run_load_row {P : Program} {o : Oper} {a : Act} {w : World} (ty : TypeId) (x : Operand) (ho : o.op = .load ty x) (g : Nat) (hx : a.eval x = .pointer (some ⟨g, 0, none⟩)) (t : TypeId) (cs : Array Value) (fr : Nat × Nat) (d : TypeDesc)
    (hg : w.heap[g]? = some (.cells cs t fr)) (hu : P.underlying ty = some d) (hd : (match d with | .struct _ | .array _ _ => true | _ => false) = true) (hi : (P.info? ty).map (·.size) = some cs.size) :
    (execOp a.eval o).run P w = .ok (.value (.agg cs)) w := by
  unfold execOp
  simp only [ho, hx, Instr.loadAt, Instr.sureAddr, Sem.run_bind, Sem.run_pure, Result.andThen_ok, run_loadVar_row w g t ty cs fr d hg hu hd hi]

/-- A whole variable is stored, the world behind it a letter. -/
theorem wp_store_letter {P : Program} {o : Oper} {a : Act} {w : World} {K : Act → World → Prop} {Q : Exit → Act → World → Prop} (ty : TypeId) (x y : Operand) (ho : o.op = .store ty x y)
    (g : Nat) (cells : Array Value) (hx : a.eval x = .pointer (some ⟨g, 0, none⟩)) (hy : a.eval y = .agg cells)
    (t : TypeId) (old : Array Value) (hg : w.heap[g]? = some (.cells old t (0, 0))) (hi : (P.info? ty).map (·.size) = some cells.size)
    (hold : old.size = cells.size) (h1 : cells.all (·.oneCell') = true)
    (h : ∀ w' : World, w'.heap[g]? = some (.cells cells t (0, 0)) → w.grownBy w' (some g) → w'.heap.size = w.heap.size → K (a.put o.dst undef) w') : o.wp P a w K Q := by
  refine wp_store_row ty x y ho g cells hx hy t old hg hi hold h1 (h _ ?_ ⟨rfl, rfl, rfl, ?_, ?_⟩ ?_)
  · have hl := (Array.getElem?_eq_some_iff.1 hg).1
    simp [World.setRow, Array.getElem?_modify, hg]
  · simp [World.setRow]
  · intro i hi' hne
    have : ¬ g = i := fun e => hne (by rw [e])
    simp [World.setRow, Array.getElem?_modify, this]
  · simp [World.setRow]
end Go.Proofs.YtecbhhfncklefaaDoor
