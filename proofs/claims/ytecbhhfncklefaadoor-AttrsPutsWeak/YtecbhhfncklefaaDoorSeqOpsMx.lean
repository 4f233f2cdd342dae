/- A row's operations, one behind another, as constants: laws for each; nothing is claimed of the program here. -/
import Derived.Test.YtecbhhfncklefaaDoorRows
import Derived.Test.YtecbhhfncklefaaDoorBase
import Derived.Test.YtecbhhfncklefaaDoorPPutWStoreWholeRegRowMx
import Derived.Laws.BytesArg
namespace Go.Proofs.YtecbhhfncklefaaDoor
set_option linter.unusedVariables false
open Go.RowKit

/-- The row of that number within a body. -/
def pickRow : Code → Nat → Array Oper
  | .region id ops _, n => if id == n then ops else #[]
  | .seq a b, n => let x := pickRow a n; if x.isEmpty then pickRow b n else x
  | .block _ b, n => pickRow b n
  | _, _ => #[]
section
variable {P : Program} {o : Oper} {a : Act} {w : World}
theorem want_none {ops : Array Oper} {t : Array Value} (h : o.guard = none) : Region.wanted o (yielded ops t) = true := by simp [Region.wanted, h]
theorem want_some {ops : Array Oper} {t : Array Value} {j d : Nat} {oj : Oper} (h : o.guard = some (j, true)) (hj : ops[j]? = some oj) (hd : oj.dst = some d) (ht : t[d]? = some (.bool true)) : Region.wanted o (yielded ops t) = true := by
  simp [Region.wanted, h, yielded, hj, hd, ht]
theorem run_move {x : Operand} {v : Value} (ho : o.op = .move x) (hx : a.eval x = v) : (execOp a.eval o).run P w = .ok (.value v) w := by
  unfold execOp; simp only [ho, hx]; simp
theorem run_assign {x : Operand} {v : Value} (ho : o.op = .assign x) (hx : a.eval x = v) : (execOp a.eval o).run P w = .ok (.value v) w := by
  unfold execOp; simp only [ho, hx]; simp
theorem run_pick {x y z : Operand} (ho : o.op = .pick x y z) (hx : a.eval x = .bool true) (hy : a.eval y = .bool true) : (execOp a.eval o).run P w = .ok (.value (.bool true)) w := by
  unfold execOp; simp only [ho, hx, hy]; simp [go_sem]
theorem run_eq {t s : TypeId} {x y : Operand} {u v : Value} (ho : o.op = .binOp .eql t x y s) (hx : a.eval x = u) (hy : a.eval y = v) (hg : (eqGuard .eql t x y u v).run P w = .ok () w) (hb : (binOp .eql t u v).run P w = .ok (.bool true) w) : (execOp a.eval o).run P w = .ok (.value (.bool true)) w := by
  unfold execOp; simp only [ho, hx, hy, Sem.run_bind, hg, hb, Result.andThen_ok, Sem.run_pure]; try simp [hg, hb, go_sem]
theorem run_len {s : TypeId} {t : Nat} {u v : Value} (ho : o.op = .call { callee := .builtin .len, args := #[.tmp t], argTypes := #[s] }) (hx : a.tmps[t]?.getD undef = u) (hb : (Builtin.len_ #[s] o.type #[u]).run P w = .ok v w) : (execOp a.eval o).run P w = .ok (.value v) w := by
  unfold execOp; simp only [ho]; simp [go_sem, hx, hb]
theorem run_cut {s : TypeId} {t : Nat} {k : Int} {u v : Value} (ho : o.op = .slice s (.tmp t) none (some (.const (.int .i64 k))) none) (hx : a.tmps[t]?.getD undef = u) (hb : (Instr.sliceAt s u none (some (.int .i64 k)) none).run P w = .ok v w) : (execOp a.eval o).run P w = .ok (.value v) w := by
  unfold execOp; simp only [ho]; simp [go_sem, hx, hb]
theorem run_index {s : TypeId} {t : Nat} {k : Int} {u v : Value} (ho : o.op = .indexAddr s (.tmp t) (.const (.int .i64 k))) (hx : a.tmps[t]?.getD undef = u) (hb : (Instr.indexAt s u (.int .i64 k)).run P w = .ok v w) : (execOp a.eval o).run P w = .ok (.value v) w := by
  unfold execOp; simp only [ho]; simp [go_sem, hx, hb]
theorem run_enter {f : FuncId} (ho : o.op = .call { callee := .value (.func f), args := #[], argTypes := #[] }) (hf : ∀ args w, (callFunc f args).run P w = .ok (.enter f args) w) : (execOp a.eval o).run P w = .ok (.enter f #[]) w := by
  unfold execOp; simp only [ho]; simp [go_sem, hf]
theorem wp_enter {f : FuncId} {args : Array Value} {K : Act → World → Prop} {Q : Exit → Act → World → Prop} (h : (execOp a.eval o).run P w = .ok (.enter f args) w) (hc : Calls P f args w fun | .returned v, w'' => K (a.put o.dst v) w'' | .panicked chain, w'' => Q (.panic chain) a w'' | .outgrown, _ => LetsOut Q) : o.wp P a w K Q := by
  unfold Oper.wp; rw [h]; exact hc
theorem run_conv {t s : TypeId} {x : Operand} {u v : Value} (ho : o.op = .convert t s x) (hx : a.eval x = u) (hb : (convert t s u).run P w = .ok v w) : (execOp a.eval o).run P w = .ok (.value v) w := by
  unfold execOp; simp only [ho, hx]; simp [hb, go_sem]
theorem run_cell {t : TypeId} {x : Operand} {p : Addr} {v : Value} (ho : o.op = .load t x) (hx : a.eval x = .pointer (some p)) (hb : (loadVar t p).run P w = .ok v w) : (execOp a.eval o).run P w = .ok (.value v) w := by
  unfold execOp; simp only [ho, hx, Instr.loadAt, Instr.sureAddr, Sem.run_bind, Sem.run_pure, Result.andThen_ok, hb]
end
section
variable {P : Program} {o : Oper} {a : Act} {w : World}
theorem want_other {ops : Array Oper} {t : Array Value} {j d : Nat} {b c : Bool} {oj : Oper} (h : o.guard = some (j, b)) (hj : ops[j]? = some oj) (hd : oj.dst = some d) (ht : t[d]? = some (.bool c)) (hb : (c == b) = true) : Region.wanted o (yielded ops t) = true := by
  have : c = b := by simpa using hb
  subst this
  simp [Region.wanted, h, yielded, hj, hd, ht]
theorem want_not {ops : Array Oper} {t : Array Value} {j d : Nat} {b c : Bool} {oj : Oper} (h : o.guard = some (j, b)) (hj : ops[j]? = some oj) (hd : oj.dst = some d) (ht : t[d]? = some (.bool c)) (hb : (c == b) = false) : Region.wanted o (yielded ops t) = false := by
  have : c ≠ b := by simpa using hb
  simp [Region.wanted, h, yielded, hj, hd, ht, this]
theorem want_undef {ops : Array Oper} {t : Array Value} {j d : Nat} {b : Bool} {oj : Oper} (h : o.guard = some (j, b)) (hj : ops[j]? = some oj) (hd : oj.dst = some d) (ht : t[d]? = some undef) : Region.wanted o (yielded ops t) = false := by
  simp [Region.wanted, h, yielded, hj, hd, ht, undef]
theorem run_bin {e : BinOp} {t s : TypeId} {x y : Operand} {u v r : Value} (ho : o.op = .binOp e t x y s) (hx : a.eval x = u) (hy : a.eval y = v) (hg : (eqGuard e t x y u v).run P w = .ok () w) (hb : (binOp e t u v).run P w = .ok r w) : (execOp a.eval o).run P w = .ok (.value r) w := by
  unfold execOp; simp only [ho, hx, hy, Sem.run_bind, hg, hb, Result.andThen_ok, Sem.run_pure]; try simp [hg, hb, go_sem]
theorem run_pickt {x y z : Operand} {v : Value} (ho : o.op = .pick x y z) (hx : a.eval x = .bool true) (hy : a.eval y = v) : (execOp a.eval o).run P w = .ok (.value v) w := by
  unfold execOp; simp only [ho, hx, hy]; simp [go_sem]
theorem run_pickf {x y z : Operand} {v : Value} (ho : o.op = .pick x y z) (hx : a.eval x = .bool false) (hz : a.eval z = v) : (execOp a.eval o).run P w = .ok (.value v) w := by
  unfold execOp; simp only [ho, hx, hz]; simp [go_sem]
theorem run_cutn {s : TypeId} {x y : Nat} {k : Int} {u v : Value} (ho : o.op = .slice s (.tmp x) none (some (.tmp y)) none) (hx : a.tmps[x]?.getD undef = u) (hy : a.tmps[y]?.getD undef = .int .i64 k) (hb : (Instr.sliceAt s u none (some (.int .i64 k)) none).run P w = .ok v w) : (execOp a.eval o).run P w = .ok (.value v) w := by
  unfold execOp; simp only [ho]; simp [go_sem, hx, hy, hb]
theorem run_enter2 {f : FuncId} {x y : Nat} {s t : TypeId} {u v : Value} (ho : o.op = .call { callee := .value (.func f), args := #[.tmp x, .tmp y], argTypes := #[s, t] }) (hx : a.tmps[x]?.getD undef = u) (hy : a.tmps[y]?.getD undef = v) (hf : ∀ args w, (callFunc f args).run P w = .ok (.enter f args) w) : (execOp a.eval o).run P w = .ok (.enter f #[u, v]) w := by
  unfold execOp; simp only [ho]; simp [go_sem, hf, hx, hy]
end
/-- Where a row stands: ahead of its operation k. -/
structure SeqAt (P : Program) (ops : Array Oper) (Q : Exit → Act → World → Prop) (k : Nat) (a : Act) (w : World) : Prop where
  go : wpList P ops Q (ops.toList.drop k) a w
section
variable {P : Program} {ops : Array Oper} {Q : Exit → Act → World → Prop} {k : Nat} {o : Oper} {a : Act} {w : World} {v : Value}
theorem seq_drop (hi : ops[k]? = some o) : ops.toList.drop k = o :: ops.toList.drop (k + 1) := by
  obtain ⟨h1, h2⟩ := Array.getElem?_eq_some_iff.1 hi
  rw [List.drop_eq_getElem_cons (by simpa using h1)]
  simp [h2]
theorem seq_start {id : Nat} (h : SeqAt P ops Q 0 a w) : (Code.region id ops false).wp P Q a w := wp_region_list h.go
theorem seq_take (hi : ops[k]? = some o) (hw : Region.wanted o (yielded ops a.tmps) = true) (hr : (execOp a.eval o).run P w = .ok (.value v) w) (h : SeqAt P ops Q (k + 1) (a.put o.dst v) w) : SeqAt P ops Q k a w := by
  refine ⟨?_⟩
  rw [seq_drop hi]
  show if Region.wanted o (yielded ops a.tmps) = true then _ else _
  rw [if_pos hw]
  refine .inl ?_
  unfold Oper.wp; rw [hr]; exact h.go
theorem seq_skip (hi : ops[k]? = some o) (hw : Region.wanted o (yielded ops a.tmps) = false) (h : SeqAt P ops Q (k + 1) (a.put o.dst undef) w) : SeqAt P ops Q k a w := by
  refine ⟨?_⟩
  rw [seq_drop hi]
  show if Region.wanted o (yielded ops a.tmps) = true then _ else _
  rw [if_neg (by rw [hw]; decide)]
  exact h.go
theorem seq_enter {f : FuncId} {args : Array Value} (hi : ops[k]? = some o) (hw : Region.wanted o (yielded ops a.tmps) = true) (hr : (execOp a.eval o).run P w = .ok (.enter f args) w) {r : Value} {S : World → Prop}
    (hc : Calls P f args w fun e w' => e = .returned r ∧ S w') (h : ∀ w', S w' → SeqAt P ops Q (k + 1) (a.put o.dst r) w') : SeqAt P ops Q k a w := by
  refine ⟨?_⟩
  rw [seq_drop hi]
  show if Region.wanted o (yielded ops a.tmps) = true then _ else _
  rw [if_pos hw]
  refine .inl ?_
  unfold Oper.wp; rw [hr]
  refine hc.mono ?_
  rintro e w' ⟨rfl, hS⟩
  exact (h w' hS).go
theorem seq_done (hn : ops.size ≤ k) (h : Q .normal a w) : SeqAt P ops Q k a w := by
  refine ⟨?_⟩
  rw [List.drop_eq_nil_of_le (by simpa using hn)]
  exact h
end
section
variable {P : Program} {o : Oper} {a : Act} {w : World}
theorem run_load {t : TypeId} {x : Operand} {p : Addr} {v : Value} (ho : o.op = .load t x) (hx : a.eval x = .pointer (some p)) (hb : (loadVar t p).run P w = .ok v w) : (execOp a.eval o).run P w = .ok (.value v) w := by
  unfold execOp; simp only [ho, hx, Instr.loadAt, Instr.sureAddr, Sem.run_bind, Sem.run_pure, Result.andThen_ok, hb]
theorem run_not {t : TypeId} {x : Operand} {b r : Bool} (ho : o.op = .unOp .not t x) (hx : a.eval x = .bool b) (hr : (!b) = r) : (execOp a.eval o).run P w = .ok (.value (.bool r)) w := by
  subst hr
  unfold execOp; simp only [ho, hx]; simp [go_sem]
theorem run_enter1 {f : FuncId} {x : Nat} {s : TypeId} {u : Value} (ho : o.op = .call { callee := .value (.func f), args := #[.tmp x], argTypes := #[s] }) (hx : a.tmps[x]?.getD undef = u) (hf : ∀ args w, (callFunc f args).run P w = .ok (.enter f args) w) : (execOp a.eval o).run P w = .ok (.enter f #[u]) w := by
  unfold execOp; simp only [ho]; simp [go_sem, hf, hx]
end
end Go.Proofs.YtecbhhfncklefaaDoor
