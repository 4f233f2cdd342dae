/- The operations of the last row of 'alive', one by one, as constants; nothing is claimed of the program here. -/
import Derived.Test.YtecbhhfncklefacRows
import Derived.Test.YtecbhhfncklefacBase
import Derived.Test.YtecbhhfncklefacStorePartRegRowPBoxMx
import Derived.Laws.BytesArg
namespace Go.Proofs.Ytecbhhfncklefac
set_option linter.unusedVariables false
open Go.RowKit

/-- The row of that number within a body. -/
def pickRow : Code → Nat → Array Oper
  | .region id ops _, n => if id == n then ops else #[]
  | .seq a b, n => let x := pickRow a n; if x.isEmpty then pickRow b n else x
  | .block _ b, n => pickRow b n
  | _, _ => #[]
noncomputable def alOps : Array Oper := pickRow (Try.f7.body.getD .skip) 8
noncomputable def alOp (k : Nat) : Oper := alOps[k]?.getD { dst := none, op := .move (.tmp 0), type := 0, pos := "", after := #[], guard := none }

section
variable {P : Program} {o : Oper} {a : Act} {w : World}
theorem want_none {ops : Array Oper} {t : Array Value} (h : o.guard = none) : Region.wanted o (yielded ops t) = true := by simp [Region.wanted, h]
theorem want_some {ops : Array Oper} {t : Array Value} {j d : Nat} {oj : Oper} (h : o.guard = some (j, true)) (hj : ops[j]? = some oj) (hd : oj.dst = some d) (ht : t[d]? = some (.bool true)) : Region.wanted o (yielded ops t) = true := by
  simp [Region.wanted, h, yielded, hj, hd, ht]
theorem run_move {x : Operand} {v : Value} (ho : o.op = .move x) (hx : a.eval x = v) : (execOp a.eval o).run P w = .ok (.value v) w := by
  unfold execOp; simp only [ho, hx]; simp
theorem run_assign {x : Operand} {v : Value} (ho : o.op = .assign x) (hx : a.eval x = v) : (execOp a.eval o).run P w = .ok (.value v) w := by
  unfold execOp; simp only [ho, hx]; simp
theorem run_pick {x y z : Operand} (ho : o.op = .pick x y z) (hx : a.eval x = .bool true) (hy : a.eval y = .bool true) : (execOp a.eval o).run P w = .ok (.value (.bool true)) w := by
  unfold execOp; simp only [ho, hx, hy]; simp [go_sem]
theorem run_eq {t s : TypeId} {x y : Operand} {u v : Value} (ho : o.op = .binOp .eql t x y s) (hx : a.eval x = u) (hy : a.eval y = v) (hg : (eqGuard .eql t x y u v).run P w = .ok () w) (hb : (binOp .eql t u v).run P w = .ok (.bool true) w) : (execOp a.eval o).run P w = .ok (.value (.bool true)) w := by
  unfold execOp; simp only [ho, hx, hy, Sem.run_bind, hg, hb, Result.andThen_ok, Sem.run_pure]; try simp [hg, hb, go_sem]
theorem run_len {s : TypeId} {t : Nat} {u v : Value} (ho : o.op = .call { callee := .builtin .len, args := #[.tmp t], argTypes := #[s] }) (hx : a.tmps[t]?.getD undef = u) (hb : (Builtin.len_ #[s] o.type #[u]).run P w = .ok v w) : (execOp a.eval o).run P w = .ok (.value v) w := by
  unfold execOp; simp only [ho]; simp [go_sem, hx, hb]
theorem run_cut {s : TypeId} {t : Nat} {k : Int} {u v : Value} (ho : o.op = .slice s (.tmp t) none (some (.const (.int .i64 k))) none) (hx : a.tmps[t]?.getD undef = u) (hb : (Instr.sliceAt s u none (some (.int .i64 k)) none).run P w = .ok v w) : (execOp a.eval o).run P w = .ok (.value v) w := by
  unfold execOp; simp only [ho]; simp [go_sem, hx, hb]
theorem run_index {s : TypeId} {t : Nat} {k : Int} {u v : Value} (ho : o.op = .indexAddr s (.tmp t) (.const (.int .i64 k))) (hx : a.tmps[t]?.getD undef = u) (hb : (Instr.indexAt s u (.int .i64 k)).run P w = .ok v w) : (execOp a.eval o).run P w = .ok (.value v) w := by
  unfold execOp; simp only [ho]; simp [go_sem, hx, hb]
theorem run_enter {f : FuncId} (ho : o.op = .call { callee := .value (.func f), args := #[], argTypes := #[] }) (hf : ∀ args w, (callFunc f args).run P w = .ok (.enter f args) w) : (execOp a.eval o).run P w = .ok (.enter f #[]) w := by
  unfold execOp; simp only [ho]; simp [go_sem, hf]
theorem wp_enter {f : FuncId} {args : Array Value} {K : Act → World → Prop} {Q : Exit → Act → World → Prop} (h : (execOp a.eval o).run P w = .ok (.enter f args) w) (hc : Calls P f args w fun | .returned v, w'' => K (a.put o.dst v) w'' | .panicked chain, w'' => Q (.panic chain) a w'' | .outgrown, _ => LetsOut Q) : o.wp P a w K Q := by
  unfold Oper.wp; rw [h]; exact hc
theorem run_conv {t s : TypeId} {x : Operand} {u v : Value} (ho : o.op = .convert t s x) (hx : a.eval x = u) (hb : (convert t s u).run P w = .ok v w) : (execOp a.eval o).run P w = .ok (.value v) w := by
  unfold execOp; simp only [ho, hx]; simp [hb, go_sem]
theorem run_cell {t : TypeId} {x : Operand} {p : Addr} {v : Value} (ho : o.op = .load t x) (hx : a.eval x = .pointer (some p)) (hb : (loadVar t p).run P w = .ok v w) : (execOp a.eval o).run P w = .ok (.value v) w := by
  unfold execOp; simp only [ho, hx, Instr.loadAt, Instr.sureAddr, Sem.run_bind, Sem.run_pure, Result.andThen_ok, hb]
end
theorem enter_small : ∀ (args : Array Value) (w : World), (callFunc 15 args).run Try.prog w = .ok (.enter 15 args) w := fun _ _ => by simp [go_sem]
theorem eq_err (n : Int) (w : World) : (binOp .eql 31 (.int .i64 n) (.int .i64 n)).run Try.prog w = .ok (.bool true) w := by simp [go_sem]
theorem eq_int (n : Int) (w : World) : (binOp .eql 3 (.int .i64 n) (.int .i64 n)).run Try.prog w = .ok (.bool true) w := by simp [go_sem]
theorem eq_u8 (n : Int) (w : World) : (binOp .eql 5 (.int .u8 n) (.int .u8 n)).run Try.prog w = .ok (.bool true) w := by simp [go_sem]
theorem eq_str (n : ByteArray) (w : World) : (binOp .eql 9 (.string n) (.string n)).run Try.prog w = .ok (.bool true) w := by simp [go_sem]
theorem eqg_int (t : TypeId) (k : IntKind) (x y : Operand) (m n : Int) (w : World) : (eqGuard .eql t x y (.int k m) (.int k n)).run Try.prog w = .ok () w := by simp [eqGuard, go_sem]
theorem eqg_str (t : TypeId) (x y : Operand) (m n : ByteArray) (w : World) : (eqGuard .eql t x y (.string m) (.string n)).run Try.prog w = .ok () w := by simp [eqGuard, go_sem]
theorem eqg_attr (x y : Operand) (m n : Array Value) (w : World) : (eqGuard .eql 28 x y (.agg m) (.agg n)).run Try.prog w = .ok () w := by
  have h : Try.prog.eqGuardType Try.prog.depth 28 = false := by kernel_rfl
  simp [eqGuard, go_sem, h]
theorem len_u (ty : TypeId) (d : Option Addr) (n c : Nat) (w : World) : (Builtin.len_ #[30] ty #[.slice d n c]).run Try.prog w = .ok (.int .i64 (n : Int)) w := by simp [Builtin.len_, go_sem]
theorem cut8 (G c : Nat) (w : World) (h : 84 ≤ c) : (Instr.sliceAt 30 (.slice (some ⟨G, 0, none⟩) 84 c) none (some (.int .i64 8)) none).run Try.prog w = .ok (.slice (some ⟨G, 0, none⟩) 8 c) w := by
  have h1 : ((8 : Int) ≤ (c : Int)) := by omega
  go_simp
theorem at_k (G n c k : Nat) (w : World) (h : k < n) : (Instr.indexAt 30 (.slice (some ⟨G, 0, none⟩) n c) (.int .i64 (k : Int))).run Try.prog w = .ok (.pointer (some ⟨G, k, none⟩)) w := by
  go_simp
theorem ld_u8 {G k : Nat} {x : Int} {w : World} (h : w.cell? ⟨G, k, none⟩ = some (.int .u8 x)) : (loadVar 5 ⟨G, k, none⟩).run Try.prog w = .ok (.int .u8 x) w := by
  simp [go_sem, h]
theorem al_hi0 : alOps[0]? = some (alOp 0) := by kernel_rfl
theorem al_dst0 : (alOp 0).dst = some 54 := by kernel_rfl
theorem al_g0 : (alOp 0).guard = none := by kernel_rfl
theorem al_op0 : (alOp 0).op = .move (.tmp 2) := by kernel_rfl
theorem al_hi1 : alOps[1]? = some (alOp 1) := by kernel_rfl
theorem al_dst1 : (alOp 1).dst = some 55 := by kernel_rfl
theorem al_g1 : (alOp 1).guard = none := by kernel_rfl
theorem al_op1 : (alOp 1).op = .binOp .eql 31 (.tmp 54) (.const (.int .i64 0)) 31 := by kernel_rfl
theorem al_hi2 : alOps[2]? = some (alOp 2) := by kernel_rfl
theorem al_dst2 : (alOp 2).dst = some 56 := by kernel_rfl
theorem al_g2 : (alOp 2).guard = none := by kernel_rfl
theorem al_op2 : (alOp 2).op = .move (.tmp 55) := by kernel_rfl
theorem al_hi3 : alOps[3]? = some (alOp 3) := by kernel_rfl
theorem al_dst3 : (alOp 3).dst = some 57 := by kernel_rfl
theorem al_g3 : (alOp 3).guard = some (2, true) := by kernel_rfl
theorem al_op3 : (alOp 3).op = .move (.tmp 5) := by kernel_rfl
theorem al_hi4 : alOps[4]? = some (alOp 4) := by kernel_rfl
theorem al_dst4 : (alOp 4).dst = some 58 := by kernel_rfl
theorem al_g4 : (alOp 4).guard = some (2, true) := by kernel_rfl
theorem al_op4 : (alOp 4).op = .binOp .eql 31 (.tmp 57) (.const (.int .i64 0)) 31 := by kernel_rfl
theorem al_hi5 : alOps[5]? = some (alOp 5) := by kernel_rfl
theorem al_dst5 : (alOp 5).dst = some 59 := by kernel_rfl
theorem al_g5 : (alOp 5).guard = none := by kernel_rfl
theorem al_op5 : (alOp 5).op = .pick (.tmp 56) (.tmp 58) (.const (.bool false)) := by kernel_rfl
theorem al_hi6 : alOps[6]? = some (alOp 6) := by kernel_rfl
theorem al_dst6 : (alOp 6).dst = some 60 := by kernel_rfl
theorem al_g6 : (alOp 6).guard = none := by kernel_rfl
theorem al_op6 : (alOp 6).op = .move (.tmp 59) := by kernel_rfl
theorem al_hi7 : alOps[7]? = some (alOp 7) := by kernel_rfl
theorem al_dst7 : (alOp 7).dst = some 61 := by kernel_rfl
theorem al_g7 : (alOp 7).guard = some (6, true) := by kernel_rfl
theorem al_op7 : (alOp 7).op = .move (.tmp 8) := by kernel_rfl
theorem al_hi8 : alOps[8]? = some (alOp 8) := by kernel_rfl
theorem al_dst8 : (alOp 8).dst = some 62 := by kernel_rfl
theorem al_g8 : (alOp 8).guard = some (6, true) := by kernel_rfl
theorem al_op8 : (alOp 8).op = .binOp .eql 31 (.tmp 61) (.const (.int .i64 5)) 31 := by kernel_rfl
theorem al_hi9 : alOps[9]? = some (alOp 9) := by kernel_rfl
theorem al_dst9 : (alOp 9).dst = some 63 := by kernel_rfl
theorem al_g9 : (alOp 9).guard = none := by kernel_rfl
theorem al_op9 : (alOp 9).op = .pick (.tmp 60) (.tmp 62) (.const (.bool false)) := by kernel_rfl
theorem al_hi10 : alOps[10]? = some (alOp 10) := by kernel_rfl
theorem al_dst10 : (alOp 10).dst = some 64 := by kernel_rfl
theorem al_g10 : (alOp 10).guard = none := by kernel_rfl
theorem al_op10 : (alOp 10).op = .move (.tmp 63) := by kernel_rfl
theorem al_hi11 : alOps[11]? = some (alOp 11) := by kernel_rfl
theorem al_dst11 : (alOp 11).dst = some 65 := by kernel_rfl
theorem al_g11 : (alOp 11).guard = some (10, true) := by kernel_rfl
theorem al_op11 : (alOp 11).op = .move (.tmp 10) := by kernel_rfl
theorem al_hi12 : alOps[12]? = some (alOp 12) := by kernel_rfl
theorem al_dst12 : (alOp 12).dst = some 66 := by kernel_rfl
theorem al_g12 : (alOp 12).guard = some (10, true) := by kernel_rfl
theorem al_op12 : (alOp 12).op = .binOp .eql 31 (.tmp 65) (.const (.int .i64 1)) 31 := by kernel_rfl
theorem al_hi13 : alOps[13]? = some (alOp 13) := by kernel_rfl
theorem al_dst13 : (alOp 13).dst = some 67 := by kernel_rfl
theorem al_g13 : (alOp 13).guard = none := by kernel_rfl
theorem al_op13 : (alOp 13).op = .pick (.tmp 64) (.tmp 66) (.const (.bool false)) := by kernel_rfl
theorem al_hi14 : alOps[14]? = some (alOp 14) := by kernel_rfl
theorem al_dst14 : (alOp 14).dst = some 68 := by kernel_rfl
theorem al_g14 : (alOp 14).guard = none := by kernel_rfl
theorem al_op14 : (alOp 14).op = .move (.tmp 67) := by kernel_rfl
theorem al_hi15 : alOps[15]? = some (alOp 15) := by kernel_rfl
theorem al_dst15 : (alOp 15).dst = some 69 := by kernel_rfl
theorem al_g15 : (alOp 15).guard = some (14, true) := by kernel_rfl
theorem al_op15 : (alOp 15).op = .move (.tmp 12) := by kernel_rfl
theorem al_hi16 : alOps[16]? = some (alOp 16) := by kernel_rfl
theorem al_dst16 : (alOp 16).dst = some 70 := by kernel_rfl
theorem al_g16 : (alOp 16).guard = some (14, true) := by kernel_rfl
theorem al_op16 : (alOp 16).op = .binOp .eql 31 (.tmp 69) (.const (.int .i64 0)) 31 := by kernel_rfl
theorem al_hi17 : alOps[17]? = some (alOp 17) := by kernel_rfl
theorem al_dst17 : (alOp 17).dst = some 71 := by kernel_rfl
theorem al_g17 : (alOp 17).guard = none := by kernel_rfl
theorem al_op17 : (alOp 17).op = .pick (.tmp 68) (.tmp 70) (.const (.bool false)) := by kernel_rfl
theorem al_hi18 : alOps[18]? = some (alOp 18) := by kernel_rfl
theorem al_dst18 : (alOp 18).dst = some 72 := by kernel_rfl
theorem al_g18 : (alOp 18).guard = none := by kernel_rfl
theorem al_op18 : (alOp 18).op = .move (.tmp 71) := by kernel_rfl
theorem al_hi19 : alOps[19]? = some (alOp 19) := by kernel_rfl
theorem al_dst19 : (alOp 19).dst = some 73 := by kernel_rfl
theorem al_g19 : (alOp 19).guard = some (18, true) := by kernel_rfl
theorem al_op19 : (alOp 19).op = .move (.tmp 14) := by kernel_rfl
theorem al_hi20 : alOps[20]? = some (alOp 20) := by kernel_rfl
theorem al_dst20 : (alOp 20).dst = some 74 := by kernel_rfl
theorem al_g20 : (alOp 20).guard = some (18, true) := by kernel_rfl
theorem al_op20 : (alOp 20).op = .binOp .eql 31 (.tmp 73) (.const (.int .i64 1)) 31 := by kernel_rfl
theorem al_hi21 : alOps[21]? = some (alOp 21) := by kernel_rfl
theorem al_dst21 : (alOp 21).dst = some 75 := by kernel_rfl
theorem al_g21 : (alOp 21).guard = none := by kernel_rfl
theorem al_op21 : (alOp 21).op = .pick (.tmp 72) (.tmp 74) (.const (.bool false)) := by kernel_rfl
theorem al_hi22 : alOps[22]? = some (alOp 22) := by kernel_rfl
theorem al_dst22 : (alOp 22).dst = some 76 := by kernel_rfl
theorem al_g22 : (alOp 22).guard = none := by kernel_rfl
theorem al_op22 : (alOp 22).op = .move (.tmp 75) := by kernel_rfl
theorem al_hi23 : alOps[23]? = some (alOp 23) := by kernel_rfl
theorem al_dst23 : (alOp 23).dst = some 77 := by kernel_rfl
theorem al_g23 : (alOp 23).guard = some (22, true) := by kernel_rfl
theorem al_op23 : (alOp 23).op = .move (.tmp 16) := by kernel_rfl
theorem al_hi24 : alOps[24]? = some (alOp 24) := by kernel_rfl
theorem al_dst24 : (alOp 24).dst = some 78 := by kernel_rfl
theorem al_g24 : (alOp 24).guard = some (22, true) := by kernel_rfl
theorem al_op24 : (alOp 24).op = .binOp .eql 31 (.tmp 77) (.const (.int .i64 0)) 31 := by kernel_rfl
theorem al_hi25 : alOps[25]? = some (alOp 25) := by kernel_rfl
theorem al_dst25 : (alOp 25).dst = some 79 := by kernel_rfl
theorem al_g25 : (alOp 25).guard = none := by kernel_rfl
theorem al_op25 : (alOp 25).op = .pick (.tmp 76) (.tmp 78) (.const (.bool false)) := by kernel_rfl
theorem al_hi26 : alOps[26]? = some (alOp 26) := by kernel_rfl
theorem al_dst26 : (alOp 26).dst = some 80 := by kernel_rfl
theorem al_g26 : (alOp 26).guard = none := by kernel_rfl
theorem al_op26 : (alOp 26).op = .move (.tmp 79) := by kernel_rfl
theorem al_hi27 : alOps[27]? = some (alOp 27) := by kernel_rfl
theorem al_dst27 : (alOp 27).dst = some 81 := by kernel_rfl
theorem al_g27 : (alOp 27).guard = some (26, true) := by kernel_rfl
theorem al_op27 : (alOp 27).op = .load 28 (.tmp 3) := by kernel_rfl
theorem al_hi28 : alOps[28]? = some (alOp 28) := by kernel_rfl
theorem al_dst28 : (alOp 28).dst = some 82 := by kernel_rfl
theorem al_g28 : (alOp 28).guard = some (26, true) := by kernel_rfl
theorem al_op28 : (alOp 28).op = .call { callee := .value (.func 15), args := #[], argTypes := #[] } := by kernel_rfl
theorem al_hi29 : alOps[29]? = some (alOp 29) := by kernel_rfl
theorem al_dst29 : (alOp 29).dst = some 83 := by kernel_rfl
theorem al_g29 : (alOp 29).guard = some (26, true) := by kernel_rfl
theorem al_op29 : (alOp 29).op = .binOp .eql 28 (.tmp 81) (.tmp 82) 28 := by kernel_rfl
theorem al_hi30 : alOps[30]? = some (alOp 30) := by kernel_rfl
theorem al_dst30 : (alOp 30).dst = some 84 := by kernel_rfl
theorem al_g30 : (alOp 30).guard = none := by kernel_rfl
theorem al_op30 : (alOp 30).op = .pick (.tmp 80) (.tmp 83) (.const (.bool false)) := by kernel_rfl
theorem al_hi31 : alOps[31]? = some (alOp 31) := by kernel_rfl
theorem al_dst31 : (alOp 31).dst = some 85 := by kernel_rfl
theorem al_g31 : (alOp 31).guard = none := by kernel_rfl
theorem al_op31 : (alOp 31).op = .move (.tmp 84) := by kernel_rfl
theorem al_hi32 : alOps[32]? = some (alOp 32) := by kernel_rfl
theorem al_dst32 : (alOp 32).dst = some 86 := by kernel_rfl
theorem al_g32 : (alOp 32).guard = some (31, true) := by kernel_rfl
theorem al_op32 : (alOp 32).op = .move (.tmp 4) := by kernel_rfl
theorem al_hi33 : alOps[33]? = some (alOp 33) := by kernel_rfl
theorem al_dst33 : (alOp 33).dst = some 87 := by kernel_rfl
theorem al_g33 : (alOp 33).guard = some (31, true) := by kernel_rfl
theorem al_op33 : (alOp 33).op = .binOp .eql 3 (.tmp 86) (.const (.int .i64 84)) 3 := by kernel_rfl
theorem al_hi34 : alOps[34]? = some (alOp 34) := by kernel_rfl
theorem al_dst34 : (alOp 34).dst = some 88 := by kernel_rfl
theorem al_g34 : (alOp 34).guard = none := by kernel_rfl
theorem al_op34 : (alOp 34).op = .pick (.tmp 85) (.tmp 87) (.const (.bool false)) := by kernel_rfl
theorem al_hi35 : alOps[35]? = some (alOp 35) := by kernel_rfl
theorem al_dst35 : (alOp 35).dst = some 89 := by kernel_rfl
theorem al_g35 : (alOp 35).guard = none := by kernel_rfl
theorem al_op35 : (alOp 35).op = .move (.tmp 88) := by kernel_rfl
theorem al_hi36 : alOps[36]? = some (alOp 36) := by kernel_rfl
theorem al_dst36 : (alOp 36).dst = some 90 := by kernel_rfl
theorem al_g36 : (alOp 36).guard = some (35, true) := by kernel_rfl
theorem al_op36 : (alOp 36).op = .move (.tmp 1) := by kernel_rfl
theorem al_hi37 : alOps[37]? = some (alOp 37) := by kernel_rfl
theorem al_dst37 : (alOp 37).dst = some 91 := by kernel_rfl
theorem al_g37 : (alOp 37).guard = some (35, true) := by kernel_rfl
theorem al_op37 : (alOp 37).op = .call { callee := .builtin .len, args := #[.tmp 90], argTypes := #[30] } := by kernel_rfl
theorem al_hi38 : alOps[38]? = some (alOp 38) := by kernel_rfl
theorem al_dst38 : (alOp 38).dst = some 92 := by kernel_rfl
theorem al_g38 : (alOp 38).guard = some (35, true) := by kernel_rfl
theorem al_op38 : (alOp 38).op = .binOp .eql 3 (.tmp 91) (.const (.int .i64 84)) 3 := by kernel_rfl
theorem al_hi39 : alOps[39]? = some (alOp 39) := by kernel_rfl
theorem al_dst39 : (alOp 39).dst = some 93 := by kernel_rfl
theorem al_g39 : (alOp 39).guard = none := by kernel_rfl
theorem al_op39 : (alOp 39).op = .pick (.tmp 89) (.tmp 92) (.const (.bool false)) := by kernel_rfl
theorem al_hi40 : alOps[40]? = some (alOp 40) := by kernel_rfl
theorem al_dst40 : (alOp 40).dst = some 94 := by kernel_rfl
theorem al_g40 : (alOp 40).guard = none := by kernel_rfl
theorem al_op40 : (alOp 40).op = .move (.tmp 93) := by kernel_rfl
theorem al_hi41 : alOps[41]? = some (alOp 41) := by kernel_rfl
theorem al_dst41 : (alOp 41).dst = some 95 := by kernel_rfl
theorem al_g41 : (alOp 41).guard = some (40, true) := by kernel_rfl
theorem al_op41 : (alOp 41).op = .move (.tmp 1) := by kernel_rfl
theorem al_hi42 : alOps[42]? = some (alOp 42) := by kernel_rfl
theorem al_dst42 : (alOp 42).dst = some 96 := by kernel_rfl
theorem al_g42 : (alOp 42).guard = some (40, true) := by kernel_rfl
theorem al_op42 : (alOp 42).op = .slice 30 (.tmp 95) none (some (.const (.int .i64 8))) none := by kernel_rfl
theorem al_hi43 : alOps[43]? = some (alOp 43) := by kernel_rfl
theorem al_dst43 : (alOp 43).dst = some 97 := by kernel_rfl
theorem al_g43 : (alOp 43).guard = some (40, true) := by kernel_rfl
theorem al_op43 : (alOp 43).op = .convert 30 9 (.tmp 96) := by kernel_rfl
theorem al_hi44 : alOps[44]? = some (alOp 44) := by kernel_rfl
theorem al_dst44 : (alOp 44).dst = some 98 := by kernel_rfl
theorem al_g44 : (alOp 44).guard = some (40, true) := by kernel_rfl
theorem al_op44 : (alOp 44).op = .binOp .eql 9 (.tmp 97) (.const (.string ⟨#[0, 0, 0, 1, 0, 0, 1, 164]⟩)) 9 := by kernel_rfl
theorem al_hi45 : alOps[45]? = some (alOp 45) := by kernel_rfl
theorem al_dst45 : (alOp 45).dst = some 99 := by kernel_rfl
theorem al_g45 : (alOp 45).guard = none := by kernel_rfl
theorem al_op45 : (alOp 45).op = .pick (.tmp 94) (.tmp 98) (.const (.bool false)) := by kernel_rfl
theorem al_hi46 : alOps[46]? = some (alOp 46) := by kernel_rfl
theorem al_dst46 : (alOp 46).dst = some 100 := by kernel_rfl
theorem al_g46 : (alOp 46).guard = none := by kernel_rfl
theorem al_op46 : (alOp 46).op = .move (.tmp 99) := by kernel_rfl
theorem al_hi47 : alOps[47]? = some (alOp 47) := by kernel_rfl
theorem al_dst47 : (alOp 47).dst = some 101 := by kernel_rfl
theorem al_g47 : (alOp 47).guard = some (46, true) := by kernel_rfl
theorem al_op47 : (alOp 47).op = .move (.tmp 11) := by kernel_rfl
theorem al_hi48 : alOps[48]? = some (alOp 48) := by kernel_rfl
theorem al_dst48 : (alOp 48).dst = some 102 := by kernel_rfl
theorem al_g48 : (alOp 48).guard = some (46, true) := by kernel_rfl
theorem al_op48 : (alOp 48).op = .call { callee := .builtin .len, args := #[.tmp 101], argTypes := #[30] } := by kernel_rfl
theorem al_hi49 : alOps[49]? = some (alOp 49) := by kernel_rfl
theorem al_dst49 : (alOp 49).dst = some 103 := by kernel_rfl
theorem al_g49 : (alOp 49).guard = some (46, true) := by kernel_rfl
theorem al_op49 : (alOp 49).op = .binOp .eql 3 (.tmp 102) (.const (.int .i64 28)) 3 := by kernel_rfl
theorem al_hi50 : alOps[50]? = some (alOp 50) := by kernel_rfl
theorem al_dst50 : (alOp 50).dst = some 104 := by kernel_rfl
theorem al_g50 : (alOp 50).guard = none := by kernel_rfl
theorem al_op50 : (alOp 50).op = .pick (.tmp 100) (.tmp 103) (.const (.bool false)) := by kernel_rfl
theorem al_hi51 : alOps[51]? = some (alOp 51) := by kernel_rfl
theorem al_dst51 : (alOp 51).dst = some 105 := by kernel_rfl
theorem al_g51 : (alOp 51).guard = none := by kernel_rfl
theorem al_op51 : (alOp 51).op = .move (.tmp 104) := by kernel_rfl
theorem al_hi52 : alOps[52]? = some (alOp 52) := by kernel_rfl
theorem al_dst52 : (alOp 52).dst = some 106 := by kernel_rfl
theorem al_g52 : (alOp 52).guard = some (51, true) := by kernel_rfl
theorem al_op52 : (alOp 52).op = .move (.tmp 11) := by kernel_rfl
theorem al_hi53 : alOps[53]? = some (alOp 53) := by kernel_rfl
theorem al_dst53 : (alOp 53).dst = some 107 := by kernel_rfl
theorem al_g53 : (alOp 53).guard = some (51, true) := by kernel_rfl
theorem al_op53 : (alOp 53).op = .indexAddr 30 (.tmp 106) (.const (.int .i64 3)) := by kernel_rfl
theorem al_hi54 : alOps[54]? = some (alOp 54) := by kernel_rfl
theorem al_dst54 : (alOp 54).dst = some 108 := by kernel_rfl
theorem al_g54 : (alOp 54).guard = some (51, true) := by kernel_rfl
theorem al_op54 : (alOp 54).op = .load 5 (.tmp 107) := by kernel_rfl
theorem al_hi55 : alOps[55]? = some (alOp 55) := by kernel_rfl
theorem al_dst55 : (alOp 55).dst = some 109 := by kernel_rfl
theorem al_g55 : (alOp 55).guard = some (51, true) := by kernel_rfl
theorem al_op55 : (alOp 55).op = .binOp .eql 5 (.tmp 108) (.const (.int .u8 1)) 5 := by kernel_rfl
theorem al_hi56 : alOps[56]? = some (alOp 56) := by kernel_rfl
theorem al_dst56 : (alOp 56).dst = some 110 := by kernel_rfl
theorem al_g56 : (alOp 56).guard = none := by kernel_rfl
theorem al_op56 : (alOp 56).op = .pick (.tmp 105) (.tmp 109) (.const (.bool false)) := by kernel_rfl
theorem al_hi57 : alOps[57]? = some (alOp 57) := by kernel_rfl
theorem al_dst57 : (alOp 57).dst = some 111 := by kernel_rfl
theorem al_g57 : (alOp 57).guard = none := by kernel_rfl
theorem al_op57 : (alOp 57).op = .move (.tmp 110) := by kernel_rfl
theorem al_hi58 : alOps[58]? = some (alOp 58) := by kernel_rfl
theorem al_dst58 : (alOp 58).dst = some 112 := by kernel_rfl
theorem al_g58 : (alOp 58).guard = some (57, true) := by kernel_rfl
theorem al_op58 : (alOp 58).op = .move (.tmp 11) := by kernel_rfl
theorem al_hi59 : alOps[59]? = some (alOp 59) := by kernel_rfl
theorem al_dst59 : (alOp 59).dst = some 113 := by kernel_rfl
theorem al_g59 : (alOp 59).guard = some (57, true) := by kernel_rfl
theorem al_op59 : (alOp 59).op = .indexAddr 30 (.tmp 112) (.const (.int .i64 7)) := by kernel_rfl
theorem al_hi60 : alOps[60]? = some (alOp 60) := by kernel_rfl
theorem al_dst60 : (alOp 60).dst = some 114 := by kernel_rfl
theorem al_g60 : (alOp 60).guard = some (57, true) := by kernel_rfl
theorem al_op60 : (alOp 60).op = .load 5 (.tmp 113) := by kernel_rfl
theorem al_hi61 : alOps[61]? = some (alOp 61) := by kernel_rfl
theorem al_dst61 : (alOp 61).dst = some 115 := by kernel_rfl
theorem al_g61 : (alOp 61).guard = some (57, true) := by kernel_rfl
theorem al_op61 : (alOp 61).op = .binOp .eql 5 (.tmp 114) (.const (.int .u8 7)) 5 := by kernel_rfl
theorem al_hi62 : alOps[62]? = some (alOp 62) := by kernel_rfl
theorem al_dst62 : (alOp 62).dst = some 116 := by kernel_rfl
theorem al_g62 : (alOp 62).guard = none := by kernel_rfl
theorem al_op62 : (alOp 62).op = .pick (.tmp 111) (.tmp 115) (.const (.bool false)) := by kernel_rfl
theorem al_hi63 : alOps[63]? = some (alOp 63) := by kernel_rfl
theorem al_dst63 : (alOp 63).dst = some 117 := by kernel_rfl
theorem al_g63 : (alOp 63).guard = none := by kernel_rfl
theorem al_op63 : (alOp 63).op = .move (.tmp 116) := by kernel_rfl
theorem al_hi64 : alOps[64]? = some (alOp 64) := by kernel_rfl
theorem al_dst64 : (alOp 64).dst = some 118 := by kernel_rfl
theorem al_g64 : (alOp 64).guard = some (63, true) := by kernel_rfl
theorem al_op64 : (alOp 64).op = .move (.tmp 15) := by kernel_rfl
theorem al_hi65 : alOps[65]? = some (alOp 65) := by kernel_rfl
theorem al_dst65 : (alOp 65).dst = some 119 := by kernel_rfl
theorem al_g65 : (alOp 65).guard = some (63, true) := by kernel_rfl
theorem al_op65 : (alOp 65).op = .call { callee := .builtin .len, args := #[.tmp 118], argTypes := #[30] } := by kernel_rfl
theorem al_hi66 : alOps[66]? = some (alOp 66) := by kernel_rfl
theorem al_dst66 : (alOp 66).dst = some 120 := by kernel_rfl
theorem al_g66 : (alOp 66).guard = some (63, true) := by kernel_rfl
theorem al_op66 : (alOp 66).op = .binOp .eql 3 (.tmp 119) (.const (.int .i64 32)) 3 := by kernel_rfl
theorem al_hi67 : alOps[67]? = some (alOp 67) := by kernel_rfl
theorem al_dst67 : (alOp 67).dst = some 121 := by kernel_rfl
theorem al_g67 : (alOp 67).guard = none := by kernel_rfl
theorem al_op67 : (alOp 67).op = .pick (.tmp 117) (.tmp 120) (.const (.bool false)) := by kernel_rfl
theorem al_hi68 : alOps[68]? = some (alOp 68) := by kernel_rfl
theorem al_dst68 : (alOp 68).dst = some 122 := by kernel_rfl
theorem al_g68 : (alOp 68).guard = none := by kernel_rfl
theorem al_op68 : (alOp 68).op = .move (.tmp 121) := by kernel_rfl
theorem al_hi69 : alOps[69]? = some (alOp 69) := by kernel_rfl
theorem al_dst69 : (alOp 69).dst = some 123 := by kernel_rfl
theorem al_g69 : (alOp 69).guard = some (68, true) := by kernel_rfl
theorem al_op69 : (alOp 69).op = .move (.tmp 15) := by kernel_rfl
theorem al_hi70 : alOps[70]? = some (alOp 70) := by kernel_rfl
theorem al_dst70 : (alOp 70).dst = some 124 := by kernel_rfl
theorem al_g70 : (alOp 70).guard = some (68, true) := by kernel_rfl
theorem al_op70 : (alOp 70).op = .indexAddr 30 (.tmp 123) (.const (.int .i64 11)) := by kernel_rfl
theorem al_hi71 : alOps[71]? = some (alOp 71) := by kernel_rfl
theorem al_dst71 : (alOp 71).dst = some 125 := by kernel_rfl
theorem al_g71 : (alOp 71).guard = some (68, true) := by kernel_rfl
theorem al_op71 : (alOp 71).op = .load 5 (.tmp 124) := by kernel_rfl
theorem al_hi72 : alOps[72]? = some (alOp 72) := by kernel_rfl
theorem al_dst72 : (alOp 72).dst = some 126 := by kernel_rfl
theorem al_g72 : (alOp 72).guard = some (68, true) := by kernel_rfl
theorem al_op72 : (alOp 72).op = .binOp .eql 5 (.tmp 125) (.const (.int .u8 5)) 5 := by kernel_rfl
theorem al_hi73 : alOps[73]? = some (alOp 73) := by kernel_rfl
theorem al_dst73 : (alOp 73).dst = some 127 := by kernel_rfl
theorem al_g73 : (alOp 73).guard = none := by kernel_rfl
theorem al_op73 : (alOp 73).op = .pick (.tmp 122) (.tmp 126) (.const (.bool false)) := by kernel_rfl
theorem al_hi74 : alOps[74]? = some (alOp 74) := by kernel_rfl
theorem al_dst74 : (alOp 74).dst = some 0 := by kernel_rfl
theorem al_g74 : (alOp 74).guard = none := by kernel_rfl
theorem al_op74 : (alOp 74).op = .assign (.tmp 127) := by kernel_rfl
theorem al_sel : Region.noSelect alOps = true := by kernel_rfl
end Go.Proofs.Ytecbhhfncklefac
