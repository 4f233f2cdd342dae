/- The operations of the last row of 'AttrsAgain', one by one, as constants; nothing is claimed of the program here. -/
import Derived.Test.YtecbhhfncklefabAliveOps
namespace Go.Proofs.Ytecbhhfncklefab
set_option linter.unusedVariables false
open Go.RowKit

noncomputable def agOps : Array Oper := pickRow (Try.f6.body.getD .skip) 11
noncomputable def agOp (k : Nat) : Oper := agOps[k]?.getD { dst := none, op := .move (.tmp 0), type := 0, pos := "", after := #[], guard := none }

section
variable {P : Program} {o : Oper} {a : Act} {w : World}
theorem want_other {ops : Array Oper} {t : Array Value} {j d : Nat} {b c : Bool} {oj : Oper} (h : o.guard = some (j, b)) (hj : ops[j]? = some oj) (hd : oj.dst = some d) (ht : t[d]? = some (.bool c)) (hb : (c == b) = true) : Region.wanted o (yielded ops t) = true := by
  have : c = b := by simpa using hb
  subst this
  simp [Region.wanted, h, yielded, hj, hd, ht]
theorem want_not {ops : Array Oper} {t : Array Value} {j d : Nat} {b c : Bool} {oj : Oper} (h : o.guard = some (j, b)) (hj : ops[j]? = some oj) (hd : oj.dst = some d) (ht : t[d]? = some (.bool c)) (hb : (c == b) = false) : Region.wanted o (yielded ops t) = false := by
  have : c ≠ b := by simpa using hb
  simp [Region.wanted, h, yielded, hj, hd, ht, this]
theorem want_undef {ops : Array Oper} {t : Array Value} {j d : Nat} {b : Bool} {oj : Oper} (h : o.guard = some (j, b)) (hj : ops[j]? = some oj) (hd : oj.dst = some d) (ht : t[d]? = some undef) : Region.wanted o (yielded ops t) = false := by
  simp [Region.wanted, h, yielded, hj, hd, ht, undef]
theorem run_bin {e : BinOp} {t s : TypeId} {x y : Operand} {u v r : Value} (ho : o.op = .binOp e t x y s) (hx : a.eval x = u) (hy : a.eval y = v) (hg : (eqGuard e t x y u v).run P w = .ok () w) (hb : (binOp e t u v).run P w = .ok r w) : (execOp a.eval o).run P w = .ok (.value r) w := by
  unfold execOp; simp only [ho, hx, hy, Sem.run_bind, hg, hb, Result.andThen_ok, Sem.run_pure]; try simp [hg, hb, go_sem]
theorem run_pickt {x y z : Operand} {v : Value} (ho : o.op = .pick x y z) (hx : a.eval x = .bool true) (hy : a.eval y = v) : (execOp a.eval o).run P w = .ok (.value v) w := by
  unfold execOp; simp only [ho, hx, hy]; simp [go_sem]
theorem run_pickf {x y z : Operand} {v : Value} (ho : o.op = .pick x y z) (hx : a.eval x = .bool false) (hz : a.eval z = v) : (execOp a.eval o).run P w = .ok (.value v) w := by
  unfold execOp; simp only [ho, hx, hz]; simp [go_sem]
theorem run_cutn {s : TypeId} {x y : Nat} {k : Int} {u v : Value} (ho : o.op = .slice s (.tmp x) none (some (.tmp y)) none) (hx : a.tmps[x]?.getD undef = u) (hy : a.tmps[y]?.getD undef = .int .i64 k) (hb : (Instr.sliceAt s u none (some (.int .i64 k)) none).run P w = .ok v w) : (execOp a.eval o).run P w = .ok (.value v) w := by
  unfold execOp; simp only [ho]; simp [go_sem, hx, hy, hb]
theorem run_enter2 {f : FuncId} {x y : Nat} {s t : TypeId} {u v : Value} (ho : o.op = .call { callee := .value (.func f), args := #[.tmp x, .tmp y], argTypes := #[s, t] }) (hx : a.tmps[x]?.getD undef = u) (hy : a.tmps[y]?.getD undef = v) (hf : ∀ args w, (callFunc f args).run P w = .ok (.enter f args) w) : (execOp a.eval o).run P w = .ok (.enter f #[u, v]) w := by
  unfold execOp; simp only [ho]; simp [go_sem, hf, hx, hy]
end
/-- Where a row stands: ahead of its operation k. -/
structure SeqAt (P : Program) (ops : Array Oper) (Q : Exit → Act → World → Prop) (k : Nat) (a : Act) (w : World) : Prop where
  go : wpList P ops Q (ops.toList.drop k) a w
section
variable {P : Program} {ops : Array Oper} {Q : Exit → Act → World → Prop} {k : Nat} {o : Oper} {a : Act} {w : World} {v : Value}
theorem seq_drop (hi : ops[k]? = some o) : ops.toList.drop k = o :: ops.toList.drop (k + 1) := by
  obtain ⟨h1, h2⟩ := Array.getElem?_eq_some_iff.1 hi
  rw [List.drop_eq_getElem_cons (by simpa using h1)]
  simp [h2]
theorem seq_start {id : Nat} (h : SeqAt P ops Q 0 a w) : (Code.region id ops false).wp P Q a w := wp_region_list h.go
theorem seq_take (hi : ops[k]? = some o) (hw : Region.wanted o (yielded ops a.tmps) = true) (hr : (execOp a.eval o).run P w = .ok (.value v) w) (h : SeqAt P ops Q (k + 1) (a.put o.dst v) w) : SeqAt P ops Q k a w := by
  refine ⟨?_⟩
  rw [seq_drop hi]
  show if Region.wanted o (yielded ops a.tmps) = true then _ else _
  rw [if_pos hw]
  refine .inl ?_
  unfold Oper.wp; rw [hr]; exact h.go
theorem seq_skip (hi : ops[k]? = some o) (hw : Region.wanted o (yielded ops a.tmps) = false) (h : SeqAt P ops Q (k + 1) (a.put o.dst undef) w) : SeqAt P ops Q k a w := by
  refine ⟨?_⟩
  rw [seq_drop hi]
  show if Region.wanted o (yielded ops a.tmps) = true then _ else _
  rw [if_neg (by rw [hw]; decide)]
  exact h.go
theorem seq_enter {f : FuncId} {args : Array Value} (hi : ops[k]? = some o) (hw : Region.wanted o (yielded ops a.tmps) = true) (hr : (execOp a.eval o).run P w = .ok (.enter f args) w) {r : Value} {S : World → Prop}
    (hc : Calls P f args w fun e w' => e = .returned r ∧ S w') (h : ∀ w', S w' → SeqAt P ops Q (k + 1) (a.put o.dst r) w') : SeqAt P ops Q k a w := by
  refine ⟨?_⟩
  rw [seq_drop hi]
  show if Region.wanted o (yielded ops a.tmps) = true then _ else _
  rw [if_pos hw]
  refine .inl ?_
  unfold Oper.wp; rw [hr]
  refine hc.mono ?_
  rintro e w' ⟨rfl, hS⟩
  exact (h w' hS).go
theorem seq_done (hn : ops.size ≤ k) (h : Q .normal a w) : SeqAt P ops Q k a w := by
  refine ⟨?_⟩
  rw [List.drop_eq_nil_of_le (by simpa using hn)]
  exact h
end
theorem enter_same : ∀ (args : Array Value) (w : World), (callFunc 17 args).run Try.prog w = .ok (.enter 17 args) w := fun _ _ => by simp [go_sem]
theorem bin_eqf (n : Int) (h : n ≠ 0) (w : World) : (binOp .eql 32 (.int .i64 n) (.int .i64 0)).run Try.prog w = .ok (.bool false) w := by simp [go_sem, h]
theorem bin_net (n : Int) (h : n ≠ 0) (w : World) : (binOp .neq 32 (.int .i64 n) (.int .i64 0)).run Try.prog w = .ok (.bool true) w := by simp [go_sem, h]
theorem neqg_int (t : TypeId) (k : IntKind) (x y : Operand) (m n : Int) (w : World) : (eqGuard .neq t x y (.int k m) (.int k n)).run Try.prog w = .ok () w := by simp [eqGuard, go_sem]
theorem eqg_stt (x y : Operand) (m n : Array Value) (w : World) : (eqGuard .eql 40 x y (.agg m) (.agg n)).run Try.prog w = .ok () w := by
  have h : Try.prog.eqGuardType Try.prog.depth 40 = false := by kernel_rfl
  simp [eqGuard, go_sem, h]
theorem eqg_wk (x y : Operand) (m n : Array Value) (w : World) : (eqGuard .eql 46 x y (.agg m) (.agg n)).run Try.prog w = .ok () w := by
  have h : Try.prog.eqGuardType Try.prog.depth 46 = false := by kernel_rfl
  simp [eqGuard, go_sem, h]
theorem run_builda {o : Oper} {a : Act} {w : World} (ho : o.op = .build 28 #[]) : (execOp a.eval o).run Try.prog w = .ok (.value (.agg #[.int .u32 0, .int .u32 0, .int .u32 0, .int .u32 0, .int .u32 0, .int .u64 0, .int .u64 0, .int .u64 0, .int .u32 0, .int .u32 0, .int .u32 0, .int .u32 0, .int .u32 0, .int .u32 0])) w := by
  unfold execOp; simp only [ho]; go_simp; first | done | with_reducible rfl
theorem run_builds {o : Oper} {a : Act} {w : World} (ho : o.op = .build 40 #[]) : (execOp a.eval o).run Try.prog w = .ok (.value (.agg #[.bool false, .int .u32 0, .bool false, .int .u32 0, .bool false, .int .u32 0, .bool false, .int .u64 0, .int .u32 0, .int .u32 0, .int .u32 0, .int .u32 0, .int .u32 0, .int .u32 0])) w := by
  unfold execOp; simp only [ho]; go_simp; first | done | with_reducible rfl
theorem run_buildw {o : Oper} {a : Act} {w : World} (ho : o.op = .build 46 #[]) : (execOp a.eval o).run Try.prog w = .ok (.value (.agg #[.bool false, .int .u64 0, .int .u32 0, .int .u32 0, .int .u32 0, .int .u32 0, .bool false, .int .u32 0, .int .u32 0, .int .u32 0, .int .u32 0, .int .u32 0, .int .u64 0, .int .u64 0, .int .u64 0, .int .u32 0, .int .u32 0, .int .u32 0, .int .u32 0, .int .u32 0, .int .u32 0])) w := by
  unfold execOp; simp only [ho]; go_simp; first | done | with_reducible rfl
theorem ag_hi0 : agOps[0]? = some (agOp 0) := by kernel_rfl
theorem ag_dst0 : (agOp 0).dst = some 88 := by kernel_rfl
theorem ag_g0 : (agOp 0).guard = none := by kernel_rfl
theorem ag_op0 : (agOp 0).op = .move (.tmp 5) := by kernel_rfl
theorem ag_hi1 : agOps[1]? = some (agOp 1) := by kernel_rfl
theorem ag_dst1 : (agOp 1).dst = some 89 := by kernel_rfl
theorem ag_g1 : (agOp 1).guard = none := by kernel_rfl
theorem ag_op1 : (agOp 1).op = .binOp .eql 32 (.tmp 88) (.const (.int .i64 0)) 32 := by kernel_rfl
theorem ag_hi2 : agOps[2]? = some (agOp 2) := by kernel_rfl
theorem ag_dst2 : (agOp 2).dst = some 90 := by kernel_rfl
theorem ag_g2 : (agOp 2).guard = none := by kernel_rfl
theorem ag_op2 : (agOp 2).op = .move (.tmp 89) := by kernel_rfl
theorem ag_hi3 : agOps[3]? = some (agOp 3) := by kernel_rfl
theorem ag_dst3 : (agOp 3).dst = some 91 := by kernel_rfl
theorem ag_g3 : (agOp 3).guard = some (2, true) := by kernel_rfl
theorem ag_op3 : (agOp 3).op = .move (.tmp 13) := by kernel_rfl
theorem ag_hi4 : agOps[4]? = some (agOp 4) := by kernel_rfl
theorem ag_dst4 : (agOp 4).dst = some 92 := by kernel_rfl
theorem ag_g4 : (agOp 4).guard = some (2, true) := by kernel_rfl
theorem ag_op4 : (agOp 4).op = .binOp .eql 32 (.tmp 91) (.const (.int .i64 0)) 32 := by kernel_rfl
theorem ag_hi5 : agOps[5]? = some (agOp 5) := by kernel_rfl
theorem ag_dst5 : (agOp 5).dst = some 93 := by kernel_rfl
theorem ag_g5 : (agOp 5).guard = none := by kernel_rfl
theorem ag_op5 : (agOp 5).op = .pick (.tmp 90) (.tmp 92) (.const (.bool false)) := by kernel_rfl
theorem ag_hi6 : agOps[6]? = some (agOp 6) := by kernel_rfl
theorem ag_dst6 : (agOp 6).dst = some 94 := by kernel_rfl
theorem ag_g6 : (agOp 6).guard = none := by kernel_rfl
theorem ag_op6 : (agOp 6).op = .move (.tmp 93) := by kernel_rfl
theorem ag_hi7 : agOps[7]? = some (agOp 7) := by kernel_rfl
theorem ag_dst7 : (agOp 7).dst = some 95 := by kernel_rfl
theorem ag_g7 : (agOp 7).guard = some (6, true) := by kernel_rfl
theorem ag_op7 : (agOp 7).op = .move (.tmp 12) := by kernel_rfl
theorem ag_hi8 : agOps[8]? = some (agOp 8) := by kernel_rfl
theorem ag_dst8 : (agOp 8).dst = some 96 := by kernel_rfl
theorem ag_g8 : (agOp 8).guard = some (6, true) := by kernel_rfl
theorem ag_op8 : (agOp 8).op = .move (.tmp 0) := by kernel_rfl
theorem ag_hi9 : agOps[9]? = some (agOp 9) := by kernel_rfl
theorem ag_dst9 : (agOp 9).dst = some 97 := by kernel_rfl
theorem ag_g9 : (agOp 9).guard = some (6, true) := by kernel_rfl
theorem ag_op9 : (agOp 9).op = .move (.tmp 4) := by kernel_rfl
theorem ag_hi10 : agOps[10]? = some (agOp 10) := by kernel_rfl
theorem ag_dst10 : (agOp 10).dst = some 98 := by kernel_rfl
theorem ag_g10 : (agOp 10).guard = some (6, true) := by kernel_rfl
theorem ag_op10 : (agOp 10).op = .slice 29 (.tmp 96) none (some (.tmp 97)) none := by kernel_rfl
theorem ag_hi11 : agOps[11]? = some (agOp 11) := by kernel_rfl
theorem ag_dst11 : (agOp 11).dst = some 99 := by kernel_rfl
theorem ag_g11 : (agOp 11).guard = some (6, true) := by kernel_rfl
theorem ag_op11 : (agOp 11).op = .call { callee := .value (.func 17), args := #[.tmp 95, .tmp 98], argTypes := #[29, 29] } := by kernel_rfl
theorem ag_hi12 : agOps[12]? = some (agOp 12) := by kernel_rfl
theorem ag_dst12 : (agOp 12).dst = some 100 := by kernel_rfl
theorem ag_g12 : (agOp 12).guard = none := by kernel_rfl
theorem ag_op12 : (agOp 12).op = .pick (.tmp 94) (.tmp 99) (.const (.bool false)) := by kernel_rfl
theorem ag_hi13 : agOps[13]? = some (agOp 13) := by kernel_rfl
theorem ag_dst13 : (agOp 13).dst = some 101 := by kernel_rfl
theorem ag_g13 : (agOp 13).guard = none := by kernel_rfl
theorem ag_op13 : (agOp 13).op = .move (.tmp 100) := by kernel_rfl
theorem ag_hi14 : agOps[14]? = some (agOp 14) := by kernel_rfl
theorem ag_dst14 : (agOp 14).dst = some 102 := by kernel_rfl
theorem ag_g14 : (agOp 14).guard = some (13, false) := by kernel_rfl
theorem ag_op14 : (agOp 14).op = .move (.tmp 5) := by kernel_rfl
theorem ag_hi15 : agOps[15]? = some (agOp 15) := by kernel_rfl
theorem ag_dst15 : (agOp 15).dst = some 103 := by kernel_rfl
theorem ag_g15 : (agOp 15).guard = some (13, false) := by kernel_rfl
theorem ag_op15 : (agOp 15).op = .binOp .neq 32 (.tmp 102) (.const (.int .i64 0)) 32 := by kernel_rfl
theorem ag_hi16 : agOps[16]? = some (agOp 16) := by kernel_rfl
theorem ag_dst16 : (agOp 16).dst = some 104 := by kernel_rfl
theorem ag_g16 : (agOp 16).guard = some (13, false) := by kernel_rfl
theorem ag_op16 : (agOp 16).op = .move (.tmp 103) := by kernel_rfl
theorem ag_hi17 : agOps[17]? = some (agOp 17) := by kernel_rfl
theorem ag_dst17 : (agOp 17).dst = some 105 := by kernel_rfl
theorem ag_g17 : (agOp 17).guard = some (16, true) := by kernel_rfl
theorem ag_op17 : (agOp 17).op = .move (.tmp 4) := by kernel_rfl
theorem ag_hi18 : agOps[18]? = some (agOp 18) := by kernel_rfl
theorem ag_dst18 : (agOp 18).dst = some 106 := by kernel_rfl
theorem ag_g18 : (agOp 18).guard = some (16, true) := by kernel_rfl
theorem ag_op18 : (agOp 18).op = .binOp .eql 3 (.tmp 105) (.const (.int .i64 0)) 3 := by kernel_rfl
theorem ag_hi19 : agOps[19]? = some (agOp 19) := by kernel_rfl
theorem ag_dst19 : (agOp 19).dst = some 107 := by kernel_rfl
theorem ag_g19 : (agOp 19).guard = some (13, false) := by kernel_rfl
theorem ag_op19 : (agOp 19).op = .pick (.tmp 104) (.tmp 106) (.const (.bool false)) := by kernel_rfl
theorem ag_hi20 : agOps[20]? = some (agOp 20) := by kernel_rfl
theorem ag_dst20 : (agOp 20).dst = some 108 := by kernel_rfl
theorem ag_g20 : (agOp 20).guard = some (13, false) := by kernel_rfl
theorem ag_op20 : (agOp 20).op = .move (.tmp 107) := by kernel_rfl
theorem ag_hi21 : agOps[21]? = some (agOp 21) := by kernel_rfl
theorem ag_dst21 : (agOp 21).dst = some 109 := by kernel_rfl
theorem ag_g21 : (agOp 21).guard = some (20, true) := by kernel_rfl
theorem ag_op21 : (agOp 21).op = .load 28 (.tmp 3) := by kernel_rfl
theorem ag_hi22 : agOps[22]? = some (agOp 22) := by kernel_rfl
theorem ag_dst22 : (agOp 22).dst = some 110 := by kernel_rfl
theorem ag_g22 : (agOp 22).guard = some (20, true) := by kernel_rfl
theorem ag_op22 : (agOp 22).op = .build 28 #[] := by kernel_rfl
theorem ag_hi23 : agOps[23]? = some (agOp 23) := by kernel_rfl
theorem ag_dst23 : (agOp 23).dst = some 111 := by kernel_rfl
theorem ag_g23 : (agOp 23).guard = some (20, true) := by kernel_rfl
theorem ag_op23 : (agOp 23).op = .binOp .eql 28 (.tmp 109) (.tmp 110) 28 := by kernel_rfl
theorem ag_hi24 : agOps[24]? = some (agOp 24) := by kernel_rfl
theorem ag_dst24 : (agOp 24).dst = some 112 := by kernel_rfl
theorem ag_g24 : (agOp 24).guard = some (13, false) := by kernel_rfl
theorem ag_op24 : (agOp 24).op = .pick (.tmp 108) (.tmp 111) (.const (.bool false)) := by kernel_rfl
theorem ag_hi25 : agOps[25]? = some (agOp 25) := by kernel_rfl
theorem ag_dst25 : (agOp 25).dst = some 113 := by kernel_rfl
theorem ag_g25 : (agOp 25).guard = none := by kernel_rfl
theorem ag_op25 : (agOp 25).op = .pick (.tmp 101) (.const (.bool true)) (.tmp 112) := by kernel_rfl
theorem ag_hi26 : agOps[26]? = some (agOp 26) := by kernel_rfl
theorem ag_dst26 : (agOp 26).dst = some 114 := by kernel_rfl
theorem ag_g26 : (agOp 26).guard = none := by kernel_rfl
theorem ag_op26 : (agOp 26).op = .move (.tmp 113) := by kernel_rfl
theorem ag_hi27 : agOps[27]? = some (agOp 27) := by kernel_rfl
theorem ag_dst27 : (agOp 27).dst = some 115 := by kernel_rfl
theorem ag_g27 : (agOp 27).guard = some (26, true) := by kernel_rfl
theorem ag_op27 : (agOp 27).op = .move (.tmp 8) := by kernel_rfl
theorem ag_hi28 : agOps[28]? = some (agOp 28) := by kernel_rfl
theorem ag_dst28 : (agOp 28).dst = some 116 := by kernel_rfl
theorem ag_g28 : (agOp 28).guard = some (26, true) := by kernel_rfl
theorem ag_op28 : (agOp 28).op = .binOp .eql 32 (.tmp 115) (.const (.int .i64 0)) 32 := by kernel_rfl
theorem ag_hi29 : agOps[29]? = some (agOp 29) := by kernel_rfl
theorem ag_dst29 : (agOp 29).dst = some 117 := by kernel_rfl
theorem ag_g29 : (agOp 29).guard = some (26, true) := by kernel_rfl
theorem ag_op29 : (agOp 29).op = .move (.tmp 116) := by kernel_rfl
theorem ag_hi30 : agOps[30]? = some (agOp 30) := by kernel_rfl
theorem ag_dst30 : (agOp 30).dst = some 118 := by kernel_rfl
theorem ag_g30 : (agOp 30).guard = some (29, true) := by kernel_rfl
theorem ag_op30 : (agOp 30).op = .move (.tmp 15) := by kernel_rfl
theorem ag_hi31 : agOps[31]? = some (agOp 31) := by kernel_rfl
theorem ag_dst31 : (agOp 31).dst = some 119 := by kernel_rfl
theorem ag_g31 : (agOp 31).guard = some (29, true) := by kernel_rfl
theorem ag_op31 : (agOp 31).op = .binOp .eql 32 (.tmp 118) (.const (.int .i64 0)) 32 := by kernel_rfl
theorem ag_hi32 : agOps[32]? = some (agOp 32) := by kernel_rfl
theorem ag_dst32 : (agOp 32).dst = some 120 := by kernel_rfl
theorem ag_g32 : (agOp 32).guard = some (26, true) := by kernel_rfl
theorem ag_op32 : (agOp 32).op = .pick (.tmp 117) (.tmp 119) (.const (.bool false)) := by kernel_rfl
theorem ag_hi33 : agOps[33]? = some (agOp 33) := by kernel_rfl
theorem ag_dst33 : (agOp 33).dst = some 121 := by kernel_rfl
theorem ag_g33 : (agOp 33).guard = some (26, true) := by kernel_rfl
theorem ag_op33 : (agOp 33).op = .move (.tmp 120) := by kernel_rfl
theorem ag_hi34 : agOps[34]? = some (agOp 34) := by kernel_rfl
theorem ag_dst34 : (agOp 34).dst = some 122 := by kernel_rfl
theorem ag_g34 : (agOp 34).guard = some (33, true) := by kernel_rfl
theorem ag_op34 : (agOp 34).op = .move (.tmp 14) := by kernel_rfl
theorem ag_hi35 : agOps[35]? = some (agOp 35) := by kernel_rfl
theorem ag_dst35 : (agOp 35).dst = some 123 := by kernel_rfl
theorem ag_g35 : (agOp 35).guard = some (33, true) := by kernel_rfl
theorem ag_op35 : (agOp 35).op = .move (.tmp 0) := by kernel_rfl
theorem ag_hi36 : agOps[36]? = some (agOp 36) := by kernel_rfl
theorem ag_dst36 : (agOp 36).dst = some 124 := by kernel_rfl
theorem ag_g36 : (agOp 36).guard = some (33, true) := by kernel_rfl
theorem ag_op36 : (agOp 36).op = .move (.tmp 7) := by kernel_rfl
theorem ag_hi37 : agOps[37]? = some (agOp 37) := by kernel_rfl
theorem ag_dst37 : (agOp 37).dst = some 125 := by kernel_rfl
theorem ag_g37 : (agOp 37).guard = some (33, true) := by kernel_rfl
theorem ag_op37 : (agOp 37).op = .slice 29 (.tmp 123) none (some (.tmp 124)) none := by kernel_rfl
theorem ag_hi38 : agOps[38]? = some (agOp 38) := by kernel_rfl
theorem ag_dst38 : (agOp 38).dst = some 126 := by kernel_rfl
theorem ag_g38 : (agOp 38).guard = some (33, true) := by kernel_rfl
theorem ag_op38 : (agOp 38).op = .call { callee := .value (.func 17), args := #[.tmp 122, .tmp 125], argTypes := #[29, 29] } := by kernel_rfl
theorem ag_hi39 : agOps[39]? = some (agOp 39) := by kernel_rfl
theorem ag_dst39 : (agOp 39).dst = some 127 := by kernel_rfl
theorem ag_g39 : (agOp 39).guard = some (26, true) := by kernel_rfl
theorem ag_op39 : (agOp 39).op = .pick (.tmp 121) (.tmp 126) (.const (.bool false)) := by kernel_rfl
theorem ag_hi40 : agOps[40]? = some (agOp 40) := by kernel_rfl
theorem ag_dst40 : (agOp 40).dst = some 128 := by kernel_rfl
theorem ag_g40 : (agOp 40).guard = some (26, true) := by kernel_rfl
theorem ag_op40 : (agOp 40).op = .move (.tmp 127) := by kernel_rfl
theorem ag_hi41 : agOps[41]? = some (agOp 41) := by kernel_rfl
theorem ag_dst41 : (agOp 41).dst = some 129 := by kernel_rfl
theorem ag_g41 : (agOp 41).guard = some (40, false) := by kernel_rfl
theorem ag_op41 : (agOp 41).op = .move (.tmp 8) := by kernel_rfl
theorem ag_hi42 : agOps[42]? = some (agOp 42) := by kernel_rfl
theorem ag_dst42 : (agOp 42).dst = some 130 := by kernel_rfl
theorem ag_g42 : (agOp 42).guard = some (40, false) := by kernel_rfl
theorem ag_op42 : (agOp 42).op = .binOp .neq 32 (.tmp 129) (.const (.int .i64 0)) 32 := by kernel_rfl
theorem ag_hi43 : agOps[43]? = some (agOp 43) := by kernel_rfl
theorem ag_dst43 : (agOp 43).dst = some 131 := by kernel_rfl
theorem ag_g43 : (agOp 43).guard = some (40, false) := by kernel_rfl
theorem ag_op43 : (agOp 43).op = .move (.tmp 130) := by kernel_rfl
theorem ag_hi44 : agOps[44]? = some (agOp 44) := by kernel_rfl
theorem ag_dst44 : (agOp 44).dst = some 132 := by kernel_rfl
theorem ag_g44 : (agOp 44).guard = some (43, true) := by kernel_rfl
theorem ag_op44 : (agOp 44).op = .move (.tmp 7) := by kernel_rfl
theorem ag_hi45 : agOps[45]? = some (agOp 45) := by kernel_rfl
theorem ag_dst45 : (agOp 45).dst = some 133 := by kernel_rfl
theorem ag_g45 : (agOp 45).guard = some (43, true) := by kernel_rfl
theorem ag_op45 : (agOp 45).op = .binOp .eql 3 (.tmp 132) (.const (.int .i64 0)) 3 := by kernel_rfl
theorem ag_hi46 : agOps[46]? = some (agOp 46) := by kernel_rfl
theorem ag_dst46 : (agOp 46).dst = some 134 := by kernel_rfl
theorem ag_g46 : (agOp 46).guard = some (40, false) := by kernel_rfl
theorem ag_op46 : (agOp 46).op = .pick (.tmp 131) (.tmp 133) (.const (.bool false)) := by kernel_rfl
theorem ag_hi47 : agOps[47]? = some (agOp 47) := by kernel_rfl
theorem ag_dst47 : (agOp 47).dst = some 135 := by kernel_rfl
theorem ag_g47 : (agOp 47).guard = some (40, false) := by kernel_rfl
theorem ag_op47 : (agOp 47).op = .move (.tmp 134) := by kernel_rfl
theorem ag_hi48 : agOps[48]? = some (agOp 48) := by kernel_rfl
theorem ag_dst48 : (agOp 48).dst = some 136 := by kernel_rfl
theorem ag_g48 : (agOp 48).guard = some (47, true) := by kernel_rfl
theorem ag_op48 : (agOp 48).op = .load 40 (.tmp 6) := by kernel_rfl
theorem ag_hi49 : agOps[49]? = some (agOp 49) := by kernel_rfl
theorem ag_dst49 : (agOp 49).dst = some 137 := by kernel_rfl
theorem ag_g49 : (agOp 49).guard = some (47, true) := by kernel_rfl
theorem ag_op49 : (agOp 49).op = .build 40 #[] := by kernel_rfl
theorem ag_hi50 : agOps[50]? = some (agOp 50) := by kernel_rfl
theorem ag_dst50 : (agOp 50).dst = some 138 := by kernel_rfl
theorem ag_g50 : (agOp 50).guard = some (47, true) := by kernel_rfl
theorem ag_op50 : (agOp 50).op = .binOp .eql 40 (.tmp 136) (.tmp 137) 40 := by kernel_rfl
theorem ag_hi51 : agOps[51]? = some (agOp 51) := by kernel_rfl
theorem ag_dst51 : (agOp 51).dst = some 139 := by kernel_rfl
theorem ag_g51 : (agOp 51).guard = some (40, false) := by kernel_rfl
theorem ag_op51 : (agOp 51).op = .pick (.tmp 135) (.tmp 138) (.const (.bool false)) := by kernel_rfl
theorem ag_hi52 : agOps[52]? = some (agOp 52) := by kernel_rfl
theorem ag_dst52 : (agOp 52).dst = some 140 := by kernel_rfl
theorem ag_g52 : (agOp 52).guard = some (26, true) := by kernel_rfl
theorem ag_op52 : (agOp 52).op = .pick (.tmp 128) (.const (.bool true)) (.tmp 139) := by kernel_rfl
theorem ag_hi53 : agOps[53]? = some (agOp 53) := by kernel_rfl
theorem ag_dst53 : (agOp 53).dst = some 141 := by kernel_rfl
theorem ag_g53 : (agOp 53).guard = none := by kernel_rfl
theorem ag_op53 : (agOp 53).op = .pick (.tmp 114) (.tmp 140) (.const (.bool false)) := by kernel_rfl
theorem ag_hi54 : agOps[54]? = some (agOp 54) := by kernel_rfl
theorem ag_dst54 : (agOp 54).dst = some 142 := by kernel_rfl
theorem ag_g54 : (agOp 54).guard = none := by kernel_rfl
theorem ag_op54 : (agOp 54).op = .move (.tmp 141) := by kernel_rfl
theorem ag_hi55 : agOps[55]? = some (agOp 55) := by kernel_rfl
theorem ag_dst55 : (agOp 55).dst = some 143 := by kernel_rfl
theorem ag_g55 : (agOp 55).guard = some (54, true) := by kernel_rfl
theorem ag_op55 : (agOp 55).op = .move (.tmp 11) := by kernel_rfl
theorem ag_hi56 : agOps[56]? = some (agOp 56) := by kernel_rfl
theorem ag_dst56 : (agOp 56).dst = some 144 := by kernel_rfl
theorem ag_g56 : (agOp 56).guard = some (54, true) := by kernel_rfl
theorem ag_op56 : (agOp 56).op = .binOp .eql 32 (.tmp 143) (.const (.int .i64 0)) 32 := by kernel_rfl
theorem ag_hi57 : agOps[57]? = some (agOp 57) := by kernel_rfl
theorem ag_dst57 : (agOp 57).dst = some 145 := by kernel_rfl
theorem ag_g57 : (agOp 57).guard = some (54, true) := by kernel_rfl
theorem ag_op57 : (agOp 57).op = .move (.tmp 144) := by kernel_rfl
theorem ag_hi58 : agOps[58]? = some (agOp 58) := by kernel_rfl
theorem ag_dst58 : (agOp 58).dst = some 146 := by kernel_rfl
theorem ag_g58 : (agOp 58).guard = some (57, true) := by kernel_rfl
theorem ag_op58 : (agOp 58).op = .move (.tmp 17) := by kernel_rfl
theorem ag_hi59 : agOps[59]? = some (agOp 59) := by kernel_rfl
theorem ag_dst59 : (agOp 59).dst = some 147 := by kernel_rfl
theorem ag_g59 : (agOp 59).guard = some (57, true) := by kernel_rfl
theorem ag_op59 : (agOp 59).op = .binOp .eql 32 (.tmp 146) (.const (.int .i64 0)) 32 := by kernel_rfl
theorem ag_hi60 : agOps[60]? = some (agOp 60) := by kernel_rfl
theorem ag_dst60 : (agOp 60).dst = some 148 := by kernel_rfl
theorem ag_g60 : (agOp 60).guard = some (54, true) := by kernel_rfl
theorem ag_op60 : (agOp 60).op = .pick (.tmp 145) (.tmp 147) (.const (.bool false)) := by kernel_rfl
theorem ag_hi61 : agOps[61]? = some (agOp 61) := by kernel_rfl
theorem ag_dst61 : (agOp 61).dst = some 149 := by kernel_rfl
theorem ag_g61 : (agOp 61).guard = some (54, true) := by kernel_rfl
theorem ag_op61 : (agOp 61).op = .move (.tmp 148) := by kernel_rfl
theorem ag_hi62 : agOps[62]? = some (agOp 62) := by kernel_rfl
theorem ag_dst62 : (agOp 62).dst = some 150 := by kernel_rfl
theorem ag_g62 : (agOp 62).guard = some (61, true) := by kernel_rfl
theorem ag_op62 : (agOp 62).op = .move (.tmp 16) := by kernel_rfl
theorem ag_hi63 : agOps[63]? = some (agOp 63) := by kernel_rfl
theorem ag_dst63 : (agOp 63).dst = some 151 := by kernel_rfl
theorem ag_g63 : (agOp 63).guard = some (61, true) := by kernel_rfl
theorem ag_op63 : (agOp 63).op = .move (.tmp 0) := by kernel_rfl
theorem ag_hi64 : agOps[64]? = some (agOp 64) := by kernel_rfl
theorem ag_dst64 : (agOp 64).dst = some 152 := by kernel_rfl
theorem ag_g64 : (agOp 64).guard = some (61, true) := by kernel_rfl
theorem ag_op64 : (agOp 64).op = .move (.tmp 10) := by kernel_rfl
theorem ag_hi65 : agOps[65]? = some (agOp 65) := by kernel_rfl
theorem ag_dst65 : (agOp 65).dst = some 153 := by kernel_rfl
theorem ag_g65 : (agOp 65).guard = some (61, true) := by kernel_rfl
theorem ag_op65 : (agOp 65).op = .slice 29 (.tmp 151) none (some (.tmp 152)) none := by kernel_rfl
theorem ag_hi66 : agOps[66]? = some (agOp 66) := by kernel_rfl
theorem ag_dst66 : (agOp 66).dst = some 154 := by kernel_rfl
theorem ag_g66 : (agOp 66).guard = some (61, true) := by kernel_rfl
theorem ag_op66 : (agOp 66).op = .call { callee := .value (.func 17), args := #[.tmp 150, .tmp 153], argTypes := #[29, 29] } := by kernel_rfl
theorem ag_hi67 : agOps[67]? = some (agOp 67) := by kernel_rfl
theorem ag_dst67 : (agOp 67).dst = some 155 := by kernel_rfl
theorem ag_g67 : (agOp 67).guard = some (54, true) := by kernel_rfl
theorem ag_op67 : (agOp 67).op = .pick (.tmp 149) (.tmp 154) (.const (.bool false)) := by kernel_rfl
theorem ag_hi68 : agOps[68]? = some (agOp 68) := by kernel_rfl
theorem ag_dst68 : (agOp 68).dst = some 156 := by kernel_rfl
theorem ag_g68 : (agOp 68).guard = some (54, true) := by kernel_rfl
theorem ag_op68 : (agOp 68).op = .move (.tmp 155) := by kernel_rfl
theorem ag_hi69 : agOps[69]? = some (agOp 69) := by kernel_rfl
theorem ag_dst69 : (agOp 69).dst = some 157 := by kernel_rfl
theorem ag_g69 : (agOp 69).guard = some (68, false) := by kernel_rfl
theorem ag_op69 : (agOp 69).op = .move (.tmp 11) := by kernel_rfl
theorem ag_hi70 : agOps[70]? = some (agOp 70) := by kernel_rfl
theorem ag_dst70 : (agOp 70).dst = some 158 := by kernel_rfl
theorem ag_g70 : (agOp 70).guard = some (68, false) := by kernel_rfl
theorem ag_op70 : (agOp 70).op = .binOp .neq 32 (.tmp 157) (.const (.int .i64 0)) 32 := by kernel_rfl
theorem ag_hi71 : agOps[71]? = some (agOp 71) := by kernel_rfl
theorem ag_dst71 : (agOp 71).dst = some 159 := by kernel_rfl
theorem ag_g71 : (agOp 71).guard = some (68, false) := by kernel_rfl
theorem ag_op71 : (agOp 71).op = .move (.tmp 158) := by kernel_rfl
theorem ag_hi72 : agOps[72]? = some (agOp 72) := by kernel_rfl
theorem ag_dst72 : (agOp 72).dst = some 160 := by kernel_rfl
theorem ag_g72 : (agOp 72).guard = some (71, true) := by kernel_rfl
theorem ag_op72 : (agOp 72).op = .move (.tmp 10) := by kernel_rfl
theorem ag_hi73 : agOps[73]? = some (agOp 73) := by kernel_rfl
theorem ag_dst73 : (agOp 73).dst = some 161 := by kernel_rfl
theorem ag_g73 : (agOp 73).guard = some (71, true) := by kernel_rfl
theorem ag_op73 : (agOp 73).op = .binOp .eql 3 (.tmp 160) (.const (.int .i64 0)) 3 := by kernel_rfl
theorem ag_hi74 : agOps[74]? = some (agOp 74) := by kernel_rfl
theorem ag_dst74 : (agOp 74).dst = some 162 := by kernel_rfl
theorem ag_g74 : (agOp 74).guard = some (68, false) := by kernel_rfl
theorem ag_op74 : (agOp 74).op = .pick (.tmp 159) (.tmp 161) (.const (.bool false)) := by kernel_rfl
theorem ag_hi75 : agOps[75]? = some (agOp 75) := by kernel_rfl
theorem ag_dst75 : (agOp 75).dst = some 163 := by kernel_rfl
theorem ag_g75 : (agOp 75).guard = some (68, false) := by kernel_rfl
theorem ag_op75 : (agOp 75).op = .move (.tmp 162) := by kernel_rfl
theorem ag_hi76 : agOps[76]? = some (agOp 76) := by kernel_rfl
theorem ag_dst76 : (agOp 76).dst = some 164 := by kernel_rfl
theorem ag_g76 : (agOp 76).guard = some (75, true) := by kernel_rfl
theorem ag_op76 : (agOp 76).op = .load 46 (.tmp 9) := by kernel_rfl
theorem ag_hi77 : agOps[77]? = some (agOp 77) := by kernel_rfl
theorem ag_dst77 : (agOp 77).dst = some 165 := by kernel_rfl
theorem ag_g77 : (agOp 77).guard = some (75, true) := by kernel_rfl
theorem ag_op77 : (agOp 77).op = .build 46 #[] := by kernel_rfl
theorem ag_hi78 : agOps[78]? = some (agOp 78) := by kernel_rfl
theorem ag_dst78 : (agOp 78).dst = some 166 := by kernel_rfl
theorem ag_g78 : (agOp 78).guard = some (75, true) := by kernel_rfl
theorem ag_op78 : (agOp 78).op = .binOp .eql 46 (.tmp 164) (.tmp 165) 46 := by kernel_rfl
theorem ag_hi79 : agOps[79]? = some (agOp 79) := by kernel_rfl
theorem ag_dst79 : (agOp 79).dst = some 167 := by kernel_rfl
theorem ag_g79 : (agOp 79).guard = some (68, false) := by kernel_rfl
theorem ag_op79 : (agOp 79).op = .pick (.tmp 163) (.tmp 166) (.const (.bool false)) := by kernel_rfl
theorem ag_hi80 : agOps[80]? = some (agOp 80) := by kernel_rfl
theorem ag_dst80 : (agOp 80).dst = some 168 := by kernel_rfl
theorem ag_g80 : (agOp 80).guard = some (54, true) := by kernel_rfl
theorem ag_op80 : (agOp 80).op = .pick (.tmp 156) (.const (.bool true)) (.tmp 167) := by kernel_rfl
theorem ag_hi81 : agOps[81]? = some (agOp 81) := by kernel_rfl
theorem ag_dst81 : (agOp 81).dst = some 169 := by kernel_rfl
theorem ag_g81 : (agOp 81).guard = none := by kernel_rfl
theorem ag_op81 : (agOp 81).op = .pick (.tmp 142) (.tmp 168) (.const (.bool false)) := by kernel_rfl
theorem ag_hi82 : agOps[82]? = some (agOp 82) := by kernel_rfl
theorem ag_dst82 : (agOp 82).dst = some 2 := by kernel_rfl
theorem ag_g82 : (agOp 82).guard = none := by kernel_rfl
theorem ag_op82 : (agOp 82).op = .assign (.tmp 169) := by kernel_rfl
theorem ag_size : agOps.size = 83 := by kernel_rfl
end Go.Proofs.Ytecbhhfncklefab
