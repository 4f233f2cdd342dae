/- The operations of the row of 'PutWeak' that asks whether it may be put, one by one, as constants; nothing is claimed of the program here. -/
import Derived.Test.YtecbhhfncklefaaDoorSeqOpsMx
namespace Go.Proofs.YtecbhhfncklefaaDoor
set_option linter.unusedVariables false
open Go.RowKit

noncomputable def pwOps : Array Oper := pickRow (Tryd.f12.body.getD .skip) 2
noncomputable def pwOp (k : Nat) : Oper := pwOps[k]?.getD { dst := none, op := .move (.tmp 0), type := 0, pos := "", after := #[], guard := none }
theorem pw_enter_check : ∀ (args : Array Value) (w : World), (callFunc 26 args).run Tryd.prog w = .ok (.enter 26 args) w := fun _ _ => by simp [go_sem]
theorem pw_enter_may : ∀ (args : Array Value) (w : World), (callFunc 15 args).run Tryd.prog w = .ok (.enter 15 args) w := fun _ _ => by simp [go_sem]
theorem pw_field0 {o : Oper} {a : Act} {w : World} {g : Nat} {x : Operand} (ho : o.op = .fieldAddr 41 x 0) (hx : a.eval x = .pointer (some ⟨g, 0, none⟩)) : (execOp a.eval o).run Tryd.prog w = .ok (.value (.pointer (some ⟨g, 0, none⟩))) w := by
  unfold execOp; simp only [ho, hx]; go_simp; try first | done | with_reducible rfl
theorem pw_field1 {o : Oper} {a : Act} {w : World} {g : Nat} {x : Operand} (ho : o.op = .fieldAddr 41 x 1) (hx : a.eval x = .pointer (some ⟨g, 0, none⟩)) : (execOp a.eval o).run Tryd.prog w = .ok (.value (.pointer (some ⟨g, 1, none⟩))) w := by
  unfold execOp; simp only [ho, hx]; go_simp; try first | done | with_reducible rfl
theorem pw_field2 {o : Oper} {a : Act} {w : World} {g : Nat} {x : Operand} (ho : o.op = .fieldAddr 41 x 2) (hx : a.eval x = .pointer (some ⟨g, 0, none⟩)) : (execOp a.eval o).run Tryd.prog w = .ok (.value (.pointer (some ⟨g, 2, none⟩))) w := by
  unfold execOp; simp only [ho, hx]; go_simp; try first | done | with_reducible rfl
theorem pw_field3 {o : Oper} {a : Act} {w : World} {g : Nat} {x : Operand} (ho : o.op = .fieldAddr 41 x 3) (hx : a.eval x = .pointer (some ⟨g, 0, none⟩)) : (execOp a.eval o).run Tryd.prog w = .ok (.value (.pointer (some ⟨g, 4, none⟩))) w := by
  unfold execOp; simp only [ho, hx]; go_simp; try first | done | with_reducible rfl
theorem pw_field4 {o : Oper} {a : Act} {w : World} {g : Nat} {x : Operand} (ho : o.op = .fieldAddr 41 x 4) (hx : a.eval x = .pointer (some ⟨g, 0, none⟩)) : (execOp a.eval o).run Tryd.prog w = .ok (.value (.pointer (some ⟨g, 6, none⟩))) w := by
  unfold execOp; simp only [ho, hx]; go_simp; try first | done | with_reducible rfl
theorem pw_field5 {o : Oper} {a : Act} {w : World} {g : Nat} {x : Operand} (ho : o.op = .fieldAddr 41 x 5) (hx : a.eval x = .pointer (some ⟨g, 0, none⟩)) : (execOp a.eval o).run Tryd.prog w = .ok (.value (.pointer (some ⟨g, 7, none⟩))) w := by
  unfold execOp; simp only [ho, hx]; go_simp; try first | done | with_reducible rfl
theorem pw_builda {o : Oper} {a : Act} {w : World} (ho : o.op = .build 28 #[]) : (execOp a.eval o).run Tryd.prog w = .ok (.value (.agg #[.int .u32 0, .int .u32 0, .int .u32 0, .int .u32 0, .int .u32 0, .int .u64 0, .int .u64 0, .int .u64 0, .int .u32 0, .int .u32 0, .int .u32 0, .int .u32 0, .int .u32 0, .int .u32 0])) w := by
  unfold execOp; simp only [ho]; go_simp; first | done | with_reducible rfl
theorem pw_hi0 : pwOps[0]? = some (pwOp 0) := by kernel_rfl
theorem pw_dst0 : (pwOp 0).dst = some 7 := by kernel_rfl
theorem pw_g0 : (pwOp 0).guard = none := by kernel_rfl
theorem pw_op0 : (pwOp 0).op = .fieldAddr 41 (.tmp 1) 0 := by kernel_rfl
theorem pw_hi1 : pwOps[1]? = some (pwOp 1) := by kernel_rfl
theorem pw_dst1 : (pwOp 1).dst = some 8 := by kernel_rfl
theorem pw_g1 : (pwOp 1).guard = none := by kernel_rfl
theorem pw_op1 : (pwOp 1).op = .load 4 (.tmp 7) := by kernel_rfl
theorem pw_hi2 : pwOps[2]? = some (pwOp 2) := by kernel_rfl
theorem pw_dst2 : (pwOp 2).dst = some 9 := by kernel_rfl
theorem pw_g2 : (pwOp 2).guard = none := by kernel_rfl
theorem pw_op2 : (pwOp 2).op = .unOp .not 4 (.tmp 8) := by kernel_rfl
theorem pw_hi3 : pwOps[3]? = some (pwOp 3) := by kernel_rfl
theorem pw_dst3 : (pwOp 3).dst = some 10 := by kernel_rfl
theorem pw_g3 : (pwOp 3).guard = none := by kernel_rfl
theorem pw_op3 : (pwOp 3).op = .move (.tmp 9) := by kernel_rfl
theorem pw_hi4 : pwOps[4]? = some (pwOp 4) := by kernel_rfl
theorem pw_dst4 : (pwOp 4).dst = some 11 := by kernel_rfl
theorem pw_g4 : (pwOp 4).guard = some (3, true) := by kernel_rfl
theorem pw_op4 : (pwOp 4).op = .fieldAddr 41 (.tmp 1) 1 := by kernel_rfl
theorem pw_hi5 : pwOps[5]? = some (pwOp 5) := by kernel_rfl
theorem pw_dst5 : (pwOp 5).dst = some 12 := by kernel_rfl
theorem pw_g5 : (pwOp 5).guard = some (3, true) := by kernel_rfl
theorem pw_op5 : (pwOp 5).op = .load 24 (.tmp 11) := by kernel_rfl
theorem pw_hi6 : pwOps[6]? = some (pwOp 6) := by kernel_rfl
theorem pw_dst6 : (pwOp 6).dst = some 13 := by kernel_rfl
theorem pw_g6 : (pwOp 6).guard = some (3, true) := by kernel_rfl
theorem pw_op6 : (pwOp 6).op = .binOp .neq 24 (.tmp 12) (.const (.int .u64 0)) 24 := by kernel_rfl
theorem pw_hi7 : pwOps[7]? = some (pwOp 7) := by kernel_rfl
theorem pw_dst7 : (pwOp 7).dst = some 14 := by kernel_rfl
theorem pw_g7 : (pwOp 7).guard = some (3, true) := by kernel_rfl
theorem pw_op7 : (pwOp 7).op = .move (.tmp 13) := by kernel_rfl
theorem pw_hi8 : pwOps[8]? = some (pwOp 8) := by kernel_rfl
theorem pw_dst8 : (pwOp 8).dst = some 15 := by kernel_rfl
theorem pw_g8 : (pwOp 8).guard = some (7, false) := by kernel_rfl
theorem pw_op8 : (pwOp 8).op = .fieldAddr 41 (.tmp 1) 2 := by kernel_rfl
theorem pw_hi9 : pwOps[9]? = some (pwOp 9) := by kernel_rfl
theorem pw_dst9 : (pwOp 9).dst = some 16 := by kernel_rfl
theorem pw_g9 : (pwOp 9).guard = some (7, false) := by kernel_rfl
theorem pw_op9 : (pwOp 9).op = .load 26 (.tmp 15) := by kernel_rfl
theorem pw_hi10 : pwOps[10]? = some (pwOp 10) := by kernel_rfl
theorem pw_dst10 : (pwOp 10).dst = some 17 := by kernel_rfl
theorem pw_g10 : (pwOp 10).guard = some (7, false) := by kernel_rfl
theorem pw_op10 : (pwOp 10).op = .load 26 (.tmp 4) := by kernel_rfl
theorem pw_hi11 : pwOps[11]? = some (pwOp 11) := by kernel_rfl
theorem pw_dst11 : (pwOp 11).dst = some 18 := by kernel_rfl
theorem pw_g11 : (pwOp 11).guard = some (7, false) := by kernel_rfl
theorem pw_op11 : (pwOp 11).op = .binOp .neq 26 (.tmp 16) (.tmp 17) 26 := by kernel_rfl
theorem pw_hi12 : pwOps[12]? = some (pwOp 12) := by kernel_rfl
theorem pw_dst12 : (pwOp 12).dst = some 19 := by kernel_rfl
theorem pw_g12 : (pwOp 12).guard = some (3, true) := by kernel_rfl
theorem pw_op12 : (pwOp 12).op = .pick (.tmp 14) (.const (.bool true)) (.tmp 18) := by kernel_rfl
theorem pw_hi13 : pwOps[13]? = some (pwOp 13) := by kernel_rfl
theorem pw_dst13 : (pwOp 13).dst = some 20 := by kernel_rfl
theorem pw_g13 : (pwOp 13).guard = some (3, true) := by kernel_rfl
theorem pw_op13 : (pwOp 13).op = .move (.tmp 19) := by kernel_rfl
theorem pw_hi14 : pwOps[14]? = some (pwOp 14) := by kernel_rfl
theorem pw_dst14 : (pwOp 14).dst = some 21 := by kernel_rfl
theorem pw_g14 : (pwOp 14).guard = some (13, false) := by kernel_rfl
theorem pw_op14 : (pwOp 14).op = .fieldAddr 41 (.tmp 1) 3 := by kernel_rfl
theorem pw_hi15 : pwOps[15]? = some (pwOp 15) := by kernel_rfl
theorem pw_dst15 : (pwOp 15).dst = some 22 := by kernel_rfl
theorem pw_g15 : (pwOp 15).guard = some (13, false) := by kernel_rfl
theorem pw_op15 : (pwOp 15).op = .load 26 (.tmp 21) := by kernel_rfl
theorem pw_hi16 : pwOps[16]? = some (pwOp 16) := by kernel_rfl
theorem pw_dst16 : (pwOp 16).dst = some 23 := by kernel_rfl
theorem pw_g16 : (pwOp 16).guard = some (13, false) := by kernel_rfl
theorem pw_op16 : (pwOp 16).op = .load 26 (.tmp 4) := by kernel_rfl
theorem pw_hi17 : pwOps[17]? = some (pwOp 17) := by kernel_rfl
theorem pw_dst17 : (pwOp 17).dst = some 24 := by kernel_rfl
theorem pw_g17 : (pwOp 17).guard = some (13, false) := by kernel_rfl
theorem pw_op17 : (pwOp 17).op = .binOp .neq 26 (.tmp 22) (.tmp 23) 26 := by kernel_rfl
theorem pw_hi18 : pwOps[18]? = some (pwOp 18) := by kernel_rfl
theorem pw_dst18 : (pwOp 18).dst = some 25 := by kernel_rfl
theorem pw_g18 : (pwOp 18).guard = some (3, true) := by kernel_rfl
theorem pw_op18 : (pwOp 18).op = .pick (.tmp 20) (.const (.bool true)) (.tmp 24) := by kernel_rfl
theorem pw_hi19 : pwOps[19]? = some (pwOp 19) := by kernel_rfl
theorem pw_dst19 : (pwOp 19).dst = some 26 := by kernel_rfl
theorem pw_g19 : (pwOp 19).guard = none := by kernel_rfl
theorem pw_op19 : (pwOp 19).op = .pick (.tmp 10) (.tmp 25) (.const (.bool false)) := by kernel_rfl
theorem pw_hi20 : pwOps[20]? = some (pwOp 20) := by kernel_rfl
theorem pw_dst20 : (pwOp 20).dst = some 27 := by kernel_rfl
theorem pw_g20 : (pwOp 20).guard = none := by kernel_rfl
theorem pw_op20 : (pwOp 20).op = .move (.tmp 26) := by kernel_rfl
theorem pw_hi21 : pwOps[21]? = some (pwOp 21) := by kernel_rfl
theorem pw_dst21 : (pwOp 21).dst = some 28 := by kernel_rfl
theorem pw_g21 : (pwOp 21).guard = some (20, false) := by kernel_rfl
theorem pw_op21 : (pwOp 21).op = .fieldAddr 41 (.tmp 1) 4 := by kernel_rfl
theorem pw_hi22 : pwOps[22]? = some (pwOp 22) := by kernel_rfl
theorem pw_dst22 : (pwOp 22).dst = some 29 := by kernel_rfl
theorem pw_g22 : (pwOp 22).guard = some (20, false) := by kernel_rfl
theorem pw_op22 : (pwOp 22).op = .load 4 (.tmp 28) := by kernel_rfl
theorem pw_hi23 : pwOps[23]? = some (pwOp 23) := by kernel_rfl
theorem pw_dst23 : (pwOp 23).dst = some 30 := by kernel_rfl
theorem pw_g23 : (pwOp 23).guard = some (20, false) := by kernel_rfl
theorem pw_op23 : (pwOp 23).op = .unOp .not 4 (.tmp 29) := by kernel_rfl
theorem pw_hi24 : pwOps[24]? = some (pwOp 24) := by kernel_rfl
theorem pw_dst24 : (pwOp 24).dst = some 31 := by kernel_rfl
theorem pw_g24 : (pwOp 24).guard = some (20, false) := by kernel_rfl
theorem pw_op24 : (pwOp 24).op = .move (.tmp 30) := by kernel_rfl
theorem pw_hi25 : pwOps[25]? = some (pwOp 25) := by kernel_rfl
theorem pw_dst25 : (pwOp 25).dst = some 32 := by kernel_rfl
theorem pw_g25 : (pwOp 25).guard = some (24, true) := by kernel_rfl
theorem pw_op25 : (pwOp 25).op = .fieldAddr 41 (.tmp 1) 5 := by kernel_rfl
theorem pw_hi26 : pwOps[26]? = some (pwOp 26) := by kernel_rfl
theorem pw_dst26 : (pwOp 26).dst = some 33 := by kernel_rfl
theorem pw_g26 : (pwOp 26).guard = some (24, true) := by kernel_rfl
theorem pw_op26 : (pwOp 26).op = .load 28 (.tmp 32) := by kernel_rfl
theorem pw_hi27 : pwOps[27]? = some (pwOp 27) := by kernel_rfl
theorem pw_dst27 : (pwOp 27).dst = some 34 := by kernel_rfl
theorem pw_g27 : (pwOp 27).guard = some (24, true) := by kernel_rfl
theorem pw_op27 : (pwOp 27).op = .build 28 #[] := by kernel_rfl
theorem pw_hi28 : pwOps[28]? = some (pwOp 28) := by kernel_rfl
theorem pw_dst28 : (pwOp 28).dst = some 35 := by kernel_rfl
theorem pw_g28 : (pwOp 28).guard = some (24, true) := by kernel_rfl
theorem pw_op28 : (pwOp 28).op = .binOp .neq 28 (.tmp 33) (.tmp 34) 28 := by kernel_rfl
theorem pw_hi29 : pwOps[29]? = some (pwOp 29) := by kernel_rfl
theorem pw_dst29 : (pwOp 29).dst = some 36 := by kernel_rfl
theorem pw_g29 : (pwOp 29).guard = some (20, false) := by kernel_rfl
theorem pw_op29 : (pwOp 29).op = .pick (.tmp 31) (.tmp 35) (.const (.bool false)) := by kernel_rfl
theorem pw_hi30 : pwOps[30]? = some (pwOp 30) := by kernel_rfl
theorem pw_dst30 : (pwOp 30).dst = some 37 := by kernel_rfl
theorem pw_g30 : (pwOp 30).guard = none := by kernel_rfl
theorem pw_op30 : (pwOp 30).op = .pick (.tmp 27) (.const (.bool true)) (.tmp 36) := by kernel_rfl
theorem pw_hi31 : pwOps[31]? = some (pwOp 31) := by kernel_rfl
theorem pw_dst31 : (pwOp 31).dst = some 38 := by kernel_rfl
theorem pw_g31 : (pwOp 31).guard = none := by kernel_rfl
theorem pw_op31 : (pwOp 31).op = .move (.tmp 37) := by kernel_rfl
theorem pw_hi32 : pwOps[32]? = some (pwOp 32) := by kernel_rfl
theorem pw_dst32 : (pwOp 32).dst = some 39 := by kernel_rfl
theorem pw_g32 : (pwOp 32).guard = some (31, false) := by kernel_rfl
theorem pw_op32 : (pwOp 32).op = .fieldAddr 41 (.tmp 1) 4 := by kernel_rfl
theorem pw_hi33 : pwOps[33]? = some (pwOp 33) := by kernel_rfl
theorem pw_dst33 : (pwOp 33).dst = some 40 := by kernel_rfl
theorem pw_g33 : (pwOp 33).guard = some (31, false) := by kernel_rfl
theorem pw_op33 : (pwOp 33).op = .load 4 (.tmp 39) := by kernel_rfl
theorem pw_hi34 : pwOps[34]? = some (pwOp 34) := by kernel_rfl
theorem pw_dst34 : (pwOp 34).dst = some 41 := by kernel_rfl
theorem pw_g34 : (pwOp 34).guard = some (31, false) := by kernel_rfl
theorem pw_op34 : (pwOp 34).op = .move (.tmp 40) := by kernel_rfl
theorem pw_hi35 : pwOps[35]? = some (pwOp 35) := by kernel_rfl
theorem pw_dst35 : (pwOp 35).dst = some 42 := by kernel_rfl
theorem pw_g35 : (pwOp 35).guard = some (34, true) := by kernel_rfl
theorem pw_op35 : (pwOp 35).op = .fieldAddr 41 (.tmp 1) 5 := by kernel_rfl
theorem pw_hi36 : pwOps[36]? = some (pwOp 36) := by kernel_rfl
theorem pw_dst36 : (pwOp 36).dst = some 43 := by kernel_rfl
theorem pw_g36 : (pwOp 36).guard = some (34, true) := by kernel_rfl
theorem pw_op36 : (pwOp 36).op = .load 28 (.tmp 42) := by kernel_rfl
theorem pw_hi37 : pwOps[37]? = some (pwOp 37) := by kernel_rfl
theorem pw_dst37 : (pwOp 37).dst = some 44 := by kernel_rfl
theorem pw_g37 : (pwOp 37).guard = some (34, true) := by kernel_rfl
theorem pw_op37 : (pwOp 37).op = .call { callee := .value (.func 15), args := #[.tmp 43], argTypes := #[28] } := by kernel_rfl
theorem pw_hi38 : pwOps[38]? = some (pwOp 38) := by kernel_rfl
theorem pw_dst38 : (pwOp 38).dst = some 45 := by kernel_rfl
theorem pw_g38 : (pwOp 38).guard = some (34, true) := by kernel_rfl
theorem pw_op38 : (pwOp 38).op = .unOp .not 4 (.tmp 44) := by kernel_rfl
theorem pw_hi39 : pwOps[39]? = some (pwOp 39) := by kernel_rfl
theorem pw_dst39 : (pwOp 39).dst = some 46 := by kernel_rfl
theorem pw_g39 : (pwOp 39).guard = some (31, false) := by kernel_rfl
theorem pw_op39 : (pwOp 39).op = .pick (.tmp 41) (.tmp 45) (.const (.bool false)) := by kernel_rfl
theorem pw_hi40 : pwOps[40]? = some (pwOp 40) := by kernel_rfl
theorem pw_dst40 : (pwOp 40).dst = some 47 := by kernel_rfl
theorem pw_g40 : (pwOp 40).guard = none := by kernel_rfl
theorem pw_op40 : (pwOp 40).op = .pick (.tmp 38) (.const (.bool true)) (.tmp 46) := by kernel_rfl
theorem pw_hi41 : pwOps[41]? = some (pwOp 41) := by kernel_rfl
theorem pw_dst41 : (pwOp 41).dst = some 48 := by kernel_rfl
theorem pw_g41 : (pwOp 41).guard = none := by kernel_rfl
theorem pw_op41 : (pwOp 41).op = .move (.tmp 47) := by kernel_rfl
theorem pw_hi42 : pwOps[42]? = some (pwOp 42) := by kernel_rfl
theorem pw_dst42 : (pwOp 42).dst = some 49 := by kernel_rfl
theorem pw_g42 : (pwOp 42).guard = some (41, false) := by kernel_rfl
theorem pw_op42 : (pwOp 42).op = .fieldAddr 41 (.tmp 1) 2 := by kernel_rfl
theorem pw_hi43 : pwOps[43]? = some (pwOp 43) := by kernel_rfl
theorem pw_dst43 : (pwOp 43).dst = some 50 := by kernel_rfl
theorem pw_g43 : (pwOp 43).guard = some (41, false) := by kernel_rfl
theorem pw_op43 : (pwOp 43).op = .load 26 (.tmp 49) := by kernel_rfl
theorem pw_hi44 : pwOps[44]? = some (pwOp 44) := by kernel_rfl
theorem pw_dst44 : (pwOp 44).dst = some 51 := by kernel_rfl
theorem pw_g44 : (pwOp 44).guard = some (41, false) := by kernel_rfl
theorem pw_op44 : (pwOp 44).op = .call { callee := .value (.func 26), args := #[.tmp 50], argTypes := #[26] } := by kernel_rfl
theorem pw_hi45 : pwOps[45]? = some (pwOp 45) := by kernel_rfl
theorem pw_dst45 : (pwOp 45).dst = some 52 := by kernel_rfl
theorem pw_g45 : (pwOp 45).guard = some (41, false) := by kernel_rfl
theorem pw_op45 : (pwOp 45).op = .unOp .not 4 (.tmp 51) := by kernel_rfl
theorem pw_hi46 : pwOps[46]? = some (pwOp 46) := by kernel_rfl
theorem pw_dst46 : (pwOp 46).dst = some 53 := by kernel_rfl
theorem pw_g46 : (pwOp 46).guard = none := by kernel_rfl
theorem pw_op46 : (pwOp 46).op = .pick (.tmp 48) (.const (.bool true)) (.tmp 52) := by kernel_rfl
theorem pw_hi47 : pwOps[47]? = some (pwOp 47) := by kernel_rfl
theorem pw_dst47 : (pwOp 47).dst = some 54 := by kernel_rfl
theorem pw_g47 : (pwOp 47).guard = none := by kernel_rfl
theorem pw_op47 : (pwOp 47).op = .move (.tmp 53) := by kernel_rfl
theorem pw_hi48 : pwOps[48]? = some (pwOp 48) := by kernel_rfl
theorem pw_dst48 : (pwOp 48).dst = some 55 := by kernel_rfl
theorem pw_g48 : (pwOp 48).guard = some (47, false) := by kernel_rfl
theorem pw_op48 : (pwOp 48).op = .fieldAddr 41 (.tmp 1) 3 := by kernel_rfl
theorem pw_hi49 : pwOps[49]? = some (pwOp 49) := by kernel_rfl
theorem pw_dst49 : (pwOp 49).dst = some 56 := by kernel_rfl
theorem pw_g49 : (pwOp 49).guard = some (47, false) := by kernel_rfl
theorem pw_op49 : (pwOp 49).op = .load 26 (.tmp 55) := by kernel_rfl
theorem pw_hi50 : pwOps[50]? = some (pwOp 50) := by kernel_rfl
theorem pw_dst50 : (pwOp 50).dst = some 57 := by kernel_rfl
theorem pw_g50 : (pwOp 50).guard = some (47, false) := by kernel_rfl
theorem pw_op50 : (pwOp 50).op = .call { callee := .value (.func 26), args := #[.tmp 56], argTypes := #[26] } := by kernel_rfl
theorem pw_hi51 : pwOps[51]? = some (pwOp 51) := by kernel_rfl
theorem pw_dst51 : (pwOp 51).dst = some 58 := by kernel_rfl
theorem pw_g51 : (pwOp 51).guard = some (47, false) := by kernel_rfl
theorem pw_op51 : (pwOp 51).op = .unOp .not 4 (.tmp 57) := by kernel_rfl
theorem pw_hi52 : pwOps[52]? = some (pwOp 52) := by kernel_rfl
theorem pw_dst52 : (pwOp 52).dst = some 59 := by kernel_rfl
theorem pw_g52 : (pwOp 52).guard = none := by kernel_rfl
theorem pw_op52 : (pwOp 52).op = .pick (.tmp 54) (.const (.bool true)) (.tmp 58) := by kernel_rfl
theorem pw_size : pwOps.size = 53 := by kernel_rfl
end Go.Proofs.YtecbhhfncklefaaDoor
