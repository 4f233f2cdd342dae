/- The operations of the row of 'PutSet' that asks whether it may be put, one by one, as constants; nothing is claimed of the program here. -/
import Derived.Test.YtecbhhfncklefaaDoorSeqOpsMx
namespace Go.Proofs.YtecbhhfncklefaaDoor
set_option linter.unusedVariables false
open Go.RowKit

noncomputable def psOps : Array Oper := pickRow (Tryd.f10.body.getD .skip) 2
noncomputable def psOp (k : Nat) : Oper := psOps[k]?.getD { dst := none, op := .move (.tmp 0), type := 0, pos := "", after := #[], guard := none }
theorem ps_enter_check : ∀ (args : Array Value) (w : World), (callFunc 26 args).run Tryd.prog w = .ok (.enter 26 args) w := fun _ _ => by simp [go_sem]
theorem ps_field0 {o : Oper} {a : Act} {w : World} {g : Nat} {x : Operand} (ho : o.op = .fieldAddr 37 x 0) (hx : a.eval x = .pointer (some ⟨g, 0, none⟩)) : (execOp a.eval o).run Tryd.prog w = .ok (.value (.pointer (some ⟨g, 0, none⟩))) w := by
  unfold execOp; simp only [ho, hx]; go_simp; try first | done | with_reducible rfl
theorem ps_field1 {o : Oper} {a : Act} {w : World} {g : Nat} {x : Operand} (ho : o.op = .fieldAddr 37 x 1) (hx : a.eval x = .pointer (some ⟨g, 0, none⟩)) : (execOp a.eval o).run Tryd.prog w = .ok (.value (.pointer (some ⟨g, 1, none⟩))) w := by
  unfold execOp; simp only [ho, hx]; go_simp; try first | done | with_reducible rfl
theorem ps_field2 {o : Oper} {a : Act} {w : World} {g : Nat} {x : Operand} (ho : o.op = .fieldAddr 37 x 2) (hx : a.eval x = .pointer (some ⟨g, 0, none⟩)) : (execOp a.eval o).run Tryd.prog w = .ok (.value (.pointer (some ⟨g, 2, none⟩))) w := by
  unfold execOp; simp only [ho, hx]; go_simp; try first | done | with_reducible rfl
theorem ps_field3 {o : Oper} {a : Act} {w : World} {g : Nat} {x : Operand} (ho : o.op = .fieldAddr 37 x 3) (hx : a.eval x = .pointer (some ⟨g, 0, none⟩)) : (execOp a.eval o).run Tryd.prog w = .ok (.value (.pointer (some ⟨g, 3, none⟩))) w := by
  unfold execOp; simp only [ho, hx]; go_simp; try first | done | with_reducible rfl
theorem ps_field4 {o : Oper} {a : Act} {w : World} {g : Nat} {x : Operand} (ho : o.op = .fieldAddr 37 x 4) (hx : a.eval x = .pointer (some ⟨g, 0, none⟩)) : (execOp a.eval o).run Tryd.prog w = .ok (.value (.pointer (some ⟨g, 4, none⟩))) w := by
  unfold execOp; simp only [ho, hx]; go_simp; try first | done | with_reducible rfl
theorem ps_field5 {o : Oper} {a : Act} {w : World} {g : Nat} {x : Operand} (ho : o.op = .fieldAddr 37 x 5) (hx : a.eval x = .pointer (some ⟨g, 0, none⟩)) : (execOp a.eval o).run Tryd.prog w = .ok (.value (.pointer (some ⟨g, 5, none⟩))) w := by
  unfold execOp; simp only [ho, hx]; go_simp; try first | done | with_reducible rfl
theorem ps_field6 {o : Oper} {a : Act} {w : World} {g : Nat} {x : Operand} (ho : o.op = .fieldAddr 37 x 6) (hx : a.eval x = .pointer (some ⟨g, 0, none⟩)) : (execOp a.eval o).run Tryd.prog w = .ok (.value (.pointer (some ⟨g, 6, none⟩))) w := by
  unfold execOp; simp only [ho, hx]; go_simp; try first | done | with_reducible rfl
theorem ps_field7 {o : Oper} {a : Act} {w : World} {g : Nat} {x : Operand} (ho : o.op = .fieldAddr 37 x 7) (hx : a.eval x = .pointer (some ⟨g, 0, none⟩)) : (execOp a.eval o).run Tryd.prog w = .ok (.value (.pointer (some ⟨g, 7, none⟩))) w := by
  unfold execOp; simp only [ho, hx]; go_simp; try first | done | with_reducible rfl
theorem ps_field8 {o : Oper} {a : Act} {w : World} {g : Nat} {x : Operand} (ho : o.op = .fieldAddr 37 x 8) (hx : a.eval x = .pointer (some ⟨g, 0, none⟩)) : (execOp a.eval o).run Tryd.prog w = .ok (.value (.pointer (some ⟨g, 8, none⟩))) w := by
  unfold execOp; simp only [ho, hx]; go_simp; try first | done | with_reducible rfl
theorem ps_field9 {o : Oper} {a : Act} {w : World} {g : Nat} {x : Operand} (ho : o.op = .fieldAddr 37 x 9) (hx : a.eval x = .pointer (some ⟨g, 0, none⟩)) : (execOp a.eval o).run Tryd.prog w = .ok (.value (.pointer (some ⟨g, 9, none⟩))) w := by
  unfold execOp; simp only [ho, hx]; go_simp; try first | done | with_reducible rfl
theorem ps_field10 {o : Oper} {a : Act} {w : World} {g : Nat} {x : Operand} (ho : o.op = .fieldAddr 37 x 10) (hx : a.eval x = .pointer (some ⟨g, 0, none⟩)) : (execOp a.eval o).run Tryd.prog w = .ok (.value (.pointer (some ⟨g, 11, none⟩))) w := by
  unfold execOp; simp only [ho, hx]; go_simp; try first | done | with_reducible rfl
theorem ps_field11 {o : Oper} {a : Act} {w : World} {g : Nat} {x : Operand} (ho : o.op = .fieldAddr 37 x 11) (hx : a.eval x = .pointer (some ⟨g, 0, none⟩)) : (execOp a.eval o).run Tryd.prog w = .ok (.value (.pointer (some ⟨g, 12, none⟩))) w := by
  unfold execOp; simp only [ho, hx]; go_simp; try first | done | with_reducible rfl
theorem ps_hi0 : psOps[0]? = some (psOp 0) := by kernel_rfl
theorem ps_dst0 : (psOp 0).dst = some 6 := by kernel_rfl
theorem ps_g0 : (psOp 0).guard = none := by kernel_rfl
theorem ps_op0 : (psOp 0).op = .fieldAddr 37 (.tmp 1) 1 := by kernel_rfl
theorem ps_hi1 : psOps[1]? = some (psOp 1) := by kernel_rfl
theorem ps_dst1 : (psOp 1).dst = some 7 := by kernel_rfl
theorem ps_g1 : (psOp 1).guard = none := by kernel_rfl
theorem ps_op1 : (psOp 1).op = .load 22 (.tmp 6) := by kernel_rfl
theorem ps_hi2 : psOps[2]? = some (psOp 2) := by kernel_rfl
theorem ps_dst2 : (psOp 2).dst = some 8 := by kernel_rfl
theorem ps_g2 : (psOp 2).guard = none := by kernel_rfl
theorem ps_op2 : (psOp 2).op = .binOp .gtr 22 (.tmp 7) (.const (.int .u32 4095)) 22 := by kernel_rfl
theorem ps_hi3 : psOps[3]? = some (psOp 3) := by kernel_rfl
theorem ps_dst3 : (psOp 3).dst = some 9 := by kernel_rfl
theorem ps_g3 : (psOp 3).guard = none := by kernel_rfl
theorem ps_op3 : (psOp 3).op = .move (.tmp 8) := by kernel_rfl
theorem ps_hi4 : psOps[4]? = some (psOp 4) := by kernel_rfl
theorem ps_dst4 : (psOp 4).dst = some 10 := by kernel_rfl
theorem ps_g4 : (psOp 4).guard = some (3, false) := by kernel_rfl
theorem ps_op4 : (psOp 4).op = .fieldAddr 37 (.tmp 1) 0 := by kernel_rfl
theorem ps_hi5 : psOps[5]? = some (psOp 5) := by kernel_rfl
theorem ps_dst5 : (psOp 5).dst = some 11 := by kernel_rfl
theorem ps_g5 : (psOp 5).guard = some (3, false) := by kernel_rfl
theorem ps_op5 : (psOp 5).op = .load 4 (.tmp 10) := by kernel_rfl
theorem ps_hi6 : psOps[6]? = some (psOp 6) := by kernel_rfl
theorem ps_dst6 : (psOp 6).dst = some 12 := by kernel_rfl
theorem ps_g6 : (psOp 6).guard = some (3, false) := by kernel_rfl
theorem ps_op6 : (psOp 6).op = .unOp .not 4 (.tmp 11) := by kernel_rfl
theorem ps_hi7 : psOps[7]? = some (psOp 7) := by kernel_rfl
theorem ps_dst7 : (psOp 7).dst = some 13 := by kernel_rfl
theorem ps_g7 : (psOp 7).guard = some (3, false) := by kernel_rfl
theorem ps_op7 : (psOp 7).op = .move (.tmp 12) := by kernel_rfl
theorem ps_hi8 : psOps[8]? = some (psOp 8) := by kernel_rfl
theorem ps_dst8 : (psOp 8).dst = some 14 := by kernel_rfl
theorem ps_g8 : (psOp 8).guard = some (7, true) := by kernel_rfl
theorem ps_op8 : (psOp 8).op = .fieldAddr 37 (.tmp 1) 1 := by kernel_rfl
theorem ps_hi9 : psOps[9]? = some (psOp 9) := by kernel_rfl
theorem ps_dst9 : (psOp 9).dst = some 15 := by kernel_rfl
theorem ps_g9 : (psOp 9).guard = some (7, true) := by kernel_rfl
theorem ps_op9 : (psOp 9).op = .load 22 (.tmp 14) := by kernel_rfl
theorem ps_hi10 : psOps[10]? = some (psOp 10) := by kernel_rfl
theorem ps_dst10 : (psOp 10).dst = some 16 := by kernel_rfl
theorem ps_g10 : (psOp 10).guard = some (7, true) := by kernel_rfl
theorem ps_op10 : (psOp 10).op = .binOp .neq 22 (.tmp 15) (.const (.int .u32 0)) 22 := by kernel_rfl
theorem ps_hi11 : psOps[11]? = some (psOp 11) := by kernel_rfl
theorem ps_dst11 : (psOp 11).dst = some 17 := by kernel_rfl
theorem ps_g11 : (psOp 11).guard = some (3, false) := by kernel_rfl
theorem ps_op11 : (psOp 11).op = .pick (.tmp 13) (.tmp 16) (.const (.bool false)) := by kernel_rfl
theorem ps_hi12 : psOps[12]? = some (psOp 12) := by kernel_rfl
theorem ps_dst12 : (psOp 12).dst = some 18 := by kernel_rfl
theorem ps_g12 : (psOp 12).guard = none := by kernel_rfl
theorem ps_op12 : (psOp 12).op = .pick (.tmp 9) (.const (.bool true)) (.tmp 17) := by kernel_rfl
theorem ps_hi13 : psOps[13]? = some (psOp 13) := by kernel_rfl
theorem ps_dst13 : (psOp 13).dst = some 19 := by kernel_rfl
theorem ps_g13 : (psOp 13).guard = none := by kernel_rfl
theorem ps_op13 : (psOp 13).op = .move (.tmp 18) := by kernel_rfl
theorem ps_hi14 : psOps[14]? = some (psOp 14) := by kernel_rfl
theorem ps_dst14 : (psOp 14).dst = some 20 := by kernel_rfl
theorem ps_g14 : (psOp 14).guard = some (13, false) := by kernel_rfl
theorem ps_op14 : (psOp 14).op = .fieldAddr 37 (.tmp 1) 2 := by kernel_rfl
theorem ps_hi15 : psOps[15]? = some (psOp 15) := by kernel_rfl
theorem ps_dst15 : (psOp 15).dst = some 21 := by kernel_rfl
theorem ps_g15 : (psOp 15).guard = some (13, false) := by kernel_rfl
theorem ps_op15 : (psOp 15).op = .load 4 (.tmp 20) := by kernel_rfl
theorem ps_hi16 : psOps[16]? = some (psOp 16) := by kernel_rfl
theorem ps_dst16 : (psOp 16).dst = some 22 := by kernel_rfl
theorem ps_g16 : (psOp 16).guard = some (13, false) := by kernel_rfl
theorem ps_op16 : (psOp 16).op = .unOp .not 4 (.tmp 21) := by kernel_rfl
theorem ps_hi17 : psOps[17]? = some (psOp 17) := by kernel_rfl
theorem ps_dst17 : (psOp 17).dst = some 23 := by kernel_rfl
theorem ps_g17 : (psOp 17).guard = some (13, false) := by kernel_rfl
theorem ps_op17 : (psOp 17).op = .move (.tmp 22) := by kernel_rfl
theorem ps_hi18 : psOps[18]? = some (psOp 18) := by kernel_rfl
theorem ps_dst18 : (psOp 18).dst = some 24 := by kernel_rfl
theorem ps_g18 : (psOp 18).guard = some (17, true) := by kernel_rfl
theorem ps_op18 : (psOp 18).op = .fieldAddr 37 (.tmp 1) 3 := by kernel_rfl
theorem ps_hi19 : psOps[19]? = some (psOp 19) := by kernel_rfl
theorem ps_dst19 : (psOp 19).dst = some 25 := by kernel_rfl
theorem ps_g19 : (psOp 19).guard = some (17, true) := by kernel_rfl
theorem ps_op19 : (psOp 19).op = .load 22 (.tmp 24) := by kernel_rfl
theorem ps_hi20 : psOps[20]? = some (psOp 20) := by kernel_rfl
theorem ps_dst20 : (psOp 20).dst = some 26 := by kernel_rfl
theorem ps_g20 : (psOp 20).guard = some (17, true) := by kernel_rfl
theorem ps_op20 : (psOp 20).op = .binOp .neq 22 (.tmp 25) (.const (.int .u32 0)) 22 := by kernel_rfl
theorem ps_hi21 : psOps[21]? = some (psOp 21) := by kernel_rfl
theorem ps_dst21 : (psOp 21).dst = some 27 := by kernel_rfl
theorem ps_g21 : (psOp 21).guard = some (13, false) := by kernel_rfl
theorem ps_op21 : (psOp 21).op = .pick (.tmp 23) (.tmp 26) (.const (.bool false)) := by kernel_rfl
theorem ps_hi22 : psOps[22]? = some (psOp 22) := by kernel_rfl
theorem ps_dst22 : (psOp 22).dst = some 28 := by kernel_rfl
theorem ps_g22 : (psOp 22).guard = none := by kernel_rfl
theorem ps_op22 : (psOp 22).op = .pick (.tmp 19) (.const (.bool true)) (.tmp 27) := by kernel_rfl
theorem ps_hi23 : psOps[23]? = some (psOp 23) := by kernel_rfl
theorem ps_dst23 : (psOp 23).dst = some 29 := by kernel_rfl
theorem ps_g23 : (psOp 23).guard = none := by kernel_rfl
theorem ps_op23 : (psOp 23).op = .move (.tmp 28) := by kernel_rfl
theorem ps_hi24 : psOps[24]? = some (psOp 24) := by kernel_rfl
theorem ps_dst24 : (psOp 24).dst = some 30 := by kernel_rfl
theorem ps_g24 : (psOp 24).guard = some (23, false) := by kernel_rfl
theorem ps_op24 : (psOp 24).op = .fieldAddr 37 (.tmp 1) 4 := by kernel_rfl
theorem ps_hi25 : psOps[25]? = some (psOp 25) := by kernel_rfl
theorem ps_dst25 : (psOp 25).dst = some 31 := by kernel_rfl
theorem ps_g25 : (psOp 25).guard = some (23, false) := by kernel_rfl
theorem ps_op25 : (psOp 25).op = .load 4 (.tmp 30) := by kernel_rfl
theorem ps_hi26 : psOps[26]? = some (psOp 26) := by kernel_rfl
theorem ps_dst26 : (psOp 26).dst = some 32 := by kernel_rfl
theorem ps_g26 : (psOp 26).guard = some (23, false) := by kernel_rfl
theorem ps_op26 : (psOp 26).op = .unOp .not 4 (.tmp 31) := by kernel_rfl
theorem ps_hi27 : psOps[27]? = some (psOp 27) := by kernel_rfl
theorem ps_dst27 : (psOp 27).dst = some 33 := by kernel_rfl
theorem ps_g27 : (psOp 27).guard = some (23, false) := by kernel_rfl
theorem ps_op27 : (psOp 27).op = .move (.tmp 32) := by kernel_rfl
theorem ps_hi28 : psOps[28]? = some (psOp 28) := by kernel_rfl
theorem ps_dst28 : (psOp 28).dst = some 34 := by kernel_rfl
theorem ps_g28 : (psOp 28).guard = some (27, true) := by kernel_rfl
theorem ps_op28 : (psOp 28).op = .fieldAddr 37 (.tmp 1) 5 := by kernel_rfl
theorem ps_hi29 : psOps[29]? = some (psOp 29) := by kernel_rfl
theorem ps_dst29 : (psOp 29).dst = some 35 := by kernel_rfl
theorem ps_g29 : (psOp 29).guard = some (27, true) := by kernel_rfl
theorem ps_op29 : (psOp 29).op = .load 22 (.tmp 34) := by kernel_rfl
theorem ps_hi30 : psOps[30]? = some (psOp 30) := by kernel_rfl
theorem ps_dst30 : (psOp 30).dst = some 36 := by kernel_rfl
theorem ps_g30 : (psOp 30).guard = some (27, true) := by kernel_rfl
theorem ps_op30 : (psOp 30).op = .binOp .neq 22 (.tmp 35) (.const (.int .u32 0)) 22 := by kernel_rfl
theorem ps_hi31 : psOps[31]? = some (psOp 31) := by kernel_rfl
theorem ps_dst31 : (psOp 31).dst = some 37 := by kernel_rfl
theorem ps_g31 : (psOp 31).guard = some (23, false) := by kernel_rfl
theorem ps_op31 : (psOp 31).op = .pick (.tmp 33) (.tmp 36) (.const (.bool false)) := by kernel_rfl
theorem ps_hi32 : psOps[32]? = some (psOp 32) := by kernel_rfl
theorem ps_dst32 : (psOp 32).dst = some 38 := by kernel_rfl
theorem ps_g32 : (psOp 32).guard = none := by kernel_rfl
theorem ps_op32 : (psOp 32).op = .pick (.tmp 29) (.const (.bool true)) (.tmp 37) := by kernel_rfl
theorem ps_hi33 : psOps[33]? = some (psOp 33) := by kernel_rfl
theorem ps_dst33 : (psOp 33).dst = some 39 := by kernel_rfl
theorem ps_g33 : (psOp 33).guard = none := by kernel_rfl
theorem ps_op33 : (psOp 33).op = .move (.tmp 38) := by kernel_rfl
theorem ps_hi34 : psOps[34]? = some (psOp 34) := by kernel_rfl
theorem ps_dst34 : (psOp 34).dst = some 40 := by kernel_rfl
theorem ps_g34 : (psOp 34).guard = some (33, false) := by kernel_rfl
theorem ps_op34 : (psOp 34).op = .fieldAddr 37 (.tmp 1) 6 := by kernel_rfl
theorem ps_hi35 : psOps[35]? = some (psOp 35) := by kernel_rfl
theorem ps_dst35 : (psOp 35).dst = some 41 := by kernel_rfl
theorem ps_g35 : (psOp 35).guard = some (33, false) := by kernel_rfl
theorem ps_op35 : (psOp 35).op = .load 4 (.tmp 40) := by kernel_rfl
theorem ps_hi36 : psOps[36]? = some (psOp 36) := by kernel_rfl
theorem ps_dst36 : (psOp 36).dst = some 42 := by kernel_rfl
theorem ps_g36 : (psOp 36).guard = some (33, false) := by kernel_rfl
theorem ps_op36 : (psOp 36).op = .unOp .not 4 (.tmp 41) := by kernel_rfl
theorem ps_hi37 : psOps[37]? = some (psOp 37) := by kernel_rfl
theorem ps_dst37 : (psOp 37).dst = some 43 := by kernel_rfl
theorem ps_g37 : (psOp 37).guard = some (33, false) := by kernel_rfl
theorem ps_op37 : (psOp 37).op = .move (.tmp 42) := by kernel_rfl
theorem ps_hi38 : psOps[38]? = some (psOp 38) := by kernel_rfl
theorem ps_dst38 : (psOp 38).dst = some 44 := by kernel_rfl
theorem ps_g38 : (psOp 38).guard = some (37, true) := by kernel_rfl
theorem ps_op38 : (psOp 38).op = .fieldAddr 37 (.tmp 1) 7 := by kernel_rfl
theorem ps_hi39 : psOps[39]? = some (psOp 39) := by kernel_rfl
theorem ps_dst39 : (psOp 39).dst = some 45 := by kernel_rfl
theorem ps_g39 : (psOp 39).guard = some (37, true) := by kernel_rfl
theorem ps_op39 : (psOp 39).op = .load 24 (.tmp 44) := by kernel_rfl
theorem ps_hi40 : psOps[40]? = some (psOp 40) := by kernel_rfl
theorem ps_dst40 : (psOp 40).dst = some 46 := by kernel_rfl
theorem ps_g40 : (psOp 40).guard = some (37, true) := by kernel_rfl
theorem ps_op40 : (psOp 40).op = .binOp .neq 24 (.tmp 45) (.const (.int .u64 0)) 24 := by kernel_rfl
theorem ps_hi41 : psOps[41]? = some (psOp 41) := by kernel_rfl
theorem ps_dst41 : (psOp 41).dst = some 47 := by kernel_rfl
theorem ps_g41 : (psOp 41).guard = some (33, false) := by kernel_rfl
theorem ps_op41 : (psOp 41).op = .pick (.tmp 43) (.tmp 46) (.const (.bool false)) := by kernel_rfl
theorem ps_hi42 : psOps[42]? = some (psOp 42) := by kernel_rfl
theorem ps_dst42 : (psOp 42).dst = some 48 := by kernel_rfl
theorem ps_g42 : (psOp 42).guard = none := by kernel_rfl
theorem ps_op42 : (psOp 42).op = .pick (.tmp 39) (.const (.bool true)) (.tmp 47) := by kernel_rfl
theorem ps_hi43 : psOps[43]? = some (psOp 43) := by kernel_rfl
theorem ps_dst43 : (psOp 43).dst = some 49 := by kernel_rfl
theorem ps_g43 : (psOp 43).guard = none := by kernel_rfl
theorem ps_op43 : (psOp 43).op = .move (.tmp 48) := by kernel_rfl
theorem ps_hi44 : psOps[44]? = some (psOp 44) := by kernel_rfl
theorem ps_dst44 : (psOp 44).dst = some 50 := by kernel_rfl
theorem ps_g44 : (psOp 44).guard = some (43, false) := by kernel_rfl
theorem ps_op44 : (psOp 44).op = .fieldAddr 37 (.tmp 1) 8 := by kernel_rfl
theorem ps_hi45 : psOps[45]? = some (psOp 45) := by kernel_rfl
theorem ps_dst45 : (psOp 45).dst = some 51 := by kernel_rfl
theorem ps_g45 : (psOp 45).guard = some (43, false) := by kernel_rfl
theorem ps_op45 : (psOp 45).op = .load 35 (.tmp 50) := by kernel_rfl
theorem ps_hi46 : psOps[46]? = some (psOp 46) := by kernel_rfl
theorem ps_dst46 : (psOp 46).dst = some 52 := by kernel_rfl
theorem ps_g46 : (psOp 46).guard = some (43, false) := by kernel_rfl
theorem ps_op46 : (psOp 46).op = .binOp .gtr 35 (.tmp 51) (.const (.int .u32 2)) 35 := by kernel_rfl
theorem ps_hi47 : psOps[47]? = some (psOp 47) := by kernel_rfl
theorem ps_dst47 : (psOp 47).dst = some 53 := by kernel_rfl
theorem ps_g47 : (psOp 47).guard = none := by kernel_rfl
theorem ps_op47 : (psOp 47).op = .pick (.tmp 49) (.const (.bool true)) (.tmp 52) := by kernel_rfl
theorem ps_hi48 : psOps[48]? = some (psOp 48) := by kernel_rfl
theorem ps_dst48 : (psOp 48).dst = some 54 := by kernel_rfl
theorem ps_g48 : (psOp 48).guard = none := by kernel_rfl
theorem ps_op48 : (psOp 48).op = .move (.tmp 53) := by kernel_rfl
theorem ps_hi49 : psOps[49]? = some (psOp 49) := by kernel_rfl
theorem ps_dst49 : (psOp 49).dst = some 55 := by kernel_rfl
theorem ps_g49 : (psOp 49).guard = some (48, false) := by kernel_rfl
theorem ps_op49 : (psOp 49).op = .fieldAddr 37 (.tmp 1) 10 := by kernel_rfl
theorem ps_hi50 : psOps[50]? = some (psOp 50) := by kernel_rfl
theorem ps_dst50 : (psOp 50).dst = some 56 := by kernel_rfl
theorem ps_g50 : (psOp 50).guard = some (48, false) := by kernel_rfl
theorem ps_op50 : (psOp 50).op = .load 35 (.tmp 55) := by kernel_rfl
theorem ps_hi51 : psOps[51]? = some (psOp 51) := by kernel_rfl
theorem ps_dst51 : (psOp 51).dst = some 57 := by kernel_rfl
theorem ps_g51 : (psOp 51).guard = some (48, false) := by kernel_rfl
theorem ps_op51 : (psOp 51).op = .binOp .gtr 35 (.tmp 56) (.const (.int .u32 2)) 35 := by kernel_rfl
theorem ps_hi52 : psOps[52]? = some (psOp 52) := by kernel_rfl
theorem ps_dst52 : (psOp 52).dst = some 58 := by kernel_rfl
theorem ps_g52 : (psOp 52).guard = none := by kernel_rfl
theorem ps_op52 : (psOp 52).op = .pick (.tmp 54) (.const (.bool true)) (.tmp 57) := by kernel_rfl
theorem ps_hi53 : psOps[53]? = some (psOp 53) := by kernel_rfl
theorem ps_dst53 : (psOp 53).dst = some 59 := by kernel_rfl
theorem ps_g53 : (psOp 53).guard = none := by kernel_rfl
theorem ps_op53 : (psOp 53).op = .move (.tmp 58) := by kernel_rfl
theorem ps_hi54 : psOps[54]? = some (psOp 54) := by kernel_rfl
theorem ps_dst54 : (psOp 54).dst = some 60 := by kernel_rfl
theorem ps_g54 : (psOp 54).guard = some (53, false) := by kernel_rfl
theorem ps_op54 : (psOp 54).op = .fieldAddr 37 (.tmp 1) 8 := by kernel_rfl
theorem ps_hi55 : psOps[55]? = some (psOp 55) := by kernel_rfl
theorem ps_dst55 : (psOp 55).dst = some 61 := by kernel_rfl
theorem ps_g55 : (psOp 55).guard = some (53, false) := by kernel_rfl
theorem ps_op55 : (psOp 55).op = .load 35 (.tmp 60) := by kernel_rfl
theorem ps_hi56 : psOps[56]? = some (psOp 56) := by kernel_rfl
theorem ps_dst56 : (psOp 56).dst = some 62 := by kernel_rfl
theorem ps_g56 : (psOp 56).guard = some (53, false) := by kernel_rfl
theorem ps_op56 : (psOp 56).op = .binOp .neq 35 (.tmp 61) (.const (.int .u32 2)) 35 := by kernel_rfl
theorem ps_hi57 : psOps[57]? = some (psOp 57) := by kernel_rfl
theorem ps_dst57 : (psOp 57).dst = some 63 := by kernel_rfl
theorem ps_g57 : (psOp 57).guard = some (53, false) := by kernel_rfl
theorem ps_op57 : (psOp 57).op = .move (.tmp 62) := by kernel_rfl
theorem ps_hi58 : psOps[58]? = some (psOp 58) := by kernel_rfl
theorem ps_dst58 : (psOp 58).dst = some 64 := by kernel_rfl
theorem ps_g58 : (psOp 58).guard = some (57, true) := by kernel_rfl
theorem ps_op58 : (psOp 58).op = .fieldAddr 37 (.tmp 1) 9 := by kernel_rfl
theorem ps_hi59 : psOps[59]? = some (psOp 59) := by kernel_rfl
theorem ps_dst59 : (psOp 59).dst = some 65 := by kernel_rfl
theorem ps_g59 : (psOp 59).guard = some (57, true) := by kernel_rfl
theorem ps_op59 : (psOp 59).op = .load 26 (.tmp 64) := by kernel_rfl
theorem ps_hi60 : psOps[60]? = some (psOp 60) := by kernel_rfl
theorem ps_dst60 : (psOp 60).dst = some 66 := by kernel_rfl
theorem ps_g60 : (psOp 60).guard = some (57, true) := by kernel_rfl
theorem ps_op60 : (psOp 60).op = .load 26 (.tmp 4) := by kernel_rfl
theorem ps_hi61 : psOps[61]? = some (psOp 61) := by kernel_rfl
theorem ps_dst61 : (psOp 61).dst = some 67 := by kernel_rfl
theorem ps_g61 : (psOp 61).guard = some (57, true) := by kernel_rfl
theorem ps_op61 : (psOp 61).op = .binOp .neq 26 (.tmp 65) (.tmp 66) 26 := by kernel_rfl
theorem ps_hi62 : psOps[62]? = some (psOp 62) := by kernel_rfl
theorem ps_dst62 : (psOp 62).dst = some 68 := by kernel_rfl
theorem ps_g62 : (psOp 62).guard = some (53, false) := by kernel_rfl
theorem ps_op62 : (psOp 62).op = .pick (.tmp 63) (.tmp 67) (.const (.bool false)) := by kernel_rfl
theorem ps_hi63 : psOps[63]? = some (psOp 63) := by kernel_rfl
theorem ps_dst63 : (psOp 63).dst = some 69 := by kernel_rfl
theorem ps_g63 : (psOp 63).guard = none := by kernel_rfl
theorem ps_op63 : (psOp 63).op = .pick (.tmp 59) (.const (.bool true)) (.tmp 68) := by kernel_rfl
theorem ps_hi64 : psOps[64]? = some (psOp 64) := by kernel_rfl
theorem ps_dst64 : (psOp 64).dst = some 70 := by kernel_rfl
theorem ps_g64 : (psOp 64).guard = none := by kernel_rfl
theorem ps_op64 : (psOp 64).op = .move (.tmp 69) := by kernel_rfl
theorem ps_hi65 : psOps[65]? = some (psOp 65) := by kernel_rfl
theorem ps_dst65 : (psOp 65).dst = some 71 := by kernel_rfl
theorem ps_g65 : (psOp 65).guard = some (64, false) := by kernel_rfl
theorem ps_op65 : (psOp 65).op = .fieldAddr 37 (.tmp 1) 10 := by kernel_rfl
theorem ps_hi66 : psOps[66]? = some (psOp 66) := by kernel_rfl
theorem ps_dst66 : (psOp 66).dst = some 72 := by kernel_rfl
theorem ps_g66 : (psOp 66).guard = some (64, false) := by kernel_rfl
theorem ps_op66 : (psOp 66).op = .load 35 (.tmp 71) := by kernel_rfl
theorem ps_hi67 : psOps[67]? = some (psOp 67) := by kernel_rfl
theorem ps_dst67 : (psOp 67).dst = some 73 := by kernel_rfl
theorem ps_g67 : (psOp 67).guard = some (64, false) := by kernel_rfl
theorem ps_op67 : (psOp 67).op = .binOp .neq 35 (.tmp 72) (.const (.int .u32 2)) 35 := by kernel_rfl
theorem ps_hi68 : psOps[68]? = some (psOp 68) := by kernel_rfl
theorem ps_dst68 : (psOp 68).dst = some 74 := by kernel_rfl
theorem ps_g68 : (psOp 68).guard = some (64, false) := by kernel_rfl
theorem ps_op68 : (psOp 68).op = .move (.tmp 73) := by kernel_rfl
theorem ps_hi69 : psOps[69]? = some (psOp 69) := by kernel_rfl
theorem ps_dst69 : (psOp 69).dst = some 75 := by kernel_rfl
theorem ps_g69 : (psOp 69).guard = some (68, true) := by kernel_rfl
theorem ps_op69 : (psOp 69).op = .fieldAddr 37 (.tmp 1) 11 := by kernel_rfl
theorem ps_hi70 : psOps[70]? = some (psOp 70) := by kernel_rfl
theorem ps_dst70 : (psOp 70).dst = some 76 := by kernel_rfl
theorem ps_g70 : (psOp 70).guard = some (68, true) := by kernel_rfl
theorem ps_op70 : (psOp 70).op = .load 26 (.tmp 75) := by kernel_rfl
theorem ps_hi71 : psOps[71]? = some (psOp 71) := by kernel_rfl
theorem ps_dst71 : (psOp 71).dst = some 77 := by kernel_rfl
theorem ps_g71 : (psOp 71).guard = some (68, true) := by kernel_rfl
theorem ps_op71 : (psOp 71).op = .load 26 (.tmp 4) := by kernel_rfl
theorem ps_hi72 : psOps[72]? = some (psOp 72) := by kernel_rfl
theorem ps_dst72 : (psOp 72).dst = some 78 := by kernel_rfl
theorem ps_g72 : (psOp 72).guard = some (68, true) := by kernel_rfl
theorem ps_op72 : (psOp 72).op = .binOp .neq 26 (.tmp 76) (.tmp 77) 26 := by kernel_rfl
theorem ps_hi73 : psOps[73]? = some (psOp 73) := by kernel_rfl
theorem ps_dst73 : (psOp 73).dst = some 79 := by kernel_rfl
theorem ps_g73 : (psOp 73).guard = some (64, false) := by kernel_rfl
theorem ps_op73 : (psOp 73).op = .pick (.tmp 74) (.tmp 78) (.const (.bool false)) := by kernel_rfl
theorem ps_hi74 : psOps[74]? = some (psOp 74) := by kernel_rfl
theorem ps_dst74 : (psOp 74).dst = some 80 := by kernel_rfl
theorem ps_g74 : (psOp 74).guard = none := by kernel_rfl
theorem ps_op74 : (psOp 74).op = .pick (.tmp 70) (.const (.bool true)) (.tmp 79) := by kernel_rfl
theorem ps_hi75 : psOps[75]? = some (psOp 75) := by kernel_rfl
theorem ps_dst75 : (psOp 75).dst = some 81 := by kernel_rfl
theorem ps_g75 : (psOp 75).guard = none := by kernel_rfl
theorem ps_op75 : (psOp 75).op = .move (.tmp 80) := by kernel_rfl
theorem ps_hi76 : psOps[76]? = some (psOp 76) := by kernel_rfl
theorem ps_dst76 : (psOp 76).dst = some 82 := by kernel_rfl
theorem ps_g76 : (psOp 76).guard = some (75, false) := by kernel_rfl
theorem ps_op76 : (psOp 76).op = .fieldAddr 37 (.tmp 1) 9 := by kernel_rfl
theorem ps_hi77 : psOps[77]? = some (psOp 77) := by kernel_rfl
theorem ps_dst77 : (psOp 77).dst = some 83 := by kernel_rfl
theorem ps_g77 : (psOp 77).guard = some (75, false) := by kernel_rfl
theorem ps_op77 : (psOp 77).op = .load 26 (.tmp 82) := by kernel_rfl
theorem ps_hi78 : psOps[78]? = some (psOp 78) := by kernel_rfl
theorem ps_dst78 : (psOp 78).dst = some 84 := by kernel_rfl
theorem ps_g78 : (psOp 78).guard = some (75, false) := by kernel_rfl
theorem ps_op78 : (psOp 78).op = .call { callee := .value (.func 26), args := #[.tmp 83], argTypes := #[26] } := by kernel_rfl
theorem ps_hi79 : psOps[79]? = some (psOp 79) := by kernel_rfl
theorem ps_dst79 : (psOp 79).dst = some 85 := by kernel_rfl
theorem ps_g79 : (psOp 79).guard = some (75, false) := by kernel_rfl
theorem ps_op79 : (psOp 79).op = .unOp .not 4 (.tmp 84) := by kernel_rfl
theorem ps_hi80 : psOps[80]? = some (psOp 80) := by kernel_rfl
theorem ps_dst80 : (psOp 80).dst = some 86 := by kernel_rfl
theorem ps_g80 : (psOp 80).guard = none := by kernel_rfl
theorem ps_op80 : (psOp 80).op = .pick (.tmp 81) (.const (.bool true)) (.tmp 85) := by kernel_rfl
theorem ps_hi81 : psOps[81]? = some (psOp 81) := by kernel_rfl
theorem ps_dst81 : (psOp 81).dst = some 87 := by kernel_rfl
theorem ps_g81 : (psOp 81).guard = none := by kernel_rfl
theorem ps_op81 : (psOp 81).op = .move (.tmp 86) := by kernel_rfl
theorem ps_hi82 : psOps[82]? = some (psOp 82) := by kernel_rfl
theorem ps_dst82 : (psOp 82).dst = some 88 := by kernel_rfl
theorem ps_g82 : (psOp 82).guard = some (81, false) := by kernel_rfl
theorem ps_op82 : (psOp 82).op = .fieldAddr 37 (.tmp 1) 11 := by kernel_rfl
theorem ps_hi83 : psOps[83]? = some (psOp 83) := by kernel_rfl
theorem ps_dst83 : (psOp 83).dst = some 89 := by kernel_rfl
theorem ps_g83 : (psOp 83).guard = some (81, false) := by kernel_rfl
theorem ps_op83 : (psOp 83).op = .load 26 (.tmp 88) := by kernel_rfl
theorem ps_hi84 : psOps[84]? = some (psOp 84) := by kernel_rfl
theorem ps_dst84 : (psOp 84).dst = some 90 := by kernel_rfl
theorem ps_g84 : (psOp 84).guard = some (81, false) := by kernel_rfl
theorem ps_op84 : (psOp 84).op = .call { callee := .value (.func 26), args := #[.tmp 89], argTypes := #[26] } := by kernel_rfl
theorem ps_hi85 : psOps[85]? = some (psOp 85) := by kernel_rfl
theorem ps_dst85 : (psOp 85).dst = some 91 := by kernel_rfl
theorem ps_g85 : (psOp 85).guard = some (81, false) := by kernel_rfl
theorem ps_op85 : (psOp 85).op = .unOp .not 4 (.tmp 90) := by kernel_rfl
theorem ps_hi86 : psOps[86]? = some (psOp 86) := by kernel_rfl
theorem ps_dst86 : (psOp 86).dst = some 92 := by kernel_rfl
theorem ps_g86 : (psOp 86).guard = none := by kernel_rfl
theorem ps_op86 : (psOp 86).op = .pick (.tmp 87) (.const (.bool true)) (.tmp 91) := by kernel_rfl
theorem ps_size : psOps.size = 87 := by kernel_rfl
end Go.Proofs.YtecbhhfncklefaaDoor
