/- The row of 'PutSet' that asks whether it may be put: its parts between '||', one by one; nothing is claimed of the program here. -/
import Derived.Test.YtecbhhfncklefaaDoorPsOpsMx
namespace Go.Proofs.YtecbhhfncklefaaDoor
set_option linter.unusedVariables false
open Go.RowKit

set_option maxRecDepth 100000 in
set_option maxHeartbeats 2000000 in
theorem ps_d1 {Q : Exit → Act → World → Prop} {S : World → Prop} (u0 u2 u3 u5 : Value) (h hn : Nat) (mode : Int) (d2 : Bool) (hl_h_1 : ∀ w, S w → (loadVar 22 ⟨h, 1, none⟩).run Tryd.prog w = .ok (.int .u32 mode) w) (hd2 : ∀ w, (binOp .gtr 22 (.int .u32 mode) (.int .u32 4095)).run Tryd.prog w = .ok (.bool d2) w) (he2 : ∀ w, (eqGuard .gtr 22 (.tmp 7) (.const (.int .u32 4095)) (.int .u32 mode) (.int .u32 4095)).run Tryd.prog w = .ok () w)
    (w : World) (hS : S w)
    (hnext : ∀ (u6 u7 : Value) (w' : World), S w' → SeqAt Tryd.prog psOps Q 3 ⟨#[u0, .pointer (some ⟨h, 0, none⟩), u2, u3, .pointer (some ⟨hn, 0, none⟩), u5, u6, u7, .bool (d2), undef, undef, undef, undef, undef, undef, undef, undef, undef, undef, undef, undef, undef, undef, undef, undef, undef, undef, undef, undef, undef, undef, undef, undef, undef, undef, undef, undef, undef, undef, undef, undef, undef, undef, undef, undef, undef, undef, undef, undef, undef, undef, undef, undef, undef, undef, undef, undef, undef, undef, undef, undef, undef, undef, undef, undef, undef, undef, undef, undef, undef, undef, undef, undef, undef, undef, undef, undef, undef, undef, undef, undef, undef, undef, undef, undef, undef, undef, undef, undef, undef, undef, undef, undef, undef, undef, undef, undef, undef, undef, undef, undef, undef, undef, undef, undef, undef, undef, undef, undef, undef, undef, undef, undef, undef, undef, undef, undef, undef, undef, undef, undef, undef, undef, undef, undef, undef, undef, undef, undef, undef, undef, undef, undef], []⟩ w') :
    SeqAt Tryd.prog psOps Q 0 ⟨#[u0, .pointer (some ⟨h, 0, none⟩), u2, u3, .pointer (some ⟨hn, 0, none⟩), u5, undef, undef, undef, undef, undef, undef, undef, undef, undef, undef, undef, undef, undef, undef, undef, undef, undef, undef, undef, undef, undef, undef, undef, undef, undef, undef, undef, undef, undef, undef, undef, undef, undef, undef, undef, undef, undef, undef, undef, undef, undef, undef, undef, undef, undef, undef, undef, undef, undef, undef, undef, undef, undef, undef, undef, undef, undef, undef, undef, undef, undef, undef, undef, undef, undef, undef, undef, undef, undef, undef, undef, undef, undef, undef, undef, undef, undef, undef, undef, undef, undef, undef, undef, undef, undef, undef, undef, undef, undef, undef, undef, undef, undef, undef, undef, undef, undef, undef, undef, undef, undef, undef, undef, undef, undef, undef, undef, undef, undef, undef, undef, undef, undef, undef, undef, undef, undef, undef, undef, undef, undef, undef, undef, undef, undef, undef, undef], []⟩ w := by
  refine seq_take (k := 0) (o := psOp 0) (v := .pointer (some ⟨h, 1, none⟩)) ps_hi0 (want_none ps_g0) (ps_field1 ps_op0 rfl) ?_
  simp only [Act.put, ps_dst0, List.setIfInBounds_toArray, List.set_cons_zero, List.set_cons_succ]
  refine seq_take (k := 1) (o := psOp 1) (v := .int .u32 mode) ps_hi1 (want_none ps_g1) (run_load ps_op1 rfl (hl_h_1 _ hS)) ?_
  simp only [Act.put, ps_dst1, List.setIfInBounds_toArray, List.set_cons_zero, List.set_cons_succ]
  refine seq_take (k := 2) (o := psOp 2) (v := .bool d2) ps_hi2 (want_none ps_g2) (run_bin ps_op2 rfl rfl (he2 _) (hd2 _)) ?_
  simp only [Act.put, ps_dst2, List.setIfInBounds_toArray, List.set_cons_zero, List.set_cons_succ]
  exact hnext _ _ _ hS
set_option maxRecDepth 100000 in
set_option maxHeartbeats 2000000 in
theorem ps_d2 {Q : Exit → Act → World → Prop} {S : World → Prop} (u0 u2 u3 u5 u6 u7 : Value) (h hn : Nat) (b : Bool) (hm : Bool) (mode : Int) (d10 : Bool) (hl_h_0 : ∀ w, S w → (loadVar 4 ⟨h, 0, none⟩).run Tryd.prog w = .ok (.bool hm) w) (hl_h_1 : ∀ w, S w → (loadVar 22 ⟨h, 1, none⟩).run Tryd.prog w = .ok (.int .u32 mode) w) (hd10 : ∀ w, (binOp .neq 22 (.int .u32 mode) (.int .u32 0)).run Tryd.prog w = .ok (.bool d10) w) (he10 : ∀ w, (eqGuard .neq 22 (.tmp 15) (.const (.int .u32 0)) (.int .u32 mode) (.int .u32 0)).run Tryd.prog w = .ok () w)
    (w : World) (hS : S w)
    (hnext : ∀ (u9 u10 u11 u12 u13 u14 u15 u16 u17 : Value) (w' : World), S w' → SeqAt Tryd.prog psOps Q 13 ⟨#[u0, .pointer (some ⟨h, 0, none⟩), u2, u3, .pointer (some ⟨hn, 0, none⟩), u5, u6, u7, .bool b, u9, u10, u11, u12, u13, u14, u15, u16, u17, .bool (b || (!hm && d10)), undef, undef, undef, undef, undef, undef, undef, undef, undef, undef, undef, undef, undef, undef, undef, undef, undef, undef, undef, undef, undef, undef, undef, undef, undef, undef, undef, undef, undef, undef, undef, undef, undef, undef, undef, undef, undef, undef, undef, undef, undef, undef, undef, undef, undef, undef, undef, undef, undef, undef, undef, undef, undef, undef, undef, undef, undef, undef, undef, undef, undef, undef, undef, undef, undef, undef, undef, undef, undef, undef, undef, undef, undef, undef, undef, undef, undef, undef, undef, undef, undef, undef, undef, undef, undef, undef, undef, undef, undef, undef, undef, undef, undef, undef, undef, undef, undef, undef, undef, undef, undef, undef, undef, undef, undef, undef, undef, undef, undef, undef, undef, undef, undef, undef], []⟩ w') :
    SeqAt Tryd.prog psOps Q 3 ⟨#[u0, .pointer (some ⟨h, 0, none⟩), u2, u3, .pointer (some ⟨hn, 0, none⟩), u5, u6, u7, .bool b, undef, undef, undef, undef, undef, undef, undef, undef, undef, undef, undef, undef, undef, undef, undef, undef, undef, undef, undef, undef, undef, undef, undef, undef, undef, undef, undef, undef, undef, undef, undef, undef, undef, undef, undef, undef, undef, undef, undef, undef, undef, undef, undef, undef, undef, undef, undef, undef, undef, undef, undef, undef, undef, undef, undef, undef, undef, undef, undef, undef, undef, undef, undef, undef, undef, undef, undef, undef, undef, undef, undef, undef, undef, undef, undef, undef, undef, undef, undef, undef, undef, undef, undef, undef, undef, undef, undef, undef, undef, undef, undef, undef, undef, undef, undef, undef, undef, undef, undef, undef, undef, undef, undef, undef, undef, undef, undef, undef, undef, undef, undef, undef, undef, undef, undef, undef, undef, undef, undef, undef, undef, undef, undef, undef], []⟩ w := by
  refine seq_take (k := 3) (o := psOp 3) (v := .bool b) ps_hi3 (want_none ps_g3) (run_move ps_op3 rfl) ?_
  simp only [Act.put, ps_dst3, List.setIfInBounds_toArray, List.set_cons_zero, List.set_cons_succ]
  cases b with
  | false =>
    refine seq_take (k := 4) (o := psOp 4) (v := .pointer (some ⟨h, 0, none⟩)) ps_hi4 (want_other (c := false) ps_g4 ps_hi3 ps_dst3 (by rfl) rfl) (ps_field0 ps_op4 rfl) ?_
    simp only [Act.put, ps_dst4, List.setIfInBounds_toArray, List.set_cons_zero, List.set_cons_succ]
    cases hm with
    | false =>
      refine seq_take (k := 5) (o := psOp 5) (v := .bool false) ps_hi5 (want_other (c := false) ps_g5 ps_hi3 ps_dst3 (by rfl) rfl) (run_load ps_op5 rfl (hl_h_0 _ hS)) ?_
      simp only [Act.put, ps_dst5, List.setIfInBounds_toArray, List.set_cons_zero, List.set_cons_succ]
      refine seq_take (k := 6) (o := psOp 6) (v := .bool true) ps_hi6 (want_other (c := false) ps_g6 ps_hi3 ps_dst3 (by rfl) rfl) (run_not (b := false) (r := true) ps_op6 rfl rfl) ?_
      simp only [Act.put, ps_dst6, List.setIfInBounds_toArray, List.set_cons_zero, List.set_cons_succ]
      refine seq_take (k := 7) (o := psOp 7) (v := .bool true) ps_hi7 (want_other (c := false) ps_g7 ps_hi3 ps_dst3 (by rfl) rfl) (run_move ps_op7 rfl) ?_
      simp only [Act.put, ps_dst7, List.setIfInBounds_toArray, List.set_cons_zero, List.set_cons_succ]
      refine seq_take (k := 8) (o := psOp 8) (v := .pointer (some ⟨h, 1, none⟩)) ps_hi8 (want_other (c := true) ps_g8 ps_hi7 ps_dst7 (by rfl) rfl) (ps_field1 ps_op8 rfl) ?_
      simp only [Act.put, ps_dst8, List.setIfInBounds_toArray, List.set_cons_zero, List.set_cons_succ]
      refine seq_take (k := 9) (o := psOp 9) (v := .int .u32 mode) ps_hi9 (want_other (c := true) ps_g9 ps_hi7 ps_dst7 (by rfl) rfl) (run_load ps_op9 rfl (hl_h_1 _ hS)) ?_
      simp only [Act.put, ps_dst9, List.setIfInBounds_toArray, List.set_cons_zero, List.set_cons_succ]
      refine seq_take (k := 10) (o := psOp 10) (v := .bool d10) ps_hi10 (want_other (c := true) ps_g10 ps_hi7 ps_dst7 (by rfl) rfl) (run_bin ps_op10 rfl rfl (he10 _) (hd10 _)) ?_
      simp only [Act.put, ps_dst10, List.setIfInBounds_toArray, List.set_cons_zero, List.set_cons_succ]
      refine seq_take (k := 11) (o := psOp 11) (v := .bool d10) ps_hi11 (want_other (c := false) ps_g11 ps_hi3 ps_dst3 (by rfl) rfl) (run_pickt ps_op11 rfl rfl) ?_
      simp only [Act.put, ps_dst11, List.setIfInBounds_toArray, List.set_cons_zero, List.set_cons_succ]
      refine seq_take (k := 12) (o := psOp 12) (v := .bool d10) ps_hi12 (want_none ps_g12) (run_pickf ps_op12 rfl rfl) ?_
      simp only [Act.put, ps_dst12, List.setIfInBounds_toArray, List.set_cons_zero, List.set_cons_succ]
      exact hnext _ _ _ _ _ _ _ _ _ _ hS
    | true =>
      refine seq_take (k := 5) (o := psOp 5) (v := .bool true) ps_hi5 (want_other (c := false) ps_g5 ps_hi3 ps_dst3 (by rfl) rfl) (run_load ps_op5 rfl (hl_h_0 _ hS)) ?_
      simp only [Act.put, ps_dst5, List.setIfInBounds_toArray, List.set_cons_zero, List.set_cons_succ]
      refine seq_take (k := 6) (o := psOp 6) (v := .bool false) ps_hi6 (want_other (c := false) ps_g6 ps_hi3 ps_dst3 (by rfl) rfl) (run_not (b := true) (r := false) ps_op6 rfl rfl) ?_
      simp only [Act.put, ps_dst6, List.setIfInBounds_toArray, List.set_cons_zero, List.set_cons_succ]
      refine seq_take (k := 7) (o := psOp 7) (v := .bool false) ps_hi7 (want_other (c := false) ps_g7 ps_hi3 ps_dst3 (by rfl) rfl) (run_move ps_op7 rfl) ?_
      simp only [Act.put, ps_dst7, List.setIfInBounds_toArray, List.set_cons_zero, List.set_cons_succ]
      refine seq_skip (k := 8) (o := psOp 8) ps_hi8 (want_not (c := false) ps_g8 ps_hi7 ps_dst7 (by rfl) rfl) ?_
      simp only [Act.put, ps_dst8, List.setIfInBounds_toArray, List.set_cons_zero, List.set_cons_succ]
      refine seq_skip (k := 9) (o := psOp 9) ps_hi9 (want_not (c := false) ps_g9 ps_hi7 ps_dst7 (by rfl) rfl) ?_
      simp only [Act.put, ps_dst9, List.setIfInBounds_toArray, List.set_cons_zero, List.set_cons_succ]
      refine seq_skip (k := 10) (o := psOp 10) ps_hi10 (want_not (c := false) ps_g10 ps_hi7 ps_dst7 (by rfl) rfl) ?_
      simp only [Act.put, ps_dst10, List.setIfInBounds_toArray, List.set_cons_zero, List.set_cons_succ]
      refine seq_take (k := 11) (o := psOp 11) (v := .bool false) ps_hi11 (want_other (c := false) ps_g11 ps_hi3 ps_dst3 (by rfl) rfl) (run_pickf ps_op11 rfl rfl) ?_
      simp only [Act.put, ps_dst11, List.setIfInBounds_toArray, List.set_cons_zero, List.set_cons_succ]
      refine seq_take (k := 12) (o := psOp 12) (v := .bool false) ps_hi12 (want_none ps_g12) (run_pickf ps_op12 rfl rfl) ?_
      simp only [Act.put, ps_dst12, List.setIfInBounds_toArray, List.set_cons_zero, List.set_cons_succ]
      exact hnext _ _ _ _ _ _ _ _ _ _ hS
  | true =>
    refine seq_skip (k := 4) (o := psOp 4) ps_hi4 (want_not (c := true) ps_g4 ps_hi3 ps_dst3 (by rfl) rfl) ?_
    simp only [Act.put, ps_dst4, List.setIfInBounds_toArray, List.set_cons_zero, List.set_cons_succ]
    refine seq_skip (k := 5) (o := psOp 5) ps_hi5 (want_not (c := true) ps_g5 ps_hi3 ps_dst3 (by rfl) rfl) ?_
    simp only [Act.put, ps_dst5, List.setIfInBounds_toArray, List.set_cons_zero, List.set_cons_succ]
    refine seq_skip (k := 6) (o := psOp 6) ps_hi6 (want_not (c := true) ps_g6 ps_hi3 ps_dst3 (by rfl) rfl) ?_
    simp only [Act.put, ps_dst6, List.setIfInBounds_toArray, List.set_cons_zero, List.set_cons_succ]
    refine seq_skip (k := 7) (o := psOp 7) ps_hi7 (want_not (c := true) ps_g7 ps_hi3 ps_dst3 (by rfl) rfl) ?_
    simp only [Act.put, ps_dst7, List.setIfInBounds_toArray, List.set_cons_zero, List.set_cons_succ]
    refine seq_skip (k := 8) (o := psOp 8) ps_hi8 (want_undef ps_g8 ps_hi7 ps_dst7 (by rfl)) ?_
    simp only [Act.put, ps_dst8, List.setIfInBounds_toArray, List.set_cons_zero, List.set_cons_succ]
    refine seq_skip (k := 9) (o := psOp 9) ps_hi9 (want_undef ps_g9 ps_hi7 ps_dst7 (by rfl)) ?_
    simp only [Act.put, ps_dst9, List.setIfInBounds_toArray, List.set_cons_zero, List.set_cons_succ]
    refine seq_skip (k := 10) (o := psOp 10) ps_hi10 (want_undef ps_g10 ps_hi7 ps_dst7 (by rfl)) ?_
    simp only [Act.put, ps_dst10, List.setIfInBounds_toArray, List.set_cons_zero, List.set_cons_succ]
    refine seq_skip (k := 11) (o := psOp 11) ps_hi11 (want_not (c := true) ps_g11 ps_hi3 ps_dst3 (by rfl) rfl) ?_
    simp only [Act.put, ps_dst11, List.setIfInBounds_toArray, List.set_cons_zero, List.set_cons_succ]
    refine seq_take (k := 12) (o := psOp 12) (v := .bool true) ps_hi12 (want_none ps_g12) (run_pickt ps_op12 rfl rfl) ?_
    simp only [Act.put, ps_dst12, List.setIfInBounds_toArray, List.set_cons_zero, List.set_cons_succ]
    exact hnext _ _ _ _ _ _ _ _ _ _ hS
set_option maxRecDepth 100000 in
set_option maxHeartbeats 2000000 in
theorem ps_d3 {Q : Exit → Act → World → Prop} {S : World → Prop} (u0 u2 u3 u5 u6 u7 u8 u9 u10 u11 u12 u13 u14 u15 u16 u17 : Value) (h hn : Nat) (b : Bool) (hu : Bool) (user : Int) (d20 : Bool) (hl_h_2 : ∀ w, S w → (loadVar 4 ⟨h, 2, none⟩).run Tryd.prog w = .ok (.bool hu) w) (hl_h_3 : ∀ w, S w → (loadVar 22 ⟨h, 3, none⟩).run Tryd.prog w = .ok (.int .u32 user) w) (hd20 : ∀ w, (binOp .neq 22 (.int .u32 user) (.int .u32 0)).run Tryd.prog w = .ok (.bool d20) w) (he20 : ∀ w, (eqGuard .neq 22 (.tmp 25) (.const (.int .u32 0)) (.int .u32 user) (.int .u32 0)).run Tryd.prog w = .ok () w)
    (w : World) (hS : S w)
    (hnext : ∀ (u19 u20 u21 u22 u23 u24 u25 u26 u27 : Value) (w' : World), S w' → SeqAt Tryd.prog psOps Q 23 ⟨#[u0, .pointer (some ⟨h, 0, none⟩), u2, u3, .pointer (some ⟨hn, 0, none⟩), u5, u6, u7, u8, u9, u10, u11, u12, u13, u14, u15, u16, u17, .bool b, u19, u20, u21, u22, u23, u24, u25, u26, u27, .bool (b || (!hu && d20)), undef, undef, undef, undef, undef, undef, undef, undef, undef, undef, undef, undef, undef, undef, undef, undef, undef, undef, undef, undef, undef, undef, undef, undef, undef, undef, undef, undef, undef, undef, undef, undef, undef, undef, undef, undef, undef, undef, undef, undef, undef, undef, undef, undef, undef, undef, undef, undef, undef, undef, undef, undef, undef, undef, undef, undef, undef, undef, undef, undef, undef, undef, undef, undef, undef, undef, undef, undef, undef, undef, undef, undef, undef, undef, undef, undef, undef, undef, undef, undef, undef, undef, undef, undef, undef, undef, undef, undef, undef, undef, undef, undef, undef, undef, undef, undef, undef, undef, undef, undef, undef, undef, undef, undef], []⟩ w') :
    SeqAt Tryd.prog psOps Q 13 ⟨#[u0, .pointer (some ⟨h, 0, none⟩), u2, u3, .pointer (some ⟨hn, 0, none⟩), u5, u6, u7, u8, u9, u10, u11, u12, u13, u14, u15, u16, u17, .bool b, undef, undef, undef, undef, undef, undef, undef, undef, undef, undef, undef, undef, undef, undef, undef, undef, undef, undef, undef, undef, undef, undef, undef, undef, undef, undef, undef, undef, undef, undef, undef, undef, undef, undef, undef, undef, undef, undef, undef, undef, undef, undef, undef, undef, undef, undef, undef, undef, undef, undef, undef, undef, undef, undef, undef, undef, undef, undef, undef, undef, undef, undef, undef, undef, undef, undef, undef, undef, undef, undef, undef, undef, undef, undef, undef, undef, undef, undef, undef, undef, undef, undef, undef, undef, undef, undef, undef, undef, undef, undef, undef, undef, undef, undef, undef, undef, undef, undef, undef, undef, undef, undef, undef, undef, undef, undef, undef, undef, undef, undef, undef, undef, undef, undef], []⟩ w := by
  refine seq_take (k := 13) (o := psOp 13) (v := .bool b) ps_hi13 (want_none ps_g13) (run_move ps_op13 rfl) ?_
  simp only [Act.put, ps_dst13, List.setIfInBounds_toArray, List.set_cons_zero, List.set_cons_succ]
  cases b with
  | false =>
    refine seq_take (k := 14) (o := psOp 14) (v := .pointer (some ⟨h, 2, none⟩)) ps_hi14 (want_other (c := false) ps_g14 ps_hi13 ps_dst13 (by rfl) rfl) (ps_field2 ps_op14 rfl) ?_
    simp only [Act.put, ps_dst14, List.setIfInBounds_toArray, List.set_cons_zero, List.set_cons_succ]
    cases hu with
    | false =>
      refine seq_take (k := 15) (o := psOp 15) (v := .bool false) ps_hi15 (want_other (c := false) ps_g15 ps_hi13 ps_dst13 (by rfl) rfl) (run_load ps_op15 rfl (hl_h_2 _ hS)) ?_
      simp only [Act.put, ps_dst15, List.setIfInBounds_toArray, List.set_cons_zero, List.set_cons_succ]
      refine seq_take (k := 16) (o := psOp 16) (v := .bool true) ps_hi16 (want_other (c := false) ps_g16 ps_hi13 ps_dst13 (by rfl) rfl) (run_not (b := false) (r := true) ps_op16 rfl rfl) ?_
      simp only [Act.put, ps_dst16, List.setIfInBounds_toArray, List.set_cons_zero, List.set_cons_succ]
      refine seq_take (k := 17) (o := psOp 17) (v := .bool true) ps_hi17 (want_other (c := false) ps_g17 ps_hi13 ps_dst13 (by rfl) rfl) (run_move ps_op17 rfl) ?_
      simp only [Act.put, ps_dst17, List.setIfInBounds_toArray, List.set_cons_zero, List.set_cons_succ]
      refine seq_take (k := 18) (o := psOp 18) (v := .pointer (some ⟨h, 3, none⟩)) ps_hi18 (want_other (c := true) ps_g18 ps_hi17 ps_dst17 (by rfl) rfl) (ps_field3 ps_op18 rfl) ?_
      simp only [Act.put, ps_dst18, List.setIfInBounds_toArray, List.set_cons_zero, List.set_cons_succ]
      refine seq_take (k := 19) (o := psOp 19) (v := .int .u32 user) ps_hi19 (want_other (c := true) ps_g19 ps_hi17 ps_dst17 (by rfl) rfl) (run_load ps_op19 rfl (hl_h_3 _ hS)) ?_
      simp only [Act.put, ps_dst19, List.setIfInBounds_toArray, List.set_cons_zero, List.set_cons_succ]
      refine seq_take (k := 20) (o := psOp 20) (v := .bool d20) ps_hi20 (want_other (c := true) ps_g20 ps_hi17 ps_dst17 (by rfl) rfl) (run_bin ps_op20 rfl rfl (he20 _) (hd20 _)) ?_
      simp only [Act.put, ps_dst20, List.setIfInBounds_toArray, List.set_cons_zero, List.set_cons_succ]
      refine seq_take (k := 21) (o := psOp 21) (v := .bool d20) ps_hi21 (want_other (c := false) ps_g21 ps_hi13 ps_dst13 (by rfl) rfl) (run_pickt ps_op21 rfl rfl) ?_
      simp only [Act.put, ps_dst21, List.setIfInBounds_toArray, List.set_cons_zero, List.set_cons_succ]
      refine seq_take (k := 22) (o := psOp 22) (v := .bool d20) ps_hi22 (want_none ps_g22) (run_pickf ps_op22 rfl rfl) ?_
      simp only [Act.put, ps_dst22, List.setIfInBounds_toArray, List.set_cons_zero, List.set_cons_succ]
      exact hnext _ _ _ _ _ _ _ _ _ _ hS
    | true =>
      refine seq_take (k := 15) (o := psOp 15) (v := .bool true) ps_hi15 (want_other (c := false) ps_g15 ps_hi13 ps_dst13 (by rfl) rfl) (run_load ps_op15 rfl (hl_h_2 _ hS)) ?_
      simp only [Act.put, ps_dst15, List.setIfInBounds_toArray, List.set_cons_zero, List.set_cons_succ]
      refine seq_take (k := 16) (o := psOp 16) (v := .bool false) ps_hi16 (want_other (c := false) ps_g16 ps_hi13 ps_dst13 (by rfl) rfl) (run_not (b := true) (r := false) ps_op16 rfl rfl) ?_
      simp only [Act.put, ps_dst16, List.setIfInBounds_toArray, List.set_cons_zero, List.set_cons_succ]
      refine seq_take (k := 17) (o := psOp 17) (v := .bool false) ps_hi17 (want_other (c := false) ps_g17 ps_hi13 ps_dst13 (by rfl) rfl) (run_move ps_op17 rfl) ?_
      simp only [Act.put, ps_dst17, List.setIfInBounds_toArray, List.set_cons_zero, List.set_cons_succ]
      refine seq_skip (k := 18) (o := psOp 18) ps_hi18 (want_not (c := false) ps_g18 ps_hi17 ps_dst17 (by rfl) rfl) ?_
      simp only [Act.put, ps_dst18, List.setIfInBounds_toArray, List.set_cons_zero, List.set_cons_succ]
      refine seq_skip (k := 19) (o := psOp 19) ps_hi19 (want_not (c := false) ps_g19 ps_hi17 ps_dst17 (by rfl) rfl) ?_
      simp only [Act.put, ps_dst19, List.setIfInBounds_toArray, List.set_cons_zero, List.set_cons_succ]
      refine seq_skip (k := 20) (o := psOp 20) ps_hi20 (want_not (c := false) ps_g20 ps_hi17 ps_dst17 (by rfl) rfl) ?_
      simp only [Act.put, ps_dst20, List.setIfInBounds_toArray, List.set_cons_zero, List.set_cons_succ]
      refine seq_take (k := 21) (o := psOp 21) (v := .bool false) ps_hi21 (want_other (c := false) ps_g21 ps_hi13 ps_dst13 (by rfl) rfl) (run_pickf ps_op21 rfl rfl) ?_
      simp only [Act.put, ps_dst21, List.setIfInBounds_toArray, List.set_cons_zero, List.set_cons_succ]
      refine seq_take (k := 22) (o := psOp 22) (v := .bool false) ps_hi22 (want_none ps_g22) (run_pickf ps_op22 rfl rfl) ?_
      simp only [Act.put, ps_dst22, List.setIfInBounds_toArray, List.set_cons_zero, List.set_cons_succ]
      exact hnext _ _ _ _ _ _ _ _ _ _ hS
  | true =>
    refine seq_skip (k := 14) (o := psOp 14) ps_hi14 (want_not (c := true) ps_g14 ps_hi13 ps_dst13 (by rfl) rfl) ?_
    simp only [Act.put, ps_dst14, List.setIfInBounds_toArray, List.set_cons_zero, List.set_cons_succ]
    refine seq_skip (k := 15) (o := psOp 15) ps_hi15 (want_not (c := true) ps_g15 ps_hi13 ps_dst13 (by rfl) rfl) ?_
    simp only [Act.put, ps_dst15, List.setIfInBounds_toArray, List.set_cons_zero, List.set_cons_succ]
    refine seq_skip (k := 16) (o := psOp 16) ps_hi16 (want_not (c := true) ps_g16 ps_hi13 ps_dst13 (by rfl) rfl) ?_
    simp only [Act.put, ps_dst16, List.setIfInBounds_toArray, List.set_cons_zero, List.set_cons_succ]
    refine seq_skip (k := 17) (o := psOp 17) ps_hi17 (want_not (c := true) ps_g17 ps_hi13 ps_dst13 (by rfl) rfl) ?_
    simp only [Act.put, ps_dst17, List.setIfInBounds_toArray, List.set_cons_zero, List.set_cons_succ]
    refine seq_skip (k := 18) (o := psOp 18) ps_hi18 (want_undef ps_g18 ps_hi17 ps_dst17 (by rfl)) ?_
    simp only [Act.put, ps_dst18, List.setIfInBounds_toArray, List.set_cons_zero, List.set_cons_succ]
    refine seq_skip (k := 19) (o := psOp 19) ps_hi19 (want_undef ps_g19 ps_hi17 ps_dst17 (by rfl)) ?_
    simp only [Act.put, ps_dst19, List.setIfInBounds_toArray, List.set_cons_zero, List.set_cons_succ]
    refine seq_skip (k := 20) (o := psOp 20) ps_hi20 (want_undef ps_g20 ps_hi17 ps_dst17 (by rfl)) ?_
    simp only [Act.put, ps_dst20, List.setIfInBounds_toArray, List.set_cons_zero, List.set_cons_succ]
    refine seq_skip (k := 21) (o := psOp 21) ps_hi21 (want_not (c := true) ps_g21 ps_hi13 ps_dst13 (by rfl) rfl) ?_
    simp only [Act.put, ps_dst21, List.setIfInBounds_toArray, List.set_cons_zero, List.set_cons_succ]
    refine seq_take (k := 22) (o := psOp 22) (v := .bool true) ps_hi22 (want_none ps_g22) (run_pickt ps_op22 rfl rfl) ?_
    simp only [Act.put, ps_dst22, List.setIfInBounds_toArray, List.set_cons_zero, List.set_cons_succ]
    exact hnext _ _ _ _ _ _ _ _ _ _ hS
set_option maxRecDepth 100000 in
set_option maxHeartbeats 2000000 in
theorem ps_d4 {Q : Exit → Act → World → Prop} {S : World → Prop} (u0 u2 u3 u5 u6 u7 u8 u9 u10 u11 u12 u13 u14 u15 u16 u17 u18 u19 u20 u21 u22 u23 u24 u25 u26 u27 : Value) (h hn : Nat) (b : Bool) (hg : Bool) (group : Int) (d30 : Bool) (hl_h_4 : ∀ w, S w → (loadVar 4 ⟨h, 4, none⟩).run Tryd.prog w = .ok (.bool hg) w) (hl_h_5 : ∀ w, S w → (loadVar 22 ⟨h, 5, none⟩).run Tryd.prog w = .ok (.int .u32 group) w) (hd30 : ∀ w, (binOp .neq 22 (.int .u32 group) (.int .u32 0)).run Tryd.prog w = .ok (.bool d30) w) (he30 : ∀ w, (eqGuard .neq 22 (.tmp 35) (.const (.int .u32 0)) (.int .u32 group) (.int .u32 0)).run Tryd.prog w = .ok () w)
    (w : World) (hS : S w)
    (hnext : ∀ (u29 u30 u31 u32 u33 u34 u35 u36 u37 : Value) (w' : World), S w' → SeqAt Tryd.prog psOps Q 33 ⟨#[u0, .pointer (some ⟨h, 0, none⟩), u2, u3, .pointer (some ⟨hn, 0, none⟩), u5, u6, u7, u8, u9, u10, u11, u12, u13, u14, u15, u16, u17, u18, u19, u20, u21, u22, u23, u24, u25, u26, u27, .bool b, u29, u30, u31, u32, u33, u34, u35, u36, u37, .bool (b || (!hg && d30)), undef, undef, undef, undef, undef, undef, undef, undef, undef, undef, undef, undef, undef, undef, undef, undef, undef, undef, undef, undef, undef, undef, undef, undef, undef, undef, undef, undef, undef, undef, undef, undef, undef, undef, undef, undef, undef, undef, undef, undef, undef, undef, undef, undef, undef, undef, undef, undef, undef, undef, undef, undef, undef, undef, undef, undef, undef, undef, undef, undef, undef, undef, undef, undef, undef, undef, undef, undef, undef, undef, undef, undef, undef, undef, undef, undef, undef, undef, undef, undef, undef, undef, undef, undef, undef, undef, undef, undef, undef, undef, undef, undef, undef, undef], []⟩ w') :
    SeqAt Tryd.prog psOps Q 23 ⟨#[u0, .pointer (some ⟨h, 0, none⟩), u2, u3, .pointer (some ⟨hn, 0, none⟩), u5, u6, u7, u8, u9, u10, u11, u12, u13, u14, u15, u16, u17, u18, u19, u20, u21, u22, u23, u24, u25, u26, u27, .bool b, undef, undef, undef, undef, undef, undef, undef, undef, undef, undef, undef, undef, undef, undef, undef, undef, undef, undef, undef, undef, undef, undef, undef, undef, undef, undef, undef, undef, undef, undef, undef, undef, undef, undef, undef, undef, undef, undef, undef, undef, undef, undef, undef, undef, undef, undef, undef, undef, undef, undef, undef, undef, undef, undef, undef, undef, undef, undef, undef, undef, undef, undef, undef, undef, undef, undef, undef, undef, undef, undef, undef, undef, undef, undef, undef, undef, undef, undef, undef, undef, undef, undef, undef, undef, undef, undef, undef, undef, undef, undef, undef, undef, undef, undef, undef, undef, undef, undef, undef, undef, undef, undef, undef, undef], []⟩ w := by
  refine seq_take (k := 23) (o := psOp 23) (v := .bool b) ps_hi23 (want_none ps_g23) (run_move ps_op23 rfl) ?_
  simp only [Act.put, ps_dst23, List.setIfInBounds_toArray, List.set_cons_zero, List.set_cons_succ]
  cases b with
  | false =>
    refine seq_take (k := 24) (o := psOp 24) (v := .pointer (some ⟨h, 4, none⟩)) ps_hi24 (want_other (c := false) ps_g24 ps_hi23 ps_dst23 (by rfl) rfl) (ps_field4 ps_op24 rfl) ?_
    simp only [Act.put, ps_dst24, List.setIfInBounds_toArray, List.set_cons_zero, List.set_cons_succ]
    cases hg with
    | false =>
      refine seq_take (k := 25) (o := psOp 25) (v := .bool false) ps_hi25 (want_other (c := false) ps_g25 ps_hi23 ps_dst23 (by rfl) rfl) (run_load ps_op25 rfl (hl_h_4 _ hS)) ?_
      simp only [Act.put, ps_dst25, List.setIfInBounds_toArray, List.set_cons_zero, List.set_cons_succ]
      refine seq_take (k := 26) (o := psOp 26) (v := .bool true) ps_hi26 (want_other (c := false) ps_g26 ps_hi23 ps_dst23 (by rfl) rfl) (run_not (b := false) (r := true) ps_op26 rfl rfl) ?_
      simp only [Act.put, ps_dst26, List.setIfInBounds_toArray, List.set_cons_zero, List.set_cons_succ]
      refine seq_take (k := 27) (o := psOp 27) (v := .bool true) ps_hi27 (want_other (c := false) ps_g27 ps_hi23 ps_dst23 (by rfl) rfl) (run_move ps_op27 rfl) ?_
      simp only [Act.put, ps_dst27, List.setIfInBounds_toArray, List.set_cons_zero, List.set_cons_succ]
      refine seq_take (k := 28) (o := psOp 28) (v := .pointer (some ⟨h, 5, none⟩)) ps_hi28 (want_other (c := true) ps_g28 ps_hi27 ps_dst27 (by rfl) rfl) (ps_field5 ps_op28 rfl) ?_
      simp only [Act.put, ps_dst28, List.setIfInBounds_toArray, List.set_cons_zero, List.set_cons_succ]
      refine seq_take (k := 29) (o := psOp 29) (v := .int .u32 group) ps_hi29 (want_other (c := true) ps_g29 ps_hi27 ps_dst27 (by rfl) rfl) (run_load ps_op29 rfl (hl_h_5 _ hS)) ?_
      simp only [Act.put, ps_dst29, List.setIfInBounds_toArray, List.set_cons_zero, List.set_cons_succ]
      refine seq_take (k := 30) (o := psOp 30) (v := .bool d30) ps_hi30 (want_other (c := true) ps_g30 ps_hi27 ps_dst27 (by rfl) rfl) (run_bin ps_op30 rfl rfl (he30 _) (hd30 _)) ?_
      simp only [Act.put, ps_dst30, List.setIfInBounds_toArray, List.set_cons_zero, List.set_cons_succ]
      refine seq_take (k := 31) (o := psOp 31) (v := .bool d30) ps_hi31 (want_other (c := false) ps_g31 ps_hi23 ps_dst23 (by rfl) rfl) (run_pickt ps_op31 rfl rfl) ?_
      simp only [Act.put, ps_dst31, List.setIfInBounds_toArray, List.set_cons_zero, List.set_cons_succ]
      refine seq_take (k := 32) (o := psOp 32) (v := .bool d30) ps_hi32 (want_none ps_g32) (run_pickf ps_op32 rfl rfl) ?_
      simp only [Act.put, ps_dst32, List.setIfInBounds_toArray, List.set_cons_zero, List.set_cons_succ]
      exact hnext _ _ _ _ _ _ _ _ _ _ hS
    | true =>
      refine seq_take (k := 25) (o := psOp 25) (v := .bool true) ps_hi25 (want_other (c := false) ps_g25 ps_hi23 ps_dst23 (by rfl) rfl) (run_load ps_op25 rfl (hl_h_4 _ hS)) ?_
      simp only [Act.put, ps_dst25, List.setIfInBounds_toArray, List.set_cons_zero, List.set_cons_succ]
      refine seq_take (k := 26) (o := psOp 26) (v := .bool false) ps_hi26 (want_other (c := false) ps_g26 ps_hi23 ps_dst23 (by rfl) rfl) (run_not (b := true) (r := false) ps_op26 rfl rfl) ?_
      simp only [Act.put, ps_dst26, List.setIfInBounds_toArray, List.set_cons_zero, List.set_cons_succ]
      refine seq_take (k := 27) (o := psOp 27) (v := .bool false) ps_hi27 (want_other (c := false) ps_g27 ps_hi23 ps_dst23 (by rfl) rfl) (run_move ps_op27 rfl) ?_
      simp only [Act.put, ps_dst27, List.setIfInBounds_toArray, List.set_cons_zero, List.set_cons_succ]
      refine seq_skip (k := 28) (o := psOp 28) ps_hi28 (want_not (c := false) ps_g28 ps_hi27 ps_dst27 (by rfl) rfl) ?_
      simp only [Act.put, ps_dst28, List.setIfInBounds_toArray, List.set_cons_zero, List.set_cons_succ]
      refine seq_skip (k := 29) (o := psOp 29) ps_hi29 (want_not (c := false) ps_g29 ps_hi27 ps_dst27 (by rfl) rfl) ?_
      simp only [Act.put, ps_dst29, List.setIfInBounds_toArray, List.set_cons_zero, List.set_cons_succ]
      refine seq_skip (k := 30) (o := psOp 30) ps_hi30 (want_not (c := false) ps_g30 ps_hi27 ps_dst27 (by rfl) rfl) ?_
      simp only [Act.put, ps_dst30, List.setIfInBounds_toArray, List.set_cons_zero, List.set_cons_succ]
      refine seq_take (k := 31) (o := psOp 31) (v := .bool false) ps_hi31 (want_other (c := false) ps_g31 ps_hi23 ps_dst23 (by rfl) rfl) (run_pickf ps_op31 rfl rfl) ?_
      simp only [Act.put, ps_dst31, List.setIfInBounds_toArray, List.set_cons_zero, List.set_cons_succ]
      refine seq_take (k := 32) (o := psOp 32) (v := .bool false) ps_hi32 (want_none ps_g32) (run_pickf ps_op32 rfl rfl) ?_
      simp only [Act.put, ps_dst32, List.setIfInBounds_toArray, List.set_cons_zero, List.set_cons_succ]
      exact hnext _ _ _ _ _ _ _ _ _ _ hS
  | true =>
    refine seq_skip (k := 24) (o := psOp 24) ps_hi24 (want_not (c := true) ps_g24 ps_hi23 ps_dst23 (by rfl) rfl) ?_
    simp only [Act.put, ps_dst24, List.setIfInBounds_toArray, List.set_cons_zero, List.set_cons_succ]
    refine seq_skip (k := 25) (o := psOp 25) ps_hi25 (want_not (c := true) ps_g25 ps_hi23 ps_dst23 (by rfl) rfl) ?_
    simp only [Act.put, ps_dst25, List.setIfInBounds_toArray, List.set_cons_zero, List.set_cons_succ]
    refine seq_skip (k := 26) (o := psOp 26) ps_hi26 (want_not (c := true) ps_g26 ps_hi23 ps_dst23 (by rfl) rfl) ?_
    simp only [Act.put, ps_dst26, List.setIfInBounds_toArray, List.set_cons_zero, List.set_cons_succ]
    refine seq_skip (k := 27) (o := psOp 27) ps_hi27 (want_not (c := true) ps_g27 ps_hi23 ps_dst23 (by rfl) rfl) ?_
    simp only [Act.put, ps_dst27, List.setIfInBounds_toArray, List.set_cons_zero, List.set_cons_succ]
    refine seq_skip (k := 28) (o := psOp 28) ps_hi28 (want_undef ps_g28 ps_hi27 ps_dst27 (by rfl)) ?_
    simp only [Act.put, ps_dst28, List.setIfInBounds_toArray, List.set_cons_zero, List.set_cons_succ]
    refine seq_skip (k := 29) (o := psOp 29) ps_hi29 (want_undef ps_g29 ps_hi27 ps_dst27 (by rfl)) ?_
    simp only [Act.put, ps_dst29, List.setIfInBounds_toArray, List.set_cons_zero, List.set_cons_succ]
    refine seq_skip (k := 30) (o := psOp 30) ps_hi30 (want_undef ps_g30 ps_hi27 ps_dst27 (by rfl)) ?_
    simp only [Act.put, ps_dst30, List.setIfInBounds_toArray, List.set_cons_zero, List.set_cons_succ]
    refine seq_skip (k := 31) (o := psOp 31) ps_hi31 (want_not (c := true) ps_g31 ps_hi23 ps_dst23 (by rfl) rfl) ?_
    simp only [Act.put, ps_dst31, List.setIfInBounds_toArray, List.set_cons_zero, List.set_cons_succ]
    refine seq_take (k := 32) (o := psOp 32) (v := .bool true) ps_hi32 (want_none ps_g32) (run_pickt ps_op32 rfl rfl) ?_
    simp only [Act.put, ps_dst32, List.setIfInBounds_toArray, List.set_cons_zero, List.set_cons_succ]
    exact hnext _ _ _ _ _ _ _ _ _ _ hS
set_option maxRecDepth 100000 in
set_option maxHeartbeats 2000000 in
theorem ps_d5 {Q : Exit → Act → World → Prop} {S : World → Prop} (u0 u2 u3 u5 u6 u7 u8 u9 u10 u11 u12 u13 u14 u15 u16 u17 u18 u19 u20 u21 u22 u23 u24 u25 u26 u27 u28 u29 u30 u31 u32 u33 u34 u35 u36 u37 : Value) (h hn : Nat) (b : Bool) (hs : Bool) (size : Int) (d40 : Bool) (hl_h_6 : ∀ w, S w → (loadVar 4 ⟨h, 6, none⟩).run Tryd.prog w = .ok (.bool hs) w) (hl_h_7 : ∀ w, S w → (loadVar 24 ⟨h, 7, none⟩).run Tryd.prog w = .ok (.int .u64 size) w) (hd40 : ∀ w, (binOp .neq 24 (.int .u64 size) (.int .u64 0)).run Tryd.prog w = .ok (.bool d40) w) (he40 : ∀ w, (eqGuard .neq 24 (.tmp 45) (.const (.int .u64 0)) (.int .u64 size) (.int .u64 0)).run Tryd.prog w = .ok () w)
    (w : World) (hS : S w)
    (hnext : ∀ (u39 u40 u41 u42 u43 u44 u45 u46 u47 : Value) (w' : World), S w' → SeqAt Tryd.prog psOps Q 43 ⟨#[u0, .pointer (some ⟨h, 0, none⟩), u2, u3, .pointer (some ⟨hn, 0, none⟩), u5, u6, u7, u8, u9, u10, u11, u12, u13, u14, u15, u16, u17, u18, u19, u20, u21, u22, u23, u24, u25, u26, u27, u28, u29, u30, u31, u32, u33, u34, u35, u36, u37, .bool b, u39, u40, u41, u42, u43, u44, u45, u46, u47, .bool (b || (!hs && d40)), undef, undef, undef, undef, undef, undef, undef, undef, undef, undef, undef, undef, undef, undef, undef, undef, undef, undef, undef, undef, undef, undef, undef, undef, undef, undef, undef, undef, undef, undef, undef, undef, undef, undef, undef, undef, undef, undef, undef, undef, undef, undef, undef, undef, undef, undef, undef, undef, undef, undef, undef, undef, undef, undef, undef, undef, undef, undef, undef, undef, undef, undef, undef, undef, undef, undef, undef, undef, undef, undef, undef, undef, undef, undef, undef, undef, undef, undef, undef, undef, undef, undef, undef, undef], []⟩ w') :
    SeqAt Tryd.prog psOps Q 33 ⟨#[u0, .pointer (some ⟨h, 0, none⟩), u2, u3, .pointer (some ⟨hn, 0, none⟩), u5, u6, u7, u8, u9, u10, u11, u12, u13, u14, u15, u16, u17, u18, u19, u20, u21, u22, u23, u24, u25, u26, u27, u28, u29, u30, u31, u32, u33, u34, u35, u36, u37, .bool b, undef, undef, undef, undef, undef, undef, undef, undef, undef, undef, undef, undef, undef, undef, undef, undef, undef, undef, undef, undef, undef, undef, undef, undef, undef, undef, undef, undef, undef, undef, undef, undef, undef, undef, undef, undef, undef, undef, undef, undef, undef, undef, undef, undef, undef, undef, undef, undef, undef, undef, undef, undef, undef, undef, undef, undef, undef, undef, undef, undef, undef, undef, undef, undef, undef, undef, undef, undef, undef, undef, undef, undef, undef, undef, undef, undef, undef, undef, undef, undef, undef, undef, undef, undef, undef, undef, undef, undef, undef, undef, undef, undef, undef, undef], []⟩ w := by
  refine seq_take (k := 33) (o := psOp 33) (v := .bool b) ps_hi33 (want_none ps_g33) (run_move ps_op33 rfl) ?_
  simp only [Act.put, ps_dst33, List.setIfInBounds_toArray, List.set_cons_zero, List.set_cons_succ]
  cases b with
  | false =>
    refine seq_take (k := 34) (o := psOp 34) (v := .pointer (some ⟨h, 6, none⟩)) ps_hi34 (want_other (c := false) ps_g34 ps_hi33 ps_dst33 (by rfl) rfl) (ps_field6 ps_op34 rfl) ?_
    simp only [Act.put, ps_dst34, List.setIfInBounds_toArray, List.set_cons_zero, List.set_cons_succ]
    cases hs with
    | false =>
      refine seq_take (k := 35) (o := psOp 35) (v := .bool false) ps_hi35 (want_other (c := false) ps_g35 ps_hi33 ps_dst33 (by rfl) rfl) (run_load ps_op35 rfl (hl_h_6 _ hS)) ?_
      simp only [Act.put, ps_dst35, List.setIfInBounds_toArray, List.set_cons_zero, List.set_cons_succ]
      refine seq_take (k := 36) (o := psOp 36) (v := .bool true) ps_hi36 (want_other (c := false) ps_g36 ps_hi33 ps_dst33 (by rfl) rfl) (run_not (b := false) (r := true) ps_op36 rfl rfl) ?_
      simp only [Act.put, ps_dst36, List.setIfInBounds_toArray, List.set_cons_zero, List.set_cons_succ]
      refine seq_take (k := 37) (o := psOp 37) (v := .bool true) ps_hi37 (want_other (c := false) ps_g37 ps_hi33 ps_dst33 (by rfl) rfl) (run_move ps_op37 rfl) ?_
      simp only [Act.put, ps_dst37, List.setIfInBounds_toArray, List.set_cons_zero, List.set_cons_succ]
      refine seq_take (k := 38) (o := psOp 38) (v := .pointer (some ⟨h, 7, none⟩)) ps_hi38 (want_other (c := true) ps_g38 ps_hi37 ps_dst37 (by rfl) rfl) (ps_field7 ps_op38 rfl) ?_
      simp only [Act.put, ps_dst38, List.setIfInBounds_toArray, List.set_cons_zero, List.set_cons_succ]
      refine seq_take (k := 39) (o := psOp 39) (v := .int .u64 size) ps_hi39 (want_other (c := true) ps_g39 ps_hi37 ps_dst37 (by rfl) rfl) (run_load ps_op39 rfl (hl_h_7 _ hS)) ?_
      simp only [Act.put, ps_dst39, List.setIfInBounds_toArray, List.set_cons_zero, List.set_cons_succ]
      refine seq_take (k := 40) (o := psOp 40) (v := .bool d40) ps_hi40 (want_other (c := true) ps_g40 ps_hi37 ps_dst37 (by rfl) rfl) (run_bin ps_op40 rfl rfl (he40 _) (hd40 _)) ?_
      simp only [Act.put, ps_dst40, List.setIfInBounds_toArray, List.set_cons_zero, List.set_cons_succ]
      refine seq_take (k := 41) (o := psOp 41) (v := .bool d40) ps_hi41 (want_other (c := false) ps_g41 ps_hi33 ps_dst33 (by rfl) rfl) (run_pickt ps_op41 rfl rfl) ?_
      simp only [Act.put, ps_dst41, List.setIfInBounds_toArray, List.set_cons_zero, List.set_cons_succ]
      refine seq_take (k := 42) (o := psOp 42) (v := .bool d40) ps_hi42 (want_none ps_g42) (run_pickf ps_op42 rfl rfl) ?_
      simp only [Act.put, ps_dst42, List.setIfInBounds_toArray, List.set_cons_zero, List.set_cons_succ]
      exact hnext _ _ _ _ _ _ _ _ _ _ hS
    | true =>
      refine seq_take (k := 35) (o := psOp 35) (v := .bool true) ps_hi35 (want_other (c := false) ps_g35 ps_hi33 ps_dst33 (by rfl) rfl) (run_load ps_op35 rfl (hl_h_6 _ hS)) ?_
      simp only [Act.put, ps_dst35, List.setIfInBounds_toArray, List.set_cons_zero, List.set_cons_succ]
      refine seq_take (k := 36) (o := psOp 36) (v := .bool false) ps_hi36 (want_other (c := false) ps_g36 ps_hi33 ps_dst33 (by rfl) rfl) (run_not (b := true) (r := false) ps_op36 rfl rfl) ?_
      simp only [Act.put, ps_dst36, List.setIfInBounds_toArray, List.set_cons_zero, List.set_cons_succ]
      refine seq_take (k := 37) (o := psOp 37) (v := .bool false) ps_hi37 (want_other (c := false) ps_g37 ps_hi33 ps_dst33 (by rfl) rfl) (run_move ps_op37 rfl) ?_
      simp only [Act.put, ps_dst37, List.setIfInBounds_toArray, List.set_cons_zero, List.set_cons_succ]
      refine seq_skip (k := 38) (o := psOp 38) ps_hi38 (want_not (c := false) ps_g38 ps_hi37 ps_dst37 (by rfl) rfl) ?_
      simp only [Act.put, ps_dst38, List.setIfInBounds_toArray, List.set_cons_zero, List.set_cons_succ]
      refine seq_skip (k := 39) (o := psOp 39) ps_hi39 (want_not (c := false) ps_g39 ps_hi37 ps_dst37 (by rfl) rfl) ?_
      simp only [Act.put, ps_dst39, List.setIfInBounds_toArray, List.set_cons_zero, List.set_cons_succ]
      refine seq_skip (k := 40) (o := psOp 40) ps_hi40 (want_not (c := false) ps_g40 ps_hi37 ps_dst37 (by rfl) rfl) ?_
      simp only [Act.put, ps_dst40, List.setIfInBounds_toArray, List.set_cons_zero, List.set_cons_succ]
      refine seq_take (k := 41) (o := psOp 41) (v := .bool false) ps_hi41 (want_other (c := false) ps_g41 ps_hi33 ps_dst33 (by rfl) rfl) (run_pickf ps_op41 rfl rfl) ?_
      simp only [Act.put, ps_dst41, List.setIfInBounds_toArray, List.set_cons_zero, List.set_cons_succ]
      refine seq_take (k := 42) (o := psOp 42) (v := .bool false) ps_hi42 (want_none ps_g42) (run_pickf ps_op42 rfl rfl) ?_
      simp only [Act.put, ps_dst42, List.setIfInBounds_toArray, List.set_cons_zero, List.set_cons_succ]
      exact hnext _ _ _ _ _ _ _ _ _ _ hS
  | true =>
    refine seq_skip (k := 34) (o := psOp 34) ps_hi34 (want_not (c := true) ps_g34 ps_hi33 ps_dst33 (by rfl) rfl) ?_
    simp only [Act.put, ps_dst34, List.setIfInBounds_toArray, List.set_cons_zero, List.set_cons_succ]
    refine seq_skip (k := 35) (o := psOp 35) ps_hi35 (want_not (c := true) ps_g35 ps_hi33 ps_dst33 (by rfl) rfl) ?_
    simp only [Act.put, ps_dst35, List.setIfInBounds_toArray, List.set_cons_zero, List.set_cons_succ]
    refine seq_skip (k := 36) (o := psOp 36) ps_hi36 (want_not (c := true) ps_g36 ps_hi33 ps_dst33 (by rfl) rfl) ?_
    simp only [Act.put, ps_dst36, List.setIfInBounds_toArray, List.set_cons_zero, List.set_cons_succ]
    refine seq_skip (k := 37) (o := psOp 37) ps_hi37 (want_not (c := true) ps_g37 ps_hi33 ps_dst33 (by rfl) rfl) ?_
    simp only [Act.put, ps_dst37, List.setIfInBounds_toArray, List.set_cons_zero, List.set_cons_succ]
    refine seq_skip (k := 38) (o := psOp 38) ps_hi38 (want_undef ps_g38 ps_hi37 ps_dst37 (by rfl)) ?_
    simp only [Act.put, ps_dst38, List.setIfInBounds_toArray, List.set_cons_zero, List.set_cons_succ]
    refine seq_skip (k := 39) (o := psOp 39) ps_hi39 (want_undef ps_g39 ps_hi37 ps_dst37 (by rfl)) ?_
    simp only [Act.put, ps_dst39, List.setIfInBounds_toArray, List.set_cons_zero, List.set_cons_succ]
    refine seq_skip (k := 40) (o := psOp 40) ps_hi40 (want_undef ps_g40 ps_hi37 ps_dst37 (by rfl)) ?_
    simp only [Act.put, ps_dst40, List.setIfInBounds_toArray, List.set_cons_zero, List.set_cons_succ]
    refine seq_skip (k := 41) (o := psOp 41) ps_hi41 (want_not (c := true) ps_g41 ps_hi33 ps_dst33 (by rfl) rfl) ?_
    simp only [Act.put, ps_dst41, List.setIfInBounds_toArray, List.set_cons_zero, List.set_cons_succ]
    refine seq_take (k := 42) (o := psOp 42) (v := .bool true) ps_hi42 (want_none ps_g42) (run_pickt ps_op42 rfl rfl) ?_
    simp only [Act.put, ps_dst42, List.setIfInBounds_toArray, List.set_cons_zero, List.set_cons_succ]
    exact hnext _ _ _ _ _ _ _ _ _ _ hS
set_option maxRecDepth 100000 in
set_option maxHeartbeats 2000000 in
theorem ps_d6 {Q : Exit → Act → World → Prop} {S : World → Prop} (u0 u2 u3 u5 u6 u7 u8 u9 u10 u11 u12 u13 u14 u15 u16 u17 u18 u19 u20 u21 u22 u23 u24 u25 u26 u27 u28 u29 u30 u31 u32 u33 u34 u35 u36 u37 u38 u39 u40 u41 u42 u43 u44 u45 u46 u47 : Value) (h hn : Nat) (b : Bool) (rh : Int) (d46 : Bool) (hl_h_8 : ∀ w, S w → (loadVar 35 ⟨h, 8, none⟩).run Tryd.prog w = .ok (.int .u32 rh) w) (hd46 : ∀ w, (binOp .gtr 35 (.int .u32 rh) (.int .u32 2)).run Tryd.prog w = .ok (.bool d46) w) (he46 : ∀ w, (eqGuard .gtr 35 (.tmp 51) (.const (.int .u32 2)) (.int .u32 rh) (.int .u32 2)).run Tryd.prog w = .ok () w)
    (w : World) (hS : S w)
    (hnext : ∀ (u49 u50 u51 u52 : Value) (w' : World), S w' → SeqAt Tryd.prog psOps Q 48 ⟨#[u0, .pointer (some ⟨h, 0, none⟩), u2, u3, .pointer (some ⟨hn, 0, none⟩), u5, u6, u7, u8, u9, u10, u11, u12, u13, u14, u15, u16, u17, u18, u19, u20, u21, u22, u23, u24, u25, u26, u27, u28, u29, u30, u31, u32, u33, u34, u35, u36, u37, u38, u39, u40, u41, u42, u43, u44, u45, u46, u47, .bool b, u49, u50, u51, u52, .bool (b || d46), undef, undef, undef, undef, undef, undef, undef, undef, undef, undef, undef, undef, undef, undef, undef, undef, undef, undef, undef, undef, undef, undef, undef, undef, undef, undef, undef, undef, undef, undef, undef, undef, undef, undef, undef, undef, undef, undef, undef, undef, undef, undef, undef, undef, undef, undef, undef, undef, undef, undef, undef, undef, undef, undef, undef, undef, undef, undef, undef, undef, undef, undef, undef, undef, undef, undef, undef, undef, undef, undef, undef, undef, undef, undef, undef, undef, undef, undef, undef], []⟩ w') :
    SeqAt Tryd.prog psOps Q 43 ⟨#[u0, .pointer (some ⟨h, 0, none⟩), u2, u3, .pointer (some ⟨hn, 0, none⟩), u5, u6, u7, u8, u9, u10, u11, u12, u13, u14, u15, u16, u17, u18, u19, u20, u21, u22, u23, u24, u25, u26, u27, u28, u29, u30, u31, u32, u33, u34, u35, u36, u37, u38, u39, u40, u41, u42, u43, u44, u45, u46, u47, .bool b, undef, undef, undef, undef, undef, undef, undef, undef, undef, undef, undef, undef, undef, undef, undef, undef, undef, undef, undef, undef, undef, undef, undef, undef, undef, undef, undef, undef, undef, undef, undef, undef, undef, undef, undef, undef, undef, undef, undef, undef, undef, undef, undef, undef, undef, undef, undef, undef, undef, undef, undef, undef, undef, undef, undef, undef, undef, undef, undef, undef, undef, undef, undef, undef, undef, undef, undef, undef, undef, undef, undef, undef, undef, undef, undef, undef, undef, undef, undef, undef, undef, undef, undef, undef], []⟩ w := by
  refine seq_take (k := 43) (o := psOp 43) (v := .bool b) ps_hi43 (want_none ps_g43) (run_move ps_op43 rfl) ?_
  simp only [Act.put, ps_dst43, List.setIfInBounds_toArray, List.set_cons_zero, List.set_cons_succ]
  cases b with
  | false =>
    refine seq_take (k := 44) (o := psOp 44) (v := .pointer (some ⟨h, 8, none⟩)) ps_hi44 (want_other (c := false) ps_g44 ps_hi43 ps_dst43 (by rfl) rfl) (ps_field8 ps_op44 rfl) ?_
    simp only [Act.put, ps_dst44, List.setIfInBounds_toArray, List.set_cons_zero, List.set_cons_succ]
    refine seq_take (k := 45) (o := psOp 45) (v := .int .u32 rh) ps_hi45 (want_other (c := false) ps_g45 ps_hi43 ps_dst43 (by rfl) rfl) (run_load ps_op45 rfl (hl_h_8 _ hS)) ?_
    simp only [Act.put, ps_dst45, List.setIfInBounds_toArray, List.set_cons_zero, List.set_cons_succ]
    refine seq_take (k := 46) (o := psOp 46) (v := .bool d46) ps_hi46 (want_other (c := false) ps_g46 ps_hi43 ps_dst43 (by rfl) rfl) (run_bin ps_op46 rfl rfl (he46 _) (hd46 _)) ?_
    simp only [Act.put, ps_dst46, List.setIfInBounds_toArray, List.set_cons_zero, List.set_cons_succ]
    refine seq_take (k := 47) (o := psOp 47) (v := .bool d46) ps_hi47 (want_none ps_g47) (run_pickf ps_op47 rfl rfl) ?_
    simp only [Act.put, ps_dst47, List.setIfInBounds_toArray, List.set_cons_zero, List.set_cons_succ]
    exact hnext _ _ _ _ _ hS
  | true =>
    refine seq_skip (k := 44) (o := psOp 44) ps_hi44 (want_not (c := true) ps_g44 ps_hi43 ps_dst43 (by rfl) rfl) ?_
    simp only [Act.put, ps_dst44, List.setIfInBounds_toArray, List.set_cons_zero, List.set_cons_succ]
    refine seq_skip (k := 45) (o := psOp 45) ps_hi45 (want_not (c := true) ps_g45 ps_hi43 ps_dst43 (by rfl) rfl) ?_
    simp only [Act.put, ps_dst45, List.setIfInBounds_toArray, List.set_cons_zero, List.set_cons_succ]
    refine seq_skip (k := 46) (o := psOp 46) ps_hi46 (want_not (c := true) ps_g46 ps_hi43 ps_dst43 (by rfl) rfl) ?_
    simp only [Act.put, ps_dst46, List.setIfInBounds_toArray, List.set_cons_zero, List.set_cons_succ]
    refine seq_take (k := 47) (o := psOp 47) (v := .bool true) ps_hi47 (want_none ps_g47) (run_pickt ps_op47 rfl rfl) ?_
    simp only [Act.put, ps_dst47, List.setIfInBounds_toArray, List.set_cons_zero, List.set_cons_succ]
    exact hnext _ _ _ _ _ hS
set_option maxRecDepth 100000 in
set_option maxHeartbeats 2000000 in
theorem ps_d7 {Q : Exit → Act → World → Prop} {S : World → Prop} (u0 u2 u3 u5 u6 u7 u8 u9 u10 u11 u12 u13 u14 u15 u16 u17 u18 u19 u20 u21 u22 u23 u24 u25 u26 u27 u28 u29 u30 u31 u32 u33 u34 u35 u36 u37 u38 u39 u40 u41 u42 u43 u44 u45 u46 u47 u48 u49 u50 u51 u52 : Value) (h hn : Nat) (b : Bool) (wh : Int) (d51 : Bool) (hl_h_11 : ∀ w, S w → (loadVar 35 ⟨h, 11, none⟩).run Tryd.prog w = .ok (.int .u32 wh) w) (hd51 : ∀ w, (binOp .gtr 35 (.int .u32 wh) (.int .u32 2)).run Tryd.prog w = .ok (.bool d51) w) (he51 : ∀ w, (eqGuard .gtr 35 (.tmp 56) (.const (.int .u32 2)) (.int .u32 wh) (.int .u32 2)).run Tryd.prog w = .ok () w)
    (w : World) (hS : S w)
    (hnext : ∀ (u54 u55 u56 u57 : Value) (w' : World), S w' → SeqAt Tryd.prog psOps Q 53 ⟨#[u0, .pointer (some ⟨h, 0, none⟩), u2, u3, .pointer (some ⟨hn, 0, none⟩), u5, u6, u7, u8, u9, u10, u11, u12, u13, u14, u15, u16, u17, u18, u19, u20, u21, u22, u23, u24, u25, u26, u27, u28, u29, u30, u31, u32, u33, u34, u35, u36, u37, u38, u39, u40, u41, u42, u43, u44, u45, u46, u47, u48, u49, u50, u51, u52, .bool b, u54, u55, u56, u57, .bool (b || d51), undef, undef, undef, undef, undef, undef, undef, undef, undef, undef, undef, undef, undef, undef, undef, undef, undef, undef, undef, undef, undef, undef, undef, undef, undef, undef, undef, undef, undef, undef, undef, undef, undef, undef, undef, undef, undef, undef, undef, undef, undef, undef, undef, undef, undef, undef, undef, undef, undef, undef, undef, undef, undef, undef, undef, undef, undef, undef, undef, undef, undef, undef, undef, undef, undef, undef, undef, undef, undef, undef, undef, undef, undef, undef], []⟩ w') :
    SeqAt Tryd.prog psOps Q 48 ⟨#[u0, .pointer (some ⟨h, 0, none⟩), u2, u3, .pointer (some ⟨hn, 0, none⟩), u5, u6, u7, u8, u9, u10, u11, u12, u13, u14, u15, u16, u17, u18, u19, u20, u21, u22, u23, u24, u25, u26, u27, u28, u29, u30, u31, u32, u33, u34, u35, u36, u37, u38, u39, u40, u41, u42, u43, u44, u45, u46, u47, u48, u49, u50, u51, u52, .bool b, undef, undef, undef, undef, undef, undef, undef, undef, undef, undef, undef, undef, undef, undef, undef, undef, undef, undef, undef, undef, undef, undef, undef, undef, undef, undef, undef, undef, undef, undef, undef, undef, undef, undef, undef, undef, undef, undef, undef, undef, undef, undef, undef, undef, undef, undef, undef, undef, undef, undef, undef, undef, undef, undef, undef, undef, undef, undef, undef, undef, undef, undef, undef, undef, undef, undef, undef, undef, undef, undef, undef, undef, undef, undef, undef, undef, undef, undef, undef], []⟩ w := by
  refine seq_take (k := 48) (o := psOp 48) (v := .bool b) ps_hi48 (want_none ps_g48) (run_move ps_op48 rfl) ?_
  simp only [Act.put, ps_dst48, List.setIfInBounds_toArray, List.set_cons_zero, List.set_cons_succ]
  cases b with
  | false =>
    refine seq_take (k := 49) (o := psOp 49) (v := .pointer (some ⟨h, 11, none⟩)) ps_hi49 (want_other (c := false) ps_g49 ps_hi48 ps_dst48 (by rfl) rfl) (ps_field10 ps_op49 rfl) ?_
    simp only [Act.put, ps_dst49, List.setIfInBounds_toArray, List.set_cons_zero, List.set_cons_succ]
    refine seq_take (k := 50) (o := psOp 50) (v := .int .u32 wh) ps_hi50 (want_other (c := false) ps_g50 ps_hi48 ps_dst48 (by rfl) rfl) (run_load ps_op50 rfl (hl_h_11 _ hS)) ?_
    simp only [Act.put, ps_dst50, List.setIfInBounds_toArray, List.set_cons_zero, List.set_cons_succ]
    refine seq_take (k := 51) (o := psOp 51) (v := .bool d51) ps_hi51 (want_other (c := false) ps_g51 ps_hi48 ps_dst48 (by rfl) rfl) (run_bin ps_op51 rfl rfl (he51 _) (hd51 _)) ?_
    simp only [Act.put, ps_dst51, List.setIfInBounds_toArray, List.set_cons_zero, List.set_cons_succ]
    refine seq_take (k := 52) (o := psOp 52) (v := .bool d51) ps_hi52 (want_none ps_g52) (run_pickf ps_op52 rfl rfl) ?_
    simp only [Act.put, ps_dst52, List.setIfInBounds_toArray, List.set_cons_zero, List.set_cons_succ]
    exact hnext _ _ _ _ _ hS
  | true =>
    refine seq_skip (k := 49) (o := psOp 49) ps_hi49 (want_not (c := true) ps_g49 ps_hi48 ps_dst48 (by rfl) rfl) ?_
    simp only [Act.put, ps_dst49, List.setIfInBounds_toArray, List.set_cons_zero, List.set_cons_succ]
    refine seq_skip (k := 50) (o := psOp 50) ps_hi50 (want_not (c := true) ps_g50 ps_hi48 ps_dst48 (by rfl) rfl) ?_
    simp only [Act.put, ps_dst50, List.setIfInBounds_toArray, List.set_cons_zero, List.set_cons_succ]
    refine seq_skip (k := 51) (o := psOp 51) ps_hi51 (want_not (c := true) ps_g51 ps_hi48 ps_dst48 (by rfl) rfl) ?_
    simp only [Act.put, ps_dst51, List.setIfInBounds_toArray, List.set_cons_zero, List.set_cons_succ]
    refine seq_take (k := 52) (o := psOp 52) (v := .bool true) ps_hi52 (want_none ps_g52) (run_pickt ps_op52 rfl rfl) ?_
    simp only [Act.put, ps_dst52, List.setIfInBounds_toArray, List.set_cons_zero, List.set_cons_succ]
    exact hnext _ _ _ _ _ hS
set_option maxRecDepth 100000 in
set_option maxHeartbeats 2000000 in
theorem ps_d8 {Q : Exit → Act → World → Prop} {S : World → Prop} (u0 u2 u3 u5 u6 u7 u8 u9 u10 u11 u12 u13 u14 u15 u16 u17 u18 u19 u20 u21 u22 u23 u24 u25 u26 u27 u28 u29 u30 u31 u32 u33 u34 u35 u36 u37 u38 u39 u40 u41 u42 u43 u44 u45 u46 u47 u48 u49 u50 u51 u52 u53 u54 u55 u56 u57 : Value) (h hn : Nat) (b : Bool) (rh : Int) (d56 : Bool) (rs : Int) (rn : Int) (d61 : Bool) (hl_h_8 : ∀ w, S w → (loadVar 35 ⟨h, 8, none⟩).run Tryd.prog w = .ok (.int .u32 rh) w) (hd56 : ∀ w, (binOp .neq 35 (.int .u32 rh) (.int .u32 2)).run Tryd.prog w = .ok (.bool d56) w) (he56 : ∀ w, (eqGuard .neq 35 (.tmp 61) (.const (.int .u32 2)) (.int .u32 rh) (.int .u32 2)).run Tryd.prog w = .ok () w) (hl_h_9 : ∀ w, S w → (loadVar 26 ⟨h, 9, none⟩).run Tryd.prog w = .ok (.agg #[.int .u32 rs, .int .u32 rn]) w) (hl_hn_0 : ∀ w, S w → (loadVar 26 ⟨hn, 0, none⟩).run Tryd.prog w = .ok (.agg #[.int .u32 0, .int .u32 0]) w) (hd61 : ∀ w, (binOp .neq 26 (.agg #[.int .u32 rs, .int .u32 rn]) (.agg #[.int .u32 0, .int .u32 0])).run Tryd.prog w = .ok (.bool d61) w) (he61 : ∀ w, (eqGuard .neq 26 (.tmp 65) (.tmp 66) (.agg #[.int .u32 rs, .int .u32 rn]) (.agg #[.int .u32 0, .int .u32 0])).run Tryd.prog w = .ok () w)
    (w : World) (hS : S w)
    (hnext : ∀ (u59 u60 u61 u62 u63 u64 u65 u66 u67 u68 : Value) (w' : World), S w' → SeqAt Tryd.prog psOps Q 64 ⟨#[u0, .pointer (some ⟨h, 0, none⟩), u2, u3, .pointer (some ⟨hn, 0, none⟩), u5, u6, u7, u8, u9, u10, u11, u12, u13, u14, u15, u16, u17, u18, u19, u20, u21, u22, u23, u24, u25, u26, u27, u28, u29, u30, u31, u32, u33, u34, u35, u36, u37, u38, u39, u40, u41, u42, u43, u44, u45, u46, u47, u48, u49, u50, u51, u52, u53, u54, u55, u56, u57, .bool b, u59, u60, u61, u62, u63, u64, u65, u66, u67, u68, .bool (b || (d56 && d61)), undef, undef, undef, undef, undef, undef, undef, undef, undef, undef, undef, undef, undef, undef, undef, undef, undef, undef, undef, undef, undef, undef, undef, undef, undef, undef, undef, undef, undef, undef, undef, undef, undef, undef, undef, undef, undef, undef, undef, undef, undef, undef, undef, undef, undef, undef, undef, undef, undef, undef, undef, undef, undef, undef, undef, undef, undef, undef, undef, undef, undef, undef, undef], []⟩ w') :
    SeqAt Tryd.prog psOps Q 53 ⟨#[u0, .pointer (some ⟨h, 0, none⟩), u2, u3, .pointer (some ⟨hn, 0, none⟩), u5, u6, u7, u8, u9, u10, u11, u12, u13, u14, u15, u16, u17, u18, u19, u20, u21, u22, u23, u24, u25, u26, u27, u28, u29, u30, u31, u32, u33, u34, u35, u36, u37, u38, u39, u40, u41, u42, u43, u44, u45, u46, u47, u48, u49, u50, u51, u52, u53, u54, u55, u56, u57, .bool b, undef, undef, undef, undef, undef, undef, undef, undef, undef, undef, undef, undef, undef, undef, undef, undef, undef, undef, undef, undef, undef, undef, undef, undef, undef, undef, undef, undef, undef, undef, undef, undef, undef, undef, undef, undef, undef, undef, undef, undef, undef, undef, undef, undef, undef, undef, undef, undef, undef, undef, undef, undef, undef, undef, undef, undef, undef, undef, undef, undef, undef, undef, undef, undef, undef, undef, undef, undef, undef, undef, undef, undef, undef, undef], []⟩ w := by
  refine seq_take (k := 53) (o := psOp 53) (v := .bool b) ps_hi53 (want_none ps_g53) (run_move ps_op53 rfl) ?_
  simp only [Act.put, ps_dst53, List.setIfInBounds_toArray, List.set_cons_zero, List.set_cons_succ]
  cases b with
  | false =>
    refine seq_take (k := 54) (o := psOp 54) (v := .pointer (some ⟨h, 8, none⟩)) ps_hi54 (want_other (c := false) ps_g54 ps_hi53 ps_dst53 (by rfl) rfl) (ps_field8 ps_op54 rfl) ?_
    simp only [Act.put, ps_dst54, List.setIfInBounds_toArray, List.set_cons_zero, List.set_cons_succ]
    refine seq_take (k := 55) (o := psOp 55) (v := .int .u32 rh) ps_hi55 (want_other (c := false) ps_g55 ps_hi53 ps_dst53 (by rfl) rfl) (run_load ps_op55 rfl (hl_h_8 _ hS)) ?_
    simp only [Act.put, ps_dst55, List.setIfInBounds_toArray, List.set_cons_zero, List.set_cons_succ]
    refine seq_take (k := 56) (o := psOp 56) (v := .bool d56) ps_hi56 (want_other (c := false) ps_g56 ps_hi53 ps_dst53 (by rfl) rfl) (run_bin ps_op56 rfl rfl (he56 _) (hd56 _)) ?_
    simp only [Act.put, ps_dst56, List.setIfInBounds_toArray, List.set_cons_zero, List.set_cons_succ]
    refine seq_take (k := 57) (o := psOp 57) (v := .bool d56) ps_hi57 (want_other (c := false) ps_g57 ps_hi53 ps_dst53 (by rfl) rfl) (run_move ps_op57 rfl) ?_
    simp only [Act.put, ps_dst57, List.setIfInBounds_toArray, List.set_cons_zero, List.set_cons_succ]
    cases d56 with
    | false =>
      refine seq_skip (k := 58) (o := psOp 58) ps_hi58 (want_not (c := false) ps_g58 ps_hi57 ps_dst57 (by rfl) rfl) ?_
      simp only [Act.put, ps_dst58, List.setIfInBounds_toArray, List.set_cons_zero, List.set_cons_succ]
      refine seq_skip (k := 59) (o := psOp 59) ps_hi59 (want_not (c := false) ps_g59 ps_hi57 ps_dst57 (by rfl) rfl) ?_
      simp only [Act.put, ps_dst59, List.setIfInBounds_toArray, List.set_cons_zero, List.set_cons_succ]
      refine seq_skip (k := 60) (o := psOp 60) ps_hi60 (want_not (c := false) ps_g60 ps_hi57 ps_dst57 (by rfl) rfl) ?_
      simp only [Act.put, ps_dst60, List.setIfInBounds_toArray, List.set_cons_zero, List.set_cons_succ]
      refine seq_skip (k := 61) (o := psOp 61) ps_hi61 (want_not (c := false) ps_g61 ps_hi57 ps_dst57 (by rfl) rfl) ?_
      simp only [Act.put, ps_dst61, List.setIfInBounds_toArray, List.set_cons_zero, List.set_cons_succ]
      refine seq_take (k := 62) (o := psOp 62) (v := .bool false) ps_hi62 (want_other (c := false) ps_g62 ps_hi53 ps_dst53 (by rfl) rfl) (run_pickf ps_op62 rfl rfl) ?_
      simp only [Act.put, ps_dst62, List.setIfInBounds_toArray, List.set_cons_zero, List.set_cons_succ]
      refine seq_take (k := 63) (o := psOp 63) (v := .bool false) ps_hi63 (want_none ps_g63) (run_pickf ps_op63 rfl rfl) ?_
      simp only [Act.put, ps_dst63, List.setIfInBounds_toArray, List.set_cons_zero, List.set_cons_succ]
      exact hnext _ _ _ _ _ _ _ _ _ _ _ hS
    | true =>
      refine seq_take (k := 58) (o := psOp 58) (v := .pointer (some ⟨h, 9, none⟩)) ps_hi58 (want_other (c := true) ps_g58 ps_hi57 ps_dst57 (by rfl) rfl) (ps_field9 ps_op58 rfl) ?_
      simp only [Act.put, ps_dst58, List.setIfInBounds_toArray, List.set_cons_zero, List.set_cons_succ]
      refine seq_take (k := 59) (o := psOp 59) (v := .agg #[.int .u32 rs, .int .u32 rn]) ps_hi59 (want_other (c := true) ps_g59 ps_hi57 ps_dst57 (by rfl) rfl) (run_load ps_op59 rfl (hl_h_9 _ hS)) ?_
      simp only [Act.put, ps_dst59, List.setIfInBounds_toArray, List.set_cons_zero, List.set_cons_succ]
      refine seq_take (k := 60) (o := psOp 60) (v := .agg #[.int .u32 0, .int .u32 0]) ps_hi60 (want_other (c := true) ps_g60 ps_hi57 ps_dst57 (by rfl) rfl) (run_load ps_op60 rfl (hl_hn_0 _ hS)) ?_
      simp only [Act.put, ps_dst60, List.setIfInBounds_toArray, List.set_cons_zero, List.set_cons_succ]
      refine seq_take (k := 61) (o := psOp 61) (v := .bool d61) ps_hi61 (want_other (c := true) ps_g61 ps_hi57 ps_dst57 (by rfl) rfl) (run_bin ps_op61 rfl rfl (he61 _) (hd61 _)) ?_
      simp only [Act.put, ps_dst61, List.setIfInBounds_toArray, List.set_cons_zero, List.set_cons_succ]
      refine seq_take (k := 62) (o := psOp 62) (v := .bool d61) ps_hi62 (want_other (c := false) ps_g62 ps_hi53 ps_dst53 (by rfl) rfl) (run_pickt ps_op62 rfl rfl) ?_
      simp only [Act.put, ps_dst62, List.setIfInBounds_toArray, List.set_cons_zero, List.set_cons_succ]
      refine seq_take (k := 63) (o := psOp 63) (v := .bool d61) ps_hi63 (want_none ps_g63) (run_pickf ps_op63 rfl rfl) ?_
      simp only [Act.put, ps_dst63, List.setIfInBounds_toArray, List.set_cons_zero, List.set_cons_succ]
      exact hnext _ _ _ _ _ _ _ _ _ _ _ hS
  | true =>
    refine seq_skip (k := 54) (o := psOp 54) ps_hi54 (want_not (c := true) ps_g54 ps_hi53 ps_dst53 (by rfl) rfl) ?_
    simp only [Act.put, ps_dst54, List.setIfInBounds_toArray, List.set_cons_zero, List.set_cons_succ]
    refine seq_skip (k := 55) (o := psOp 55) ps_hi55 (want_not (c := true) ps_g55 ps_hi53 ps_dst53 (by rfl) rfl) ?_
    simp only [Act.put, ps_dst55, List.setIfInBounds_toArray, List.set_cons_zero, List.set_cons_succ]
    refine seq_skip (k := 56) (o := psOp 56) ps_hi56 (want_not (c := true) ps_g56 ps_hi53 ps_dst53 (by rfl) rfl) ?_
    simp only [Act.put, ps_dst56, List.setIfInBounds_toArray, List.set_cons_zero, List.set_cons_succ]
    refine seq_skip (k := 57) (o := psOp 57) ps_hi57 (want_not (c := true) ps_g57 ps_hi53 ps_dst53 (by rfl) rfl) ?_
    simp only [Act.put, ps_dst57, List.setIfInBounds_toArray, List.set_cons_zero, List.set_cons_succ]
    refine seq_skip (k := 58) (o := psOp 58) ps_hi58 (want_undef ps_g58 ps_hi57 ps_dst57 (by rfl)) ?_
    simp only [Act.put, ps_dst58, List.setIfInBounds_toArray, List.set_cons_zero, List.set_cons_succ]
    refine seq_skip (k := 59) (o := psOp 59) ps_hi59 (want_undef ps_g59 ps_hi57 ps_dst57 (by rfl)) ?_
    simp only [Act.put, ps_dst59, List.setIfInBounds_toArray, List.set_cons_zero, List.set_cons_succ]
    refine seq_skip (k := 60) (o := psOp 60) ps_hi60 (want_undef ps_g60 ps_hi57 ps_dst57 (by rfl)) ?_
    simp only [Act.put, ps_dst60, List.setIfInBounds_toArray, List.set_cons_zero, List.set_cons_succ]
    refine seq_skip (k := 61) (o := psOp 61) ps_hi61 (want_undef ps_g61 ps_hi57 ps_dst57 (by rfl)) ?_
    simp only [Act.put, ps_dst61, List.setIfInBounds_toArray, List.set_cons_zero, List.set_cons_succ]
    refine seq_skip (k := 62) (o := psOp 62) ps_hi62 (want_not (c := true) ps_g62 ps_hi53 ps_dst53 (by rfl) rfl) ?_
    simp only [Act.put, ps_dst62, List.setIfInBounds_toArray, List.set_cons_zero, List.set_cons_succ]
    refine seq_take (k := 63) (o := psOp 63) (v := .bool true) ps_hi63 (want_none ps_g63) (run_pickt ps_op63 rfl rfl) ?_
    simp only [Act.put, ps_dst63, List.setIfInBounds_toArray, List.set_cons_zero, List.set_cons_succ]
    exact hnext _ _ _ _ _ _ _ _ _ _ _ hS
set_option maxRecDepth 100000 in
set_option maxHeartbeats 2000000 in
theorem ps_d9 {Q : Exit → Act → World → Prop} {S : World → Prop} (u0 u2 u3 u5 u6 u7 u8 u9 u10 u11 u12 u13 u14 u15 u16 u17 u18 u19 u20 u21 u22 u23 u24 u25 u26 u27 u28 u29 u30 u31 u32 u33 u34 u35 u36 u37 u38 u39 u40 u41 u42 u43 u44 u45 u46 u47 u48 u49 u50 u51 u52 u53 u54 u55 u56 u57 u58 u59 u60 u61 u62 u63 u64 u65 u66 u67 u68 : Value) (h hn : Nat) (b : Bool) (wh : Int) (d67 : Bool) (ws : Int) (wn : Int) (d72 : Bool) (hl_h_11 : ∀ w, S w → (loadVar 35 ⟨h, 11, none⟩).run Tryd.prog w = .ok (.int .u32 wh) w) (hd67 : ∀ w, (binOp .neq 35 (.int .u32 wh) (.int .u32 2)).run Tryd.prog w = .ok (.bool d67) w) (he67 : ∀ w, (eqGuard .neq 35 (.tmp 72) (.const (.int .u32 2)) (.int .u32 wh) (.int .u32 2)).run Tryd.prog w = .ok () w) (hl_h_12 : ∀ w, S w → (loadVar 26 ⟨h, 12, none⟩).run Tryd.prog w = .ok (.agg #[.int .u32 ws, .int .u32 wn]) w) (hl_hn_0 : ∀ w, S w → (loadVar 26 ⟨hn, 0, none⟩).run Tryd.prog w = .ok (.agg #[.int .u32 0, .int .u32 0]) w) (hd72 : ∀ w, (binOp .neq 26 (.agg #[.int .u32 ws, .int .u32 wn]) (.agg #[.int .u32 0, .int .u32 0])).run Tryd.prog w = .ok (.bool d72) w) (he72 : ∀ w, (eqGuard .neq 26 (.tmp 76) (.tmp 77) (.agg #[.int .u32 ws, .int .u32 wn]) (.agg #[.int .u32 0, .int .u32 0])).run Tryd.prog w = .ok () w)
    (w : World) (hS : S w)
    (hnext : ∀ (u70 u71 u72 u73 u74 u75 u76 u77 u78 u79 : Value) (w' : World), S w' → SeqAt Tryd.prog psOps Q 75 ⟨#[u0, .pointer (some ⟨h, 0, none⟩), u2, u3, .pointer (some ⟨hn, 0, none⟩), u5, u6, u7, u8, u9, u10, u11, u12, u13, u14, u15, u16, u17, u18, u19, u20, u21, u22, u23, u24, u25, u26, u27, u28, u29, u30, u31, u32, u33, u34, u35, u36, u37, u38, u39, u40, u41, u42, u43, u44, u45, u46, u47, u48, u49, u50, u51, u52, u53, u54, u55, u56, u57, u58, u59, u60, u61, u62, u63, u64, u65, u66, u67, u68, .bool b, u70, u71, u72, u73, u74, u75, u76, u77, u78, u79, .bool (b || (d67 && d72)), undef, undef, undef, undef, undef, undef, undef, undef, undef, undef, undef, undef, undef, undef, undef, undef, undef, undef, undef, undef, undef, undef, undef, undef, undef, undef, undef, undef, undef, undef, undef, undef, undef, undef, undef, undef, undef, undef, undef, undef, undef, undef, undef, undef, undef, undef, undef, undef, undef, undef, undef, undef], []⟩ w') :
    SeqAt Tryd.prog psOps Q 64 ⟨#[u0, .pointer (some ⟨h, 0, none⟩), u2, u3, .pointer (some ⟨hn, 0, none⟩), u5, u6, u7, u8, u9, u10, u11, u12, u13, u14, u15, u16, u17, u18, u19, u20, u21, u22, u23, u24, u25, u26, u27, u28, u29, u30, u31, u32, u33, u34, u35, u36, u37, u38, u39, u40, u41, u42, u43, u44, u45, u46, u47, u48, u49, u50, u51, u52, u53, u54, u55, u56, u57, u58, u59, u60, u61, u62, u63, u64, u65, u66, u67, u68, .bool b, undef, undef, undef, undef, undef, undef, undef, undef, undef, undef, undef, undef, undef, undef, undef, undef, undef, undef, undef, undef, undef, undef, undef, undef, undef, undef, undef, undef, undef, undef, undef, undef, undef, undef, undef, undef, undef, undef, undef, undef, undef, undef, undef, undef, undef, undef, undef, undef, undef, undef, undef, undef, undef, undef, undef, undef, undef, undef, undef, undef, undef, undef, undef], []⟩ w := by
  refine seq_take (k := 64) (o := psOp 64) (v := .bool b) ps_hi64 (want_none ps_g64) (run_move ps_op64 rfl) ?_
  simp only [Act.put, ps_dst64, List.setIfInBounds_toArray, List.set_cons_zero, List.set_cons_succ]
  cases b with
  | false =>
    refine seq_take (k := 65) (o := psOp 65) (v := .pointer (some ⟨h, 11, none⟩)) ps_hi65 (want_other (c := false) ps_g65 ps_hi64 ps_dst64 (by rfl) rfl) (ps_field10 ps_op65 rfl) ?_
    simp only [Act.put, ps_dst65, List.setIfInBounds_toArray, List.set_cons_zero, List.set_cons_succ]
    refine seq_take (k := 66) (o := psOp 66) (v := .int .u32 wh) ps_hi66 (want_other (c := false) ps_g66 ps_hi64 ps_dst64 (by rfl) rfl) (run_load ps_op66 rfl (hl_h_11 _ hS)) ?_
    simp only [Act.put, ps_dst66, List.setIfInBounds_toArray, List.set_cons_zero, List.set_cons_succ]
    refine seq_take (k := 67) (o := psOp 67) (v := .bool d67) ps_hi67 (want_other (c := false) ps_g67 ps_hi64 ps_dst64 (by rfl) rfl) (run_bin ps_op67 rfl rfl (he67 _) (hd67 _)) ?_
    simp only [Act.put, ps_dst67, List.setIfInBounds_toArray, List.set_cons_zero, List.set_cons_succ]
    refine seq_take (k := 68) (o := psOp 68) (v := .bool d67) ps_hi68 (want_other (c := false) ps_g68 ps_hi64 ps_dst64 (by rfl) rfl) (run_move ps_op68 rfl) ?_
    simp only [Act.put, ps_dst68, List.setIfInBounds_toArray, List.set_cons_zero, List.set_cons_succ]
    cases d67 with
    | false =>
      refine seq_skip (k := 69) (o := psOp 69) ps_hi69 (want_not (c := false) ps_g69 ps_hi68 ps_dst68 (by rfl) rfl) ?_
      simp only [Act.put, ps_dst69, List.setIfInBounds_toArray, List.set_cons_zero, List.set_cons_succ]
      refine seq_skip (k := 70) (o := psOp 70) ps_hi70 (want_not (c := false) ps_g70 ps_hi68 ps_dst68 (by rfl) rfl) ?_
      simp only [Act.put, ps_dst70, List.setIfInBounds_toArray, List.set_cons_zero, List.set_cons_succ]
      refine seq_skip (k := 71) (o := psOp 71) ps_hi71 (want_not (c := false) ps_g71 ps_hi68 ps_dst68 (by rfl) rfl) ?_
      simp only [Act.put, ps_dst71, List.setIfInBounds_toArray, List.set_cons_zero, List.set_cons_succ]
      refine seq_skip (k := 72) (o := psOp 72) ps_hi72 (want_not (c := false) ps_g72 ps_hi68 ps_dst68 (by rfl) rfl) ?_
      simp only [Act.put, ps_dst72, List.setIfInBounds_toArray, List.set_cons_zero, List.set_cons_succ]
      refine seq_take (k := 73) (o := psOp 73) (v := .bool false) ps_hi73 (want_other (c := false) ps_g73 ps_hi64 ps_dst64 (by rfl) rfl) (run_pickf ps_op73 rfl rfl) ?_
      simp only [Act.put, ps_dst73, List.setIfInBounds_toArray, List.set_cons_zero, List.set_cons_succ]
      refine seq_take (k := 74) (o := psOp 74) (v := .bool false) ps_hi74 (want_none ps_g74) (run_pickf ps_op74 rfl rfl) ?_
      simp only [Act.put, ps_dst74, List.setIfInBounds_toArray, List.set_cons_zero, List.set_cons_succ]
      exact hnext _ _ _ _ _ _ _ _ _ _ _ hS
    | true =>
      refine seq_take (k := 69) (o := psOp 69) (v := .pointer (some ⟨h, 12, none⟩)) ps_hi69 (want_other (c := true) ps_g69 ps_hi68 ps_dst68 (by rfl) rfl) (ps_field11 ps_op69 rfl) ?_
      simp only [Act.put, ps_dst69, List.setIfInBounds_toArray, List.set_cons_zero, List.set_cons_succ]
      refine seq_take (k := 70) (o := psOp 70) (v := .agg #[.int .u32 ws, .int .u32 wn]) ps_hi70 (want_other (c := true) ps_g70 ps_hi68 ps_dst68 (by rfl) rfl) (run_load ps_op70 rfl (hl_h_12 _ hS)) ?_
      simp only [Act.put, ps_dst70, List.setIfInBounds_toArray, List.set_cons_zero, List.set_cons_succ]
      refine seq_take (k := 71) (o := psOp 71) (v := .agg #[.int .u32 0, .int .u32 0]) ps_hi71 (want_other (c := true) ps_g71 ps_hi68 ps_dst68 (by rfl) rfl) (run_load ps_op71 rfl (hl_hn_0 _ hS)) ?_
      simp only [Act.put, ps_dst71, List.setIfInBounds_toArray, List.set_cons_zero, List.set_cons_succ]
      refine seq_take (k := 72) (o := psOp 72) (v := .bool d72) ps_hi72 (want_other (c := true) ps_g72 ps_hi68 ps_dst68 (by rfl) rfl) (run_bin ps_op72 rfl rfl (he72 _) (hd72 _)) ?_
      simp only [Act.put, ps_dst72, List.setIfInBounds_toArray, List.set_cons_zero, List.set_cons_succ]
      refine seq_take (k := 73) (o := psOp 73) (v := .bool d72) ps_hi73 (want_other (c := false) ps_g73 ps_hi64 ps_dst64 (by rfl) rfl) (run_pickt ps_op73 rfl rfl) ?_
      simp only [Act.put, ps_dst73, List.setIfInBounds_toArray, List.set_cons_zero, List.set_cons_succ]
      refine seq_take (k := 74) (o := psOp 74) (v := .bool d72) ps_hi74 (want_none ps_g74) (run_pickf ps_op74 rfl rfl) ?_
      simp only [Act.put, ps_dst74, List.setIfInBounds_toArray, List.set_cons_zero, List.set_cons_succ]
      exact hnext _ _ _ _ _ _ _ _ _ _ _ hS
  | true =>
    refine seq_skip (k := 65) (o := psOp 65) ps_hi65 (want_not (c := true) ps_g65 ps_hi64 ps_dst64 (by rfl) rfl) ?_
    simp only [Act.put, ps_dst65, List.setIfInBounds_toArray, List.set_cons_zero, List.set_cons_succ]
    refine seq_skip (k := 66) (o := psOp 66) ps_hi66 (want_not (c := true) ps_g66 ps_hi64 ps_dst64 (by rfl) rfl) ?_
    simp only [Act.put, ps_dst66, List.setIfInBounds_toArray, List.set_cons_zero, List.set_cons_succ]
    refine seq_skip (k := 67) (o := psOp 67) ps_hi67 (want_not (c := true) ps_g67 ps_hi64 ps_dst64 (by rfl) rfl) ?_
    simp only [Act.put, ps_dst67, List.setIfInBounds_toArray, List.set_cons_zero, List.set_cons_succ]
    refine seq_skip (k := 68) (o := psOp 68) ps_hi68 (want_not (c := true) ps_g68 ps_hi64 ps_dst64 (by rfl) rfl) ?_
    simp only [Act.put, ps_dst68, List.setIfInBounds_toArray, List.set_cons_zero, List.set_cons_succ]
    refine seq_skip (k := 69) (o := psOp 69) ps_hi69 (want_undef ps_g69 ps_hi68 ps_dst68 (by rfl)) ?_
    simp only [Act.put, ps_dst69, List.setIfInBounds_toArray, List.set_cons_zero, List.set_cons_succ]
    refine seq_skip (k := 70) (o := psOp 70) ps_hi70 (want_undef ps_g70 ps_hi68 ps_dst68 (by rfl)) ?_
    simp only [Act.put, ps_dst70, List.setIfInBounds_toArray, List.set_cons_zero, List.set_cons_succ]
    refine seq_skip (k := 71) (o := psOp 71) ps_hi71 (want_undef ps_g71 ps_hi68 ps_dst68 (by rfl)) ?_
    simp only [Act.put, ps_dst71, List.setIfInBounds_toArray, List.set_cons_zero, List.set_cons_succ]
    refine seq_skip (k := 72) (o := psOp 72) ps_hi72 (want_undef ps_g72 ps_hi68 ps_dst68 (by rfl)) ?_
    simp only [Act.put, ps_dst72, List.setIfInBounds_toArray, List.set_cons_zero, List.set_cons_succ]
    refine seq_skip (k := 73) (o := psOp 73) ps_hi73 (want_not (c := true) ps_g73 ps_hi64 ps_dst64 (by rfl) rfl) ?_
    simp only [Act.put, ps_dst73, List.setIfInBounds_toArray, List.set_cons_zero, List.set_cons_succ]
    refine seq_take (k := 74) (o := psOp 74) (v := .bool true) ps_hi74 (want_none ps_g74) (run_pickt ps_op74 rfl rfl) ?_
    simp only [Act.put, ps_dst74, List.setIfInBounds_toArray, List.set_cons_zero, List.set_cons_succ]
    exact hnext _ _ _ _ _ _ _ _ _ _ _ hS
set_option maxRecDepth 100000 in
set_option maxHeartbeats 2000000 in
theorem ps_d10 {Q : Exit → Act → World → Prop} {S : World → Prop} (u0 u2 u3 u5 u6 u7 u8 u9 u10 u11 u12 u13 u14 u15 u16 u17 u18 u19 u20 u21 u22 u23 u24 u25 u26 u27 u28 u29 u30 u31 u32 u33 u34 u35 u36 u37 u38 u39 u40 u41 u42 u43 u44 u45 u46 u47 u48 u49 u50 u51 u52 u53 u54 u55 u56 u57 u58 u59 u60 u61 u62 u63 u64 u65 u66 u67 u68 u69 u70 u71 u72 u73 u74 u75 u76 u77 u78 u79 : Value) (h hn : Nat) (b : Bool) (rs : Int) (rn : Int) (c78 : Bool) (hl_h_9 : ∀ w, S w → (loadVar 26 ⟨h, 9, none⟩).run Tryd.prog w = .ok (.agg #[.int .u32 rs, .int .u32 rn]) w) (hc78 : ∀ w, S w → Calls Tryd.prog 26 #[.agg #[.int .u32 rs, .int .u32 rn]] w fun e w' => e = .returned (.bool c78) ∧ S w')
    (w : World) (hS : S w)
    (hnext : ∀ (u81 u82 u83 u84 u85 : Value) (w' : World), S w' → SeqAt Tryd.prog psOps Q 81 ⟨#[u0, .pointer (some ⟨h, 0, none⟩), u2, u3, .pointer (some ⟨hn, 0, none⟩), u5, u6, u7, u8, u9, u10, u11, u12, u13, u14, u15, u16, u17, u18, u19, u20, u21, u22, u23, u24, u25, u26, u27, u28, u29, u30, u31, u32, u33, u34, u35, u36, u37, u38, u39, u40, u41, u42, u43, u44, u45, u46, u47, u48, u49, u50, u51, u52, u53, u54, u55, u56, u57, u58, u59, u60, u61, u62, u63, u64, u65, u66, u67, u68, u69, u70, u71, u72, u73, u74, u75, u76, u77, u78, u79, .bool b, u81, u82, u83, u84, u85, .bool (b || !c78), undef, undef, undef, undef, undef, undef, undef, undef, undef, undef, undef, undef, undef, undef, undef, undef, undef, undef, undef, undef, undef, undef, undef, undef, undef, undef, undef, undef, undef, undef, undef, undef, undef, undef, undef, undef, undef, undef, undef, undef, undef, undef, undef, undef, undef, undef], []⟩ w') :
    SeqAt Tryd.prog psOps Q 75 ⟨#[u0, .pointer (some ⟨h, 0, none⟩), u2, u3, .pointer (some ⟨hn, 0, none⟩), u5, u6, u7, u8, u9, u10, u11, u12, u13, u14, u15, u16, u17, u18, u19, u20, u21, u22, u23, u24, u25, u26, u27, u28, u29, u30, u31, u32, u33, u34, u35, u36, u37, u38, u39, u40, u41, u42, u43, u44, u45, u46, u47, u48, u49, u50, u51, u52, u53, u54, u55, u56, u57, u58, u59, u60, u61, u62, u63, u64, u65, u66, u67, u68, u69, u70, u71, u72, u73, u74, u75, u76, u77, u78, u79, .bool b, undef, undef, undef, undef, undef, undef, undef, undef, undef, undef, undef, undef, undef, undef, undef, undef, undef, undef, undef, undef, undef, undef, undef, undef, undef, undef, undef, undef, undef, undef, undef, undef, undef, undef, undef, undef, undef, undef, undef, undef, undef, undef, undef, undef, undef, undef, undef, undef, undef, undef, undef, undef], []⟩ w := by
  refine seq_take (k := 75) (o := psOp 75) (v := .bool b) ps_hi75 (want_none ps_g75) (run_move ps_op75 rfl) ?_
  simp only [Act.put, ps_dst75, List.setIfInBounds_toArray, List.set_cons_zero, List.set_cons_succ]
  cases b with
  | false =>
    refine seq_take (k := 76) (o := psOp 76) (v := .pointer (some ⟨h, 9, none⟩)) ps_hi76 (want_other (c := false) ps_g76 ps_hi75 ps_dst75 (by rfl) rfl) (ps_field9 ps_op76 rfl) ?_
    simp only [Act.put, ps_dst76, List.setIfInBounds_toArray, List.set_cons_zero, List.set_cons_succ]
    refine seq_take (k := 77) (o := psOp 77) (v := .agg #[.int .u32 rs, .int .u32 rn]) ps_hi77 (want_other (c := false) ps_g77 ps_hi75 ps_dst75 (by rfl) rfl) (run_load ps_op77 rfl (hl_h_9 _ hS)) ?_
    simp only [Act.put, ps_dst77, List.setIfInBounds_toArray, List.set_cons_zero, List.set_cons_succ]
    refine seq_enter (k := 78) (o := psOp 78) ps_hi78 (want_other (c := false) ps_g78 ps_hi75 ps_dst75 (by rfl) rfl) (run_enter1 ps_op78 rfl ps_enter_check) (hc78 _ hS) ?_
    clear hS
    intro w1 hS
    simp only [Act.put, ps_dst78, List.setIfInBounds_toArray, List.set_cons_zero, List.set_cons_succ]
    refine seq_take (k := 79) (o := psOp 79) (v := .bool (!c78)) ps_hi79 (want_other (c := false) ps_g79 ps_hi75 ps_dst75 (by rfl) rfl) (run_not (b := c78) (r := (!c78)) ps_op79 rfl rfl) ?_
    simp only [Act.put, ps_dst79, List.setIfInBounds_toArray, List.set_cons_zero, List.set_cons_succ]
    refine seq_take (k := 80) (o := psOp 80) (v := .bool (!c78)) ps_hi80 (want_none ps_g80) (run_pickf ps_op80 rfl rfl) ?_
    simp only [Act.put, ps_dst80, List.setIfInBounds_toArray, List.set_cons_zero, List.set_cons_succ]
    exact hnext _ _ _ _ _ _ hS
  | true =>
    refine seq_skip (k := 76) (o := psOp 76) ps_hi76 (want_not (c := true) ps_g76 ps_hi75 ps_dst75 (by rfl) rfl) ?_
    simp only [Act.put, ps_dst76, List.setIfInBounds_toArray, List.set_cons_zero, List.set_cons_succ]
    refine seq_skip (k := 77) (o := psOp 77) ps_hi77 (want_not (c := true) ps_g77 ps_hi75 ps_dst75 (by rfl) rfl) ?_
    simp only [Act.put, ps_dst77, List.setIfInBounds_toArray, List.set_cons_zero, List.set_cons_succ]
    refine seq_skip (k := 78) (o := psOp 78) ps_hi78 (want_not (c := true) ps_g78 ps_hi75 ps_dst75 (by rfl) rfl) ?_
    simp only [Act.put, ps_dst78, List.setIfInBounds_toArray, List.set_cons_zero, List.set_cons_succ]
    refine seq_skip (k := 79) (o := psOp 79) ps_hi79 (want_not (c := true) ps_g79 ps_hi75 ps_dst75 (by rfl) rfl) ?_
    simp only [Act.put, ps_dst79, List.setIfInBounds_toArray, List.set_cons_zero, List.set_cons_succ]
    refine seq_take (k := 80) (o := psOp 80) (v := .bool true) ps_hi80 (want_none ps_g80) (run_pickt ps_op80 rfl rfl) ?_
    simp only [Act.put, ps_dst80, List.setIfInBounds_toArray, List.set_cons_zero, List.set_cons_succ]
    exact hnext _ _ _ _ _ _ hS
set_option maxRecDepth 100000 in
set_option maxHeartbeats 2000000 in
theorem ps_d11 {Q : Exit → Act → World → Prop} {S : World → Prop} (u0 u2 u3 u5 u6 u7 u8 u9 u10 u11 u12 u13 u14 u15 u16 u17 u18 u19 u20 u21 u22 u23 u24 u25 u26 u27 u28 u29 u30 u31 u32 u33 u34 u35 u36 u37 u38 u39 u40 u41 u42 u43 u44 u45 u46 u47 u48 u49 u50 u51 u52 u53 u54 u55 u56 u57 u58 u59 u60 u61 u62 u63 u64 u65 u66 u67 u68 u69 u70 u71 u72 u73 u74 u75 u76 u77 u78 u79 u80 u81 u82 u83 u84 u85 : Value) (h hn : Nat) (b : Bool) (ws : Int) (wn : Int) (c84 : Bool) (hl_h_12 : ∀ w, S w → (loadVar 26 ⟨h, 12, none⟩).run Tryd.prog w = .ok (.agg #[.int .u32 ws, .int .u32 wn]) w) (hc84 : ∀ w, S w → Calls Tryd.prog 26 #[.agg #[.int .u32 ws, .int .u32 wn]] w fun e w' => e = .returned (.bool c84) ∧ S w')
    (w : World) (hS : S w)
    (hnext : ∀ (u87 u88 u89 u90 u91 : Value) (w' : World), S w' → SeqAt Tryd.prog psOps Q 87 ⟨#[u0, .pointer (some ⟨h, 0, none⟩), u2, u3, .pointer (some ⟨hn, 0, none⟩), u5, u6, u7, u8, u9, u10, u11, u12, u13, u14, u15, u16, u17, u18, u19, u20, u21, u22, u23, u24, u25, u26, u27, u28, u29, u30, u31, u32, u33, u34, u35, u36, u37, u38, u39, u40, u41, u42, u43, u44, u45, u46, u47, u48, u49, u50, u51, u52, u53, u54, u55, u56, u57, u58, u59, u60, u61, u62, u63, u64, u65, u66, u67, u68, u69, u70, u71, u72, u73, u74, u75, u76, u77, u78, u79, u80, u81, u82, u83, u84, u85, .bool b, u87, u88, u89, u90, u91, .bool (b || !c84), undef, undef, undef, undef, undef, undef, undef, undef, undef, undef, undef, undef, undef, undef, undef, undef, undef, undef, undef, undef, undef, undef, undef, undef, undef, undef, undef, undef, undef, undef, undef, undef, undef, undef, undef, undef, undef, undef, undef, undef], []⟩ w') :
    SeqAt Tryd.prog psOps Q 81 ⟨#[u0, .pointer (some ⟨h, 0, none⟩), u2, u3, .pointer (some ⟨hn, 0, none⟩), u5, u6, u7, u8, u9, u10, u11, u12, u13, u14, u15, u16, u17, u18, u19, u20, u21, u22, u23, u24, u25, u26, u27, u28, u29, u30, u31, u32, u33, u34, u35, u36, u37, u38, u39, u40, u41, u42, u43, u44, u45, u46, u47, u48, u49, u50, u51, u52, u53, u54, u55, u56, u57, u58, u59, u60, u61, u62, u63, u64, u65, u66, u67, u68, u69, u70, u71, u72, u73, u74, u75, u76, u77, u78, u79, u80, u81, u82, u83, u84, u85, .bool b, undef, undef, undef, undef, undef, undef, undef, undef, undef, undef, undef, undef, undef, undef, undef, undef, undef, undef, undef, undef, undef, undef, undef, undef, undef, undef, undef, undef, undef, undef, undef, undef, undef, undef, undef, undef, undef, undef, undef, undef, undef, undef, undef, undef, undef, undef], []⟩ w := by
  refine seq_take (k := 81) (o := psOp 81) (v := .bool b) ps_hi81 (want_none ps_g81) (run_move ps_op81 rfl) ?_
  simp only [Act.put, ps_dst81, List.setIfInBounds_toArray, List.set_cons_zero, List.set_cons_succ]
  cases b with
  | false =>
    refine seq_take (k := 82) (o := psOp 82) (v := .pointer (some ⟨h, 12, none⟩)) ps_hi82 (want_other (c := false) ps_g82 ps_hi81 ps_dst81 (by rfl) rfl) (ps_field11 ps_op82 rfl) ?_
    simp only [Act.put, ps_dst82, List.setIfInBounds_toArray, List.set_cons_zero, List.set_cons_succ]
    refine seq_take (k := 83) (o := psOp 83) (v := .agg #[.int .u32 ws, .int .u32 wn]) ps_hi83 (want_other (c := false) ps_g83 ps_hi81 ps_dst81 (by rfl) rfl) (run_load ps_op83 rfl (hl_h_12 _ hS)) ?_
    simp only [Act.put, ps_dst83, List.setIfInBounds_toArray, List.set_cons_zero, List.set_cons_succ]
    refine seq_enter (k := 84) (o := psOp 84) ps_hi84 (want_other (c := false) ps_g84 ps_hi81 ps_dst81 (by rfl) rfl) (run_enter1 ps_op84 rfl ps_enter_check) (hc84 _ hS) ?_
    clear hS
    intro w1 hS
    simp only [Act.put, ps_dst84, List.setIfInBounds_toArray, List.set_cons_zero, List.set_cons_succ]
    refine seq_take (k := 85) (o := psOp 85) (v := .bool (!c84)) ps_hi85 (want_other (c := false) ps_g85 ps_hi81 ps_dst81 (by rfl) rfl) (run_not (b := c84) (r := (!c84)) ps_op85 rfl rfl) ?_
    simp only [Act.put, ps_dst85, List.setIfInBounds_toArray, List.set_cons_zero, List.set_cons_succ]
    refine seq_take (k := 86) (o := psOp 86) (v := .bool (!c84)) ps_hi86 (want_none ps_g86) (run_pickf ps_op86 rfl rfl) ?_
    simp only [Act.put, ps_dst86, List.setIfInBounds_toArray, List.set_cons_zero, List.set_cons_succ]
    exact hnext _ _ _ _ _ _ hS
  | true =>
    refine seq_skip (k := 82) (o := psOp 82) ps_hi82 (want_not (c := true) ps_g82 ps_hi81 ps_dst81 (by rfl) rfl) ?_
    simp only [Act.put, ps_dst82, List.setIfInBounds_toArray, List.set_cons_zero, List.set_cons_succ]
    refine seq_skip (k := 83) (o := psOp 83) ps_hi83 (want_not (c := true) ps_g83 ps_hi81 ps_dst81 (by rfl) rfl) ?_
    simp only [Act.put, ps_dst83, List.setIfInBounds_toArray, List.set_cons_zero, List.set_cons_succ]
    refine seq_skip (k := 84) (o := psOp 84) ps_hi84 (want_not (c := true) ps_g84 ps_hi81 ps_dst81 (by rfl) rfl) ?_
    simp only [Act.put, ps_dst84, List.setIfInBounds_toArray, List.set_cons_zero, List.set_cons_succ]
    refine seq_skip (k := 85) (o := psOp 85) ps_hi85 (want_not (c := true) ps_g85 ps_hi81 ps_dst81 (by rfl) rfl) ?_
    simp only [Act.put, ps_dst85, List.setIfInBounds_toArray, List.set_cons_zero, List.set_cons_succ]
    refine seq_take (k := 86) (o := psOp 86) (v := .bool true) ps_hi86 (want_none ps_g86) (run_pickt ps_op86 rfl rfl) ?_
    simp only [Act.put, ps_dst86, List.setIfInBounds_toArray, List.set_cons_zero, List.set_cons_succ]
    exact hnext _ _ _ _ _ _ hS
end Go.Proofs.YtecbhhfncklefaaDoor
