/- The row of 'PutWeak' that asks whether it may be put: its parts between '||', one by one; nothing is claimed of the program here. -/
import Derived.Test.YtecbhhfncklefaaDoorPwOpsMx
namespace Go.Proofs.YtecbhhfncklefaaDoor
set_option linter.unusedVariables false
open Go.RowKit

set_option maxRecDepth 100000 in
set_option maxHeartbeats 2000000 in
theorem pw_d1 {Q : Exit → Act → World → Prop} {S : World → Prop} (u0 u2 u3 u5 u6 : Value) (h hn : Nat) (hb : Bool) (size : Int) (d6 : Bool) (ws : Int) (wn : Int) (d11 : Bool) (ts : Int) (tn : Int) (d17 : Bool) (hl_h_0 : ∀ w, S w → (loadVar 4 ⟨h, 0, none⟩).run Tryd.prog w = .ok (.bool hb) w) (hl_h_1 : ∀ w, S w → (loadVar 24 ⟨h, 1, none⟩).run Tryd.prog w = .ok (.int .u64 size) w) (hd6 : ∀ w, (binOp .neq 24 (.int .u64 size) (.int .u64 0)).run Tryd.prog w = .ok (.bool d6) w) (he6 : ∀ w, (eqGuard .neq 24 (.tmp 12) (.const (.int .u64 0)) (.int .u64 size) (.int .u64 0)).run Tryd.prog w = .ok () w) (hl_h_2 : ∀ w, S w → (loadVar 26 ⟨h, 2, none⟩).run Tryd.prog w = .ok (.agg #[.int .u32 ws, .int .u32 wn]) w) (hl_hn_0 : ∀ w, S w → (loadVar 26 ⟨hn, 0, none⟩).run Tryd.prog w = .ok (.agg #[.int .u32 0, .int .u32 0]) w) (hd11 : ∀ w, (binOp .neq 26 (.agg #[.int .u32 ws, .int .u32 wn]) (.agg #[.int .u32 0, .int .u32 0])).run Tryd.prog w = .ok (.bool d11) w) (he11 : ∀ w, (eqGuard .neq 26 (.tmp 16) (.tmp 17) (.agg #[.int .u32 ws, .int .u32 wn]) (.agg #[.int .u32 0, .int .u32 0])).run Tryd.prog w = .ok () w) (hl_h_4 : ∀ w, S w → (loadVar 26 ⟨h, 4, none⟩).run Tryd.prog w = .ok (.agg #[.int .u32 ts, .int .u32 tn]) w) (hd17 : ∀ w, (binOp .neq 26 (.agg #[.int .u32 ts, .int .u32 tn]) (.agg #[.int .u32 0, .int .u32 0])).run Tryd.prog w = .ok (.bool d17) w) (he17 : ∀ w, (eqGuard .neq 26 (.tmp 22) (.tmp 23) (.agg #[.int .u32 ts, .int .u32 tn]) (.agg #[.int .u32 0, .int .u32 0])).run Tryd.prog w = .ok () w)
    (w : World) (hS : S w)
    (hnext : ∀ (u7 u8 u9 u10 u11 u12 u13 u14 u15 u16 u17 u18 u19 u20 u21 u22 u23 u24 u25 : Value) (w' : World), S w' → SeqAt Tryd.prog pwOps Q 20 ⟨#[u0, .pointer (some ⟨h, 0, none⟩), u2, u3, .pointer (some ⟨hn, 0, none⟩), u5, u6, u7, u8, u9, u10, u11, u12, u13, u14, u15, u16, u17, u18, u19, u20, u21, u22, u23, u24, u25, .bool (!hb && (d6 || (d11 || d17))), undef, undef, undef, undef, undef, undef, undef, undef, undef, undef, undef, undef, undef, undef, undef, undef, undef, undef, undef, undef, undef, undef, undef, undef, undef, undef, undef, undef, undef, undef, undef, undef, undef, undef, undef, undef, undef, undef, undef, undef, undef, undef, undef, undef, undef, undef, undef, undef, undef, undef, undef, undef, undef, undef, undef, undef], []⟩ w') :
    SeqAt Tryd.prog pwOps Q 0 ⟨#[u0, .pointer (some ⟨h, 0, none⟩), u2, u3, .pointer (some ⟨hn, 0, none⟩), u5, u6, undef, undef, undef, undef, undef, undef, undef, undef, undef, undef, undef, undef, undef, undef, undef, undef, undef, undef, undef, undef, undef, undef, undef, undef, undef, undef, undef, undef, undef, undef, undef, undef, undef, undef, undef, undef, undef, undef, undef, undef, undef, undef, undef, undef, undef, undef, undef, undef, undef, undef, undef, undef, undef, undef, undef, undef, undef, undef, undef, undef, undef, undef, undef, undef, undef, undef, undef, undef, undef, undef, undef, undef, undef, undef, undef, undef], []⟩ w := by
  refine seq_take (k := 0) (o := pwOp 0) (v := .pointer (some ⟨h, 0, none⟩)) pw_hi0 (want_none pw_g0) (pw_field0 pw_op0 rfl) ?_
  simp only [Act.put, pw_dst0, List.setIfInBounds_toArray, List.set_cons_zero, List.set_cons_succ]
  cases hb with
  | false =>
    refine seq_take (k := 1) (o := pwOp 1) (v := .bool false) pw_hi1 (want_none pw_g1) (run_load pw_op1 rfl (hl_h_0 _ hS)) ?_
    simp only [Act.put, pw_dst1, List.setIfInBounds_toArray, List.set_cons_zero, List.set_cons_succ]
    refine seq_take (k := 2) (o := pwOp 2) (v := .bool true) pw_hi2 (want_none pw_g2) (run_not (b := false) (r := true) pw_op2 rfl rfl) ?_
    simp only [Act.put, pw_dst2, List.setIfInBounds_toArray, List.set_cons_zero, List.set_cons_succ]
    refine seq_take (k := 3) (o := pwOp 3) (v := .bool true) pw_hi3 (want_none pw_g3) (run_move pw_op3 rfl) ?_
    simp only [Act.put, pw_dst3, List.setIfInBounds_toArray, List.set_cons_zero, List.set_cons_succ]
    refine seq_take (k := 4) (o := pwOp 4) (v := .pointer (some ⟨h, 1, none⟩)) pw_hi4 (want_other (c := true) pw_g4 pw_hi3 pw_dst3 (by rfl) rfl) (pw_field1 pw_op4 rfl) ?_
    simp only [Act.put, pw_dst4, List.setIfInBounds_toArray, List.set_cons_zero, List.set_cons_succ]
    refine seq_take (k := 5) (o := pwOp 5) (v := .int .u64 size) pw_hi5 (want_other (c := true) pw_g5 pw_hi3 pw_dst3 (by rfl) rfl) (run_load pw_op5 rfl (hl_h_1 _ hS)) ?_
    simp only [Act.put, pw_dst5, List.setIfInBounds_toArray, List.set_cons_zero, List.set_cons_succ]
    refine seq_take (k := 6) (o := pwOp 6) (v := .bool d6) pw_hi6 (want_other (c := true) pw_g6 pw_hi3 pw_dst3 (by rfl) rfl) (run_bin pw_op6 rfl rfl (he6 _) (hd6 _)) ?_
    simp only [Act.put, pw_dst6, List.setIfInBounds_toArray, List.set_cons_zero, List.set_cons_succ]
    refine seq_take (k := 7) (o := pwOp 7) (v := .bool d6) pw_hi7 (want_other (c := true) pw_g7 pw_hi3 pw_dst3 (by rfl) rfl) (run_move pw_op7 rfl) ?_
    simp only [Act.put, pw_dst7, List.setIfInBounds_toArray, List.set_cons_zero, List.set_cons_succ]
    cases d6 with
    | false =>
      refine seq_take (k := 8) (o := pwOp 8) (v := .pointer (some ⟨h, 2, none⟩)) pw_hi8 (want_other (c := false) pw_g8 pw_hi7 pw_dst7 (by rfl) rfl) (pw_field2 pw_op8 rfl) ?_
      simp only [Act.put, pw_dst8, List.setIfInBounds_toArray, List.set_cons_zero, List.set_cons_succ]
      refine seq_take (k := 9) (o := pwOp 9) (v := .agg #[.int .u32 ws, .int .u32 wn]) pw_hi9 (want_other (c := false) pw_g9 pw_hi7 pw_dst7 (by rfl) rfl) (run_load pw_op9 rfl (hl_h_2 _ hS)) ?_
      simp only [Act.put, pw_dst9, List.setIfInBounds_toArray, List.set_cons_zero, List.set_cons_succ]
      refine seq_take (k := 10) (o := pwOp 10) (v := .agg #[.int .u32 0, .int .u32 0]) pw_hi10 (want_other (c := false) pw_g10 pw_hi7 pw_dst7 (by rfl) rfl) (run_load pw_op10 rfl (hl_hn_0 _ hS)) ?_
      simp only [Act.put, pw_dst10, List.setIfInBounds_toArray, List.set_cons_zero, List.set_cons_succ]
      refine seq_take (k := 11) (o := pwOp 11) (v := .bool d11) pw_hi11 (want_other (c := false) pw_g11 pw_hi7 pw_dst7 (by rfl) rfl) (run_bin pw_op11 rfl rfl (he11 _) (hd11 _)) ?_
      simp only [Act.put, pw_dst11, List.setIfInBounds_toArray, List.set_cons_zero, List.set_cons_succ]
      refine seq_take (k := 12) (o := pwOp 12) (v := .bool d11) pw_hi12 (want_other (c := true) pw_g12 pw_hi3 pw_dst3 (by rfl) rfl) (run_pickf pw_op12 rfl rfl) ?_
      simp only [Act.put, pw_dst12, List.setIfInBounds_toArray, List.set_cons_zero, List.set_cons_succ]
      refine seq_take (k := 13) (o := pwOp 13) (v := .bool d11) pw_hi13 (want_other (c := true) pw_g13 pw_hi3 pw_dst3 (by rfl) rfl) (run_move pw_op13 rfl) ?_
      simp only [Act.put, pw_dst13, List.setIfInBounds_toArray, List.set_cons_zero, List.set_cons_succ]
      cases d11 with
      | false =>
        refine seq_take (k := 14) (o := pwOp 14) (v := .pointer (some ⟨h, 4, none⟩)) pw_hi14 (want_other (c := false) pw_g14 pw_hi13 pw_dst13 (by rfl) rfl) (pw_field3 pw_op14 rfl) ?_
        simp only [Act.put, pw_dst14, List.setIfInBounds_toArray, List.set_cons_zero, List.set_cons_succ]
        refine seq_take (k := 15) (o := pwOp 15) (v := .agg #[.int .u32 ts, .int .u32 tn]) pw_hi15 (want_other (c := false) pw_g15 pw_hi13 pw_dst13 (by rfl) rfl) (run_load pw_op15 rfl (hl_h_4 _ hS)) ?_
        simp only [Act.put, pw_dst15, List.setIfInBounds_toArray, List.set_cons_zero, List.set_cons_succ]
        refine seq_take (k := 16) (o := pwOp 16) (v := .agg #[.int .u32 0, .int .u32 0]) pw_hi16 (want_other (c := false) pw_g16 pw_hi13 pw_dst13 (by rfl) rfl) (run_load pw_op16 rfl (hl_hn_0 _ hS)) ?_
        simp only [Act.put, pw_dst16, List.setIfInBounds_toArray, List.set_cons_zero, List.set_cons_succ]
        refine seq_take (k := 17) (o := pwOp 17) (v := .bool d17) pw_hi17 (want_other (c := false) pw_g17 pw_hi13 pw_dst13 (by rfl) rfl) (run_bin pw_op17 rfl rfl (he17 _) (hd17 _)) ?_
        simp only [Act.put, pw_dst17, List.setIfInBounds_toArray, List.set_cons_zero, List.set_cons_succ]
        refine seq_take (k := 18) (o := pwOp 18) (v := .bool d17) pw_hi18 (want_other (c := true) pw_g18 pw_hi3 pw_dst3 (by rfl) rfl) (run_pickf pw_op18 rfl rfl) ?_
        simp only [Act.put, pw_dst18, List.setIfInBounds_toArray, List.set_cons_zero, List.set_cons_succ]
        refine seq_take (k := 19) (o := pwOp 19) (v := .bool d17) pw_hi19 (want_none pw_g19) (run_pickt pw_op19 rfl rfl) ?_
        simp only [Act.put, pw_dst19, List.setIfInBounds_toArray, List.set_cons_zero, List.set_cons_succ]
        exact hnext _ _ _ _ _ _ _ _ _ _ _ _ _ _ _ _ _ _ _ _ hS
      | true =>
        refine seq_skip (k := 14) (o := pwOp 14) pw_hi14 (want_not (c := true) pw_g14 pw_hi13 pw_dst13 (by rfl) rfl) ?_
        simp only [Act.put, pw_dst14, List.setIfInBounds_toArray, List.set_cons_zero, List.set_cons_succ]
        refine seq_skip (k := 15) (o := pwOp 15) pw_hi15 (want_not (c := true) pw_g15 pw_hi13 pw_dst13 (by rfl) rfl) ?_
        simp only [Act.put, pw_dst15, List.setIfInBounds_toArray, List.set_cons_zero, List.set_cons_succ]
        refine seq_skip (k := 16) (o := pwOp 16) pw_hi16 (want_not (c := true) pw_g16 pw_hi13 pw_dst13 (by rfl) rfl) ?_
        simp only [Act.put, pw_dst16, List.setIfInBounds_toArray, List.set_cons_zero, List.set_cons_succ]
        refine seq_skip (k := 17) (o := pwOp 17) pw_hi17 (want_not (c := true) pw_g17 pw_hi13 pw_dst13 (by rfl) rfl) ?_
        simp only [Act.put, pw_dst17, List.setIfInBounds_toArray, List.set_cons_zero, List.set_cons_succ]
        refine seq_take (k := 18) (o := pwOp 18) (v := .bool true) pw_hi18 (want_other (c := true) pw_g18 pw_hi3 pw_dst3 (by rfl) rfl) (run_pickt pw_op18 rfl rfl) ?_
        simp only [Act.put, pw_dst18, List.setIfInBounds_toArray, List.set_cons_zero, List.set_cons_succ]
        refine seq_take (k := 19) (o := pwOp 19) (v := .bool true) pw_hi19 (want_none pw_g19) (run_pickt pw_op19 rfl rfl) ?_
        simp only [Act.put, pw_dst19, List.setIfInBounds_toArray, List.set_cons_zero, List.set_cons_succ]
        exact hnext _ _ _ _ _ _ _ _ _ _ _ _ _ _ _ _ _ _ _ _ hS
    | true =>
      refine seq_skip (k := 8) (o := pwOp 8) pw_hi8 (want_not (c := true) pw_g8 pw_hi7 pw_dst7 (by rfl) rfl) ?_
      simp only [Act.put, pw_dst8, List.setIfInBounds_toArray, List.set_cons_zero, List.set_cons_succ]
      refine seq_skip (k := 9) (o := pwOp 9) pw_hi9 (want_not (c := true) pw_g9 pw_hi7 pw_dst7 (by rfl) rfl) ?_
      simp only [Act.put, pw_dst9, List.setIfInBounds_toArray, List.set_cons_zero, List.set_cons_succ]
      refine seq_skip (k := 10) (o := pwOp 10) pw_hi10 (want_not (c := true) pw_g10 pw_hi7 pw_dst7 (by rfl) rfl) ?_
      simp only [Act.put, pw_dst10, List.setIfInBounds_toArray, List.set_cons_zero, List.set_cons_succ]
      refine seq_skip (k := 11) (o := pwOp 11) pw_hi11 (want_not (c := true) pw_g11 pw_hi7 pw_dst7 (by rfl) rfl) ?_
      simp only [Act.put, pw_dst11, List.setIfInBounds_toArray, List.set_cons_zero, List.set_cons_succ]
      refine seq_take (k := 12) (o := pwOp 12) (v := .bool true) pw_hi12 (want_other (c := true) pw_g12 pw_hi3 pw_dst3 (by rfl) rfl) (run_pickt pw_op12 rfl rfl) ?_
      simp only [Act.put, pw_dst12, List.setIfInBounds_toArray, List.set_cons_zero, List.set_cons_succ]
      refine seq_take (k := 13) (o := pwOp 13) (v := .bool true) pw_hi13 (want_other (c := true) pw_g13 pw_hi3 pw_dst3 (by rfl) rfl) (run_move pw_op13 rfl) ?_
      simp only [Act.put, pw_dst13, List.setIfInBounds_toArray, List.set_cons_zero, List.set_cons_succ]
      refine seq_skip (k := 14) (o := pwOp 14) pw_hi14 (want_not (c := true) pw_g14 pw_hi13 pw_dst13 (by rfl) rfl) ?_
      simp only [Act.put, pw_dst14, List.setIfInBounds_toArray, List.set_cons_zero, List.set_cons_succ]
      refine seq_skip (k := 15) (o := pwOp 15) pw_hi15 (want_not (c := true) pw_g15 pw_hi13 pw_dst13 (by rfl) rfl) ?_
      simp only [Act.put, pw_dst15, List.setIfInBounds_toArray, List.set_cons_zero, List.set_cons_succ]
      refine seq_skip (k := 16) (o := pwOp 16) pw_hi16 (want_not (c := true) pw_g16 pw_hi13 pw_dst13 (by rfl) rfl) ?_
      simp only [Act.put, pw_dst16, List.setIfInBounds_toArray, List.set_cons_zero, List.set_cons_succ]
      refine seq_skip (k := 17) (o := pwOp 17) pw_hi17 (want_not (c := true) pw_g17 pw_hi13 pw_dst13 (by rfl) rfl) ?_
      simp only [Act.put, pw_dst17, List.setIfInBounds_toArray, List.set_cons_zero, List.set_cons_succ]
      refine seq_take (k := 18) (o := pwOp 18) (v := .bool true) pw_hi18 (want_other (c := true) pw_g18 pw_hi3 pw_dst3 (by rfl) rfl) (run_pickt pw_op18 rfl rfl) ?_
      simp only [Act.put, pw_dst18, List.setIfInBounds_toArray, List.set_cons_zero, List.set_cons_succ]
      refine seq_take (k := 19) (o := pwOp 19) (v := .bool true) pw_hi19 (want_none pw_g19) (run_pickt pw_op19 rfl rfl) ?_
      simp only [Act.put, pw_dst19, List.setIfInBounds_toArray, List.set_cons_zero, List.set_cons_succ]
      exact hnext _ _ _ _ _ _ _ _ _ _ _ _ _ _ _ _ _ _ _ _ hS
  | true =>
    refine seq_take (k := 1) (o := pwOp 1) (v := .bool true) pw_hi1 (want_none pw_g1) (run_load pw_op1 rfl (hl_h_0 _ hS)) ?_
    simp only [Act.put, pw_dst1, List.setIfInBounds_toArray, List.set_cons_zero, List.set_cons_succ]
    refine seq_take (k := 2) (o := pwOp 2) (v := .bool false) pw_hi2 (want_none pw_g2) (run_not (b := true) (r := false) pw_op2 rfl rfl) ?_
    simp only [Act.put, pw_dst2, List.setIfInBounds_toArray, List.set_cons_zero, List.set_cons_succ]
    refine seq_take (k := 3) (o := pwOp 3) (v := .bool false) pw_hi3 (want_none pw_g3) (run_move pw_op3 rfl) ?_
    simp only [Act.put, pw_dst3, List.setIfInBounds_toArray, List.set_cons_zero, List.set_cons_succ]
    refine seq_skip (k := 4) (o := pwOp 4) pw_hi4 (want_not (c := false) pw_g4 pw_hi3 pw_dst3 (by rfl) rfl) ?_
    simp only [Act.put, pw_dst4, List.setIfInBounds_toArray, List.set_cons_zero, List.set_cons_succ]
    refine seq_skip (k := 5) (o := pwOp 5) pw_hi5 (want_not (c := false) pw_g5 pw_hi3 pw_dst3 (by rfl) rfl) ?_
    simp only [Act.put, pw_dst5, List.setIfInBounds_toArray, List.set_cons_zero, List.set_cons_succ]
    refine seq_skip (k := 6) (o := pwOp 6) pw_hi6 (want_not (c := false) pw_g6 pw_hi3 pw_dst3 (by rfl) rfl) ?_
    simp only [Act.put, pw_dst6, List.setIfInBounds_toArray, List.set_cons_zero, List.set_cons_succ]
    refine seq_skip (k := 7) (o := pwOp 7) pw_hi7 (want_not (c := false) pw_g7 pw_hi3 pw_dst3 (by rfl) rfl) ?_
    simp only [Act.put, pw_dst7, List.setIfInBounds_toArray, List.set_cons_zero, List.set_cons_succ]
    refine seq_skip (k := 8) (o := pwOp 8) pw_hi8 (want_undef pw_g8 pw_hi7 pw_dst7 (by rfl)) ?_
    simp only [Act.put, pw_dst8, List.setIfInBounds_toArray, List.set_cons_zero, List.set_cons_succ]
    refine seq_skip (k := 9) (o := pwOp 9) pw_hi9 (want_undef pw_g9 pw_hi7 pw_dst7 (by rfl)) ?_
    simp only [Act.put, pw_dst9, List.setIfInBounds_toArray, List.set_cons_zero, List.set_cons_succ]
    refine seq_skip (k := 10) (o := pwOp 10) pw_hi10 (want_undef pw_g10 pw_hi7 pw_dst7 (by rfl)) ?_
    simp only [Act.put, pw_dst10, List.setIfInBounds_toArray, List.set_cons_zero, List.set_cons_succ]
    refine seq_skip (k := 11) (o := pwOp 11) pw_hi11 (want_undef pw_g11 pw_hi7 pw_dst7 (by rfl)) ?_
    simp only [Act.put, pw_dst11, List.setIfInBounds_toArray, List.set_cons_zero, List.set_cons_succ]
    refine seq_skip (k := 12) (o := pwOp 12) pw_hi12 (want_not (c := false) pw_g12 pw_hi3 pw_dst3 (by rfl) rfl) ?_
    simp only [Act.put, pw_dst12, List.setIfInBounds_toArray, List.set_cons_zero, List.set_cons_succ]
    refine seq_skip (k := 13) (o := pwOp 13) pw_hi13 (want_not (c := false) pw_g13 pw_hi3 pw_dst3 (by rfl) rfl) ?_
    simp only [Act.put, pw_dst13, List.setIfInBounds_toArray, List.set_cons_zero, List.set_cons_succ]
    refine seq_skip (k := 14) (o := pwOp 14) pw_hi14 (want_undef pw_g14 pw_hi13 pw_dst13 (by rfl)) ?_
    simp only [Act.put, pw_dst14, List.setIfInBounds_toArray, List.set_cons_zero, List.set_cons_succ]
    refine seq_skip (k := 15) (o := pwOp 15) pw_hi15 (want_undef pw_g15 pw_hi13 pw_dst13 (by rfl)) ?_
    simp only [Act.put, pw_dst15, List.setIfInBounds_toArray, List.set_cons_zero, List.set_cons_succ]
    refine seq_skip (k := 16) (o := pwOp 16) pw_hi16 (want_undef pw_g16 pw_hi13 pw_dst13 (by rfl)) ?_
    simp only [Act.put, pw_dst16, List.setIfInBounds_toArray, List.set_cons_zero, List.set_cons_succ]
    refine seq_skip (k := 17) (o := pwOp 17) pw_hi17 (want_undef pw_g17 pw_hi13 pw_dst13 (by rfl)) ?_
    simp only [Act.put, pw_dst17, List.setIfInBounds_toArray, List.set_cons_zero, List.set_cons_succ]
    refine seq_skip (k := 18) (o := pwOp 18) pw_hi18 (want_not (c := false) pw_g18 pw_hi3 pw_dst3 (by rfl) rfl) ?_
    simp only [Act.put, pw_dst18, List.setIfInBounds_toArray, List.set_cons_zero, List.set_cons_succ]
    refine seq_take (k := 19) (o := pwOp 19) (v := .bool false) pw_hi19 (want_none pw_g19) (run_pickf pw_op19 rfl rfl) ?_
    simp only [Act.put, pw_dst19, List.setIfInBounds_toArray, List.set_cons_zero, List.set_cons_succ]
    exact hnext _ _ _ _ _ _ _ _ _ _ _ _ _ _ _ _ _ _ _ _ hS
set_option maxRecDepth 100000 in
set_option maxHeartbeats 2000000 in
theorem pw_d2 {Q : Exit → Act → World → Prop} {S : World → Prop} (u0 u2 u3 u5 u6 u7 u8 u9 u10 u11 u12 u13 u14 u15 u16 u17 u18 u19 u20 u21 u22 u23 u24 u25 : Value) (h hn : Nat) (b : Bool) (ha : Bool) (af : Array Value) (d28 : Bool) (hl_h_6 : ∀ w, S w → (loadVar 4 ⟨h, 6, none⟩).run Tryd.prog w = .ok (.bool ha) w) (hl_h_7 : ∀ w, S w → (loadVar 28 ⟨h, 7, none⟩).run Tryd.prog w = .ok (.agg af) w) (hd28 : ∀ w, (binOp .neq 28 (.agg af) (.agg #[.int .u32 0, .int .u32 0, .int .u32 0, .int .u32 0, .int .u32 0, .int .u64 0, .int .u64 0, .int .u64 0, .int .u32 0, .int .u32 0, .int .u32 0, .int .u32 0, .int .u32 0, .int .u32 0])).run Tryd.prog w = .ok (.bool d28) w) (he28 : ∀ w, (eqGuard .neq 28 (.tmp 33) (.tmp 34) (.agg af) (.agg #[.int .u32 0, .int .u32 0, .int .u32 0, .int .u32 0, .int .u32 0, .int .u64 0, .int .u64 0, .int .u64 0, .int .u32 0, .int .u32 0, .int .u32 0, .int .u32 0, .int .u32 0, .int .u32 0])).run Tryd.prog w = .ok () w)
    (w : World) (hS : S w)
    (hnext : ∀ (u27 u28 u29 u30 u31 u32 u33 u34 u35 u36 : Value) (w' : World), S w' → SeqAt Tryd.prog pwOps Q 31 ⟨#[u0, .pointer (some ⟨h, 0, none⟩), u2, u3, .pointer (some ⟨hn, 0, none⟩), u5, u6, u7, u8, u9, u10, u11, u12, u13, u14, u15, u16, u17, u18, u19, u20, u21, u22, u23, u24, u25, .bool b, u27, u28, u29, u30, u31, u32, u33, u34, u35, u36, .bool (b || (!ha && d28)), undef, undef, undef, undef, undef, undef, undef, undef, undef, undef, undef, undef, undef, undef, undef, undef, undef, undef, undef, undef, undef, undef, undef, undef, undef, undef, undef, undef, undef, undef, undef, undef, undef, undef, undef, undef, undef, undef, undef, undef, undef, undef, undef, undef, undef], []⟩ w') :
    SeqAt Tryd.prog pwOps Q 20 ⟨#[u0, .pointer (some ⟨h, 0, none⟩), u2, u3, .pointer (some ⟨hn, 0, none⟩), u5, u6, u7, u8, u9, u10, u11, u12, u13, u14, u15, u16, u17, u18, u19, u20, u21, u22, u23, u24, u25, .bool b, undef, undef, undef, undef, undef, undef, undef, undef, undef, undef, undef, undef, undef, undef, undef, undef, undef, undef, undef, undef, undef, undef, undef, undef, undef, undef, undef, undef, undef, undef, undef, undef, undef, undef, undef, undef, undef, undef, undef, undef, undef, undef, undef, undef, undef, undef, undef, undef, undef, undef, undef, undef, undef, undef, undef, undef], []⟩ w := by
  refine seq_take (k := 20) (o := pwOp 20) (v := .bool b) pw_hi20 (want_none pw_g20) (run_move pw_op20 rfl) ?_
  simp only [Act.put, pw_dst20, List.setIfInBounds_toArray, List.set_cons_zero, List.set_cons_succ]
  cases b with
  | false =>
    refine seq_take (k := 21) (o := pwOp 21) (v := .pointer (some ⟨h, 6, none⟩)) pw_hi21 (want_other (c := false) pw_g21 pw_hi20 pw_dst20 (by rfl) rfl) (pw_field4 pw_op21 rfl) ?_
    simp only [Act.put, pw_dst21, List.setIfInBounds_toArray, List.set_cons_zero, List.set_cons_succ]
    cases ha with
    | false =>
      refine seq_take (k := 22) (o := pwOp 22) (v := .bool false) pw_hi22 (want_other (c := false) pw_g22 pw_hi20 pw_dst20 (by rfl) rfl) (run_load pw_op22 rfl (hl_h_6 _ hS)) ?_
      simp only [Act.put, pw_dst22, List.setIfInBounds_toArray, List.set_cons_zero, List.set_cons_succ]
      refine seq_take (k := 23) (o := pwOp 23) (v := .bool true) pw_hi23 (want_other (c := false) pw_g23 pw_hi20 pw_dst20 (by rfl) rfl) (run_not (b := false) (r := true) pw_op23 rfl rfl) ?_
      simp only [Act.put, pw_dst23, List.setIfInBounds_toArray, List.set_cons_zero, List.set_cons_succ]
      refine seq_take (k := 24) (o := pwOp 24) (v := .bool true) pw_hi24 (want_other (c := false) pw_g24 pw_hi20 pw_dst20 (by rfl) rfl) (run_move pw_op24 rfl) ?_
      simp only [Act.put, pw_dst24, List.setIfInBounds_toArray, List.set_cons_zero, List.set_cons_succ]
      refine seq_take (k := 25) (o := pwOp 25) (v := .pointer (some ⟨h, 7, none⟩)) pw_hi25 (want_other (c := true) pw_g25 pw_hi24 pw_dst24 (by rfl) rfl) (pw_field5 pw_op25 rfl) ?_
      simp only [Act.put, pw_dst25, List.setIfInBounds_toArray, List.set_cons_zero, List.set_cons_succ]
      refine seq_take (k := 26) (o := pwOp 26) (v := .agg af) pw_hi26 (want_other (c := true) pw_g26 pw_hi24 pw_dst24 (by rfl) rfl) (run_load pw_op26 rfl (hl_h_7 _ hS)) ?_
      simp only [Act.put, pw_dst26, List.setIfInBounds_toArray, List.set_cons_zero, List.set_cons_succ]
      refine seq_take (k := 27) (o := pwOp 27) (v := .agg #[.int .u32 0, .int .u32 0, .int .u32 0, .int .u32 0, .int .u32 0, .int .u64 0, .int .u64 0, .int .u64 0, .int .u32 0, .int .u32 0, .int .u32 0, .int .u32 0, .int .u32 0, .int .u32 0]) pw_hi27 (want_other (c := true) pw_g27 pw_hi24 pw_dst24 (by rfl) rfl) (pw_builda pw_op27) ?_
      simp only [Act.put, pw_dst27, List.setIfInBounds_toArray, List.set_cons_zero, List.set_cons_succ]
      refine seq_take (k := 28) (o := pwOp 28) (v := .bool d28) pw_hi28 (want_other (c := true) pw_g28 pw_hi24 pw_dst24 (by rfl) rfl) (run_bin pw_op28 rfl rfl (he28 _) (hd28 _)) ?_
      simp only [Act.put, pw_dst28, List.setIfInBounds_toArray, List.set_cons_zero, List.set_cons_succ]
      refine seq_take (k := 29) (o := pwOp 29) (v := .bool d28) pw_hi29 (want_other (c := false) pw_g29 pw_hi20 pw_dst20 (by rfl) rfl) (run_pickt pw_op29 rfl rfl) ?_
      simp only [Act.put, pw_dst29, List.setIfInBounds_toArray, List.set_cons_zero, List.set_cons_succ]
      refine seq_take (k := 30) (o := pwOp 30) (v := .bool d28) pw_hi30 (want_none pw_g30) (run_pickf pw_op30 rfl rfl) ?_
      simp only [Act.put, pw_dst30, List.setIfInBounds_toArray, List.set_cons_zero, List.set_cons_succ]
      exact hnext _ _ _ _ _ _ _ _ _ _ _ hS
    | true =>
      refine seq_take (k := 22) (o := pwOp 22) (v := .bool true) pw_hi22 (want_other (c := false) pw_g22 pw_hi20 pw_dst20 (by rfl) rfl) (run_load pw_op22 rfl (hl_h_6 _ hS)) ?_
      simp only [Act.put, pw_dst22, List.setIfInBounds_toArray, List.set_cons_zero, List.set_cons_succ]
      refine seq_take (k := 23) (o := pwOp 23) (v := .bool false) pw_hi23 (want_other (c := false) pw_g23 pw_hi20 pw_dst20 (by rfl) rfl) (run_not (b := true) (r := false) pw_op23 rfl rfl) ?_
      simp only [Act.put, pw_dst23, List.setIfInBounds_toArray, List.set_cons_zero, List.set_cons_succ]
      refine seq_take (k := 24) (o := pwOp 24) (v := .bool false) pw_hi24 (want_other (c := false) pw_g24 pw_hi20 pw_dst20 (by rfl) rfl) (run_move pw_op24 rfl) ?_
      simp only [Act.put, pw_dst24, List.setIfInBounds_toArray, List.set_cons_zero, List.set_cons_succ]
      refine seq_skip (k := 25) (o := pwOp 25) pw_hi25 (want_not (c := false) pw_g25 pw_hi24 pw_dst24 (by rfl) rfl) ?_
      simp only [Act.put, pw_dst25, List.setIfInBounds_toArray, List.set_cons_zero, List.set_cons_succ]
      refine seq_skip (k := 26) (o := pwOp 26) pw_hi26 (want_not (c := false) pw_g26 pw_hi24 pw_dst24 (by rfl) rfl) ?_
      simp only [Act.put, pw_dst26, List.setIfInBounds_toArray, List.set_cons_zero, List.set_cons_succ]
      refine seq_skip (k := 27) (o := pwOp 27) pw_hi27 (want_not (c := false) pw_g27 pw_hi24 pw_dst24 (by rfl) rfl) ?_
      simp only [Act.put, pw_dst27, List.setIfInBounds_toArray, List.set_cons_zero, List.set_cons_succ]
      refine seq_skip (k := 28) (o := pwOp 28) pw_hi28 (want_not (c := false) pw_g28 pw_hi24 pw_dst24 (by rfl) rfl) ?_
      simp only [Act.put, pw_dst28, List.setIfInBounds_toArray, List.set_cons_zero, List.set_cons_succ]
      refine seq_take (k := 29) (o := pwOp 29) (v := .bool false) pw_hi29 (want_other (c := false) pw_g29 pw_hi20 pw_dst20 (by rfl) rfl) (run_pickf pw_op29 rfl rfl) ?_
      simp only [Act.put, pw_dst29, List.setIfInBounds_toArray, List.set_cons_zero, List.set_cons_succ]
      refine seq_take (k := 30) (o := pwOp 30) (v := .bool false) pw_hi30 (want_none pw_g30) (run_pickf pw_op30 rfl rfl) ?_
      simp only [Act.put, pw_dst30, List.setIfInBounds_toArray, List.set_cons_zero, List.set_cons_succ]
      exact hnext _ _ _ _ _ _ _ _ _ _ _ hS
  | true =>
    refine seq_skip (k := 21) (o := pwOp 21) pw_hi21 (want_not (c := true) pw_g21 pw_hi20 pw_dst20 (by rfl) rfl) ?_
    simp only [Act.put, pw_dst21, List.setIfInBounds_toArray, List.set_cons_zero, List.set_cons_succ]
    refine seq_skip (k := 22) (o := pwOp 22) pw_hi22 (want_not (c := true) pw_g22 pw_hi20 pw_dst20 (by rfl) rfl) ?_
    simp only [Act.put, pw_dst22, List.setIfInBounds_toArray, List.set_cons_zero, List.set_cons_succ]
    refine seq_skip (k := 23) (o := pwOp 23) pw_hi23 (want_not (c := true) pw_g23 pw_hi20 pw_dst20 (by rfl) rfl) ?_
    simp only [Act.put, pw_dst23, List.setIfInBounds_toArray, List.set_cons_zero, List.set_cons_succ]
    refine seq_skip (k := 24) (o := pwOp 24) pw_hi24 (want_not (c := true) pw_g24 pw_hi20 pw_dst20 (by rfl) rfl) ?_
    simp only [Act.put, pw_dst24, List.setIfInBounds_toArray, List.set_cons_zero, List.set_cons_succ]
    refine seq_skip (k := 25) (o := pwOp 25) pw_hi25 (want_undef pw_g25 pw_hi24 pw_dst24 (by rfl)) ?_
    simp only [Act.put, pw_dst25, List.setIfInBounds_toArray, List.set_cons_zero, List.set_cons_succ]
    refine seq_skip (k := 26) (o := pwOp 26) pw_hi26 (want_undef pw_g26 pw_hi24 pw_dst24 (by rfl)) ?_
    simp only [Act.put, pw_dst26, List.setIfInBounds_toArray, List.set_cons_zero, List.set_cons_succ]
    refine seq_skip (k := 27) (o := pwOp 27) pw_hi27 (want_undef pw_g27 pw_hi24 pw_dst24 (by rfl)) ?_
    simp only [Act.put, pw_dst27, List.setIfInBounds_toArray, List.set_cons_zero, List.set_cons_succ]
    refine seq_skip (k := 28) (o := pwOp 28) pw_hi28 (want_undef pw_g28 pw_hi24 pw_dst24 (by rfl)) ?_
    simp only [Act.put, pw_dst28, List.setIfInBounds_toArray, List.set_cons_zero, List.set_cons_succ]
    refine seq_skip (k := 29) (o := pwOp 29) pw_hi29 (want_not (c := true) pw_g29 pw_hi20 pw_dst20 (by rfl) rfl) ?_
    simp only [Act.put, pw_dst29, List.setIfInBounds_toArray, List.set_cons_zero, List.set_cons_succ]
    refine seq_take (k := 30) (o := pwOp 30) (v := .bool true) pw_hi30 (want_none pw_g30) (run_pickt pw_op30 rfl rfl) ?_
    simp only [Act.put, pw_dst30, List.setIfInBounds_toArray, List.set_cons_zero, List.set_cons_succ]
    exact hnext _ _ _ _ _ _ _ _ _ _ _ hS
set_option maxRecDepth 100000 in
set_option maxHeartbeats 2000000 in
theorem pw_d3 {Q : Exit → Act → World → Prop} {S : World → Prop} (u0 u2 u3 u5 u6 u7 u8 u9 u10 u11 u12 u13 u14 u15 u16 u17 u18 u19 u20 u21 u22 u23 u24 u25 u26 u27 u28 u29 u30 u31 u32 u33 u34 u35 u36 : Value) (h hn : Nat) (b : Bool) (ha : Bool) (af : Array Value) (c37 : Bool) (hl_h_6 : ∀ w, S w → (loadVar 4 ⟨h, 6, none⟩).run Tryd.prog w = .ok (.bool ha) w) (hl_h_7 : ∀ w, S w → (loadVar 28 ⟨h, 7, none⟩).run Tryd.prog w = .ok (.agg af) w) (hc37 : ∀ w, S w → Calls Tryd.prog 15 #[.agg af] w fun e w' => e = .returned (.bool c37) ∧ S w')
    (w : World) (hS : S w)
    (hnext : ∀ (u38 u39 u40 u41 u42 u43 u44 u45 u46 : Value) (w' : World), S w' → SeqAt Tryd.prog pwOps Q 41 ⟨#[u0, .pointer (some ⟨h, 0, none⟩), u2, u3, .pointer (some ⟨hn, 0, none⟩), u5, u6, u7, u8, u9, u10, u11, u12, u13, u14, u15, u16, u17, u18, u19, u20, u21, u22, u23, u24, u25, u26, u27, u28, u29, u30, u31, u32, u33, u34, u35, u36, .bool b, u38, u39, u40, u41, u42, u43, u44, u45, u46, .bool (b || (ha && !c37)), undef, undef, undef, undef, undef, undef, undef, undef, undef, undef, undef, undef, undef, undef, undef, undef, undef, undef, undef, undef, undef, undef, undef, undef, undef, undef, undef, undef, undef, undef, undef, undef, undef, undef, undef], []⟩ w') :
    SeqAt Tryd.prog pwOps Q 31 ⟨#[u0, .pointer (some ⟨h, 0, none⟩), u2, u3, .pointer (some ⟨hn, 0, none⟩), u5, u6, u7, u8, u9, u10, u11, u12, u13, u14, u15, u16, u17, u18, u19, u20, u21, u22, u23, u24, u25, u26, u27, u28, u29, u30, u31, u32, u33, u34, u35, u36, .bool b, undef, undef, undef, undef, undef, undef, undef, undef, undef, undef, undef, undef, undef, undef, undef, undef, undef, undef, undef, undef, undef, undef, undef, undef, undef, undef, undef, undef, undef, undef, undef, undef, undef, undef, undef, undef, undef, undef, undef, undef, undef, undef, undef, undef, undef], []⟩ w := by
  refine seq_take (k := 31) (o := pwOp 31) (v := .bool b) pw_hi31 (want_none pw_g31) (run_move pw_op31 rfl) ?_
  simp only [Act.put, pw_dst31, List.setIfInBounds_toArray, List.set_cons_zero, List.set_cons_succ]
  cases b with
  | false =>
    refine seq_take (k := 32) (o := pwOp 32) (v := .pointer (some ⟨h, 6, none⟩)) pw_hi32 (want_other (c := false) pw_g32 pw_hi31 pw_dst31 (by rfl) rfl) (pw_field4 pw_op32 rfl) ?_
    simp only [Act.put, pw_dst32, List.setIfInBounds_toArray, List.set_cons_zero, List.set_cons_succ]
    cases ha with
    | false =>
      refine seq_take (k := 33) (o := pwOp 33) (v := .bool false) pw_hi33 (want_other (c := false) pw_g33 pw_hi31 pw_dst31 (by rfl) rfl) (run_load pw_op33 rfl (hl_h_6 _ hS)) ?_
      simp only [Act.put, pw_dst33, List.setIfInBounds_toArray, List.set_cons_zero, List.set_cons_succ]
      refine seq_take (k := 34) (o := pwOp 34) (v := .bool false) pw_hi34 (want_other (c := false) pw_g34 pw_hi31 pw_dst31 (by rfl) rfl) (run_move pw_op34 rfl) ?_
      simp only [Act.put, pw_dst34, List.setIfInBounds_toArray, List.set_cons_zero, List.set_cons_succ]
      refine seq_skip (k := 35) (o := pwOp 35) pw_hi35 (want_not (c := false) pw_g35 pw_hi34 pw_dst34 (by rfl) rfl) ?_
      simp only [Act.put, pw_dst35, List.setIfInBounds_toArray, List.set_cons_zero, List.set_cons_succ]
      refine seq_skip (k := 36) (o := pwOp 36) pw_hi36 (want_not (c := false) pw_g36 pw_hi34 pw_dst34 (by rfl) rfl) ?_
      simp only [Act.put, pw_dst36, List.setIfInBounds_toArray, List.set_cons_zero, List.set_cons_succ]
      refine seq_skip (k := 37) (o := pwOp 37) pw_hi37 (want_not (c := false) pw_g37 pw_hi34 pw_dst34 (by rfl) rfl) ?_
      simp only [Act.put, pw_dst37, List.setIfInBounds_toArray, List.set_cons_zero, List.set_cons_succ]
      refine seq_skip (k := 38) (o := pwOp 38) pw_hi38 (want_not (c := false) pw_g38 pw_hi34 pw_dst34 (by rfl) rfl) ?_
      simp only [Act.put, pw_dst38, List.setIfInBounds_toArray, List.set_cons_zero, List.set_cons_succ]
      refine seq_take (k := 39) (o := pwOp 39) (v := .bool false) pw_hi39 (want_other (c := false) pw_g39 pw_hi31 pw_dst31 (by rfl) rfl) (run_pickf pw_op39 rfl rfl) ?_
      simp only [Act.put, pw_dst39, List.setIfInBounds_toArray, List.set_cons_zero, List.set_cons_succ]
      refine seq_take (k := 40) (o := pwOp 40) (v := .bool false) pw_hi40 (want_none pw_g40) (run_pickf pw_op40 rfl rfl) ?_
      simp only [Act.put, pw_dst40, List.setIfInBounds_toArray, List.set_cons_zero, List.set_cons_succ]
      exact hnext _ _ _ _ _ _ _ _ _ _ hS
    | true =>
      refine seq_take (k := 33) (o := pwOp 33) (v := .bool true) pw_hi33 (want_other (c := false) pw_g33 pw_hi31 pw_dst31 (by rfl) rfl) (run_load pw_op33 rfl (hl_h_6 _ hS)) ?_
      simp only [Act.put, pw_dst33, List.setIfInBounds_toArray, List.set_cons_zero, List.set_cons_succ]
      refine seq_take (k := 34) (o := pwOp 34) (v := .bool true) pw_hi34 (want_other (c := false) pw_g34 pw_hi31 pw_dst31 (by rfl) rfl) (run_move pw_op34 rfl) ?_
      simp only [Act.put, pw_dst34, List.setIfInBounds_toArray, List.set_cons_zero, List.set_cons_succ]
      refine seq_take (k := 35) (o := pwOp 35) (v := .pointer (some ⟨h, 7, none⟩)) pw_hi35 (want_other (c := true) pw_g35 pw_hi34 pw_dst34 (by rfl) rfl) (pw_field5 pw_op35 rfl) ?_
      simp only [Act.put, pw_dst35, List.setIfInBounds_toArray, List.set_cons_zero, List.set_cons_succ]
      refine seq_take (k := 36) (o := pwOp 36) (v := .agg af) pw_hi36 (want_other (c := true) pw_g36 pw_hi34 pw_dst34 (by rfl) rfl) (run_load pw_op36 rfl (hl_h_7 _ hS)) ?_
      simp only [Act.put, pw_dst36, List.setIfInBounds_toArray, List.set_cons_zero, List.set_cons_succ]
      refine seq_enter (k := 37) (o := pwOp 37) pw_hi37 (want_other (c := true) pw_g37 pw_hi34 pw_dst34 (by rfl) rfl) (run_enter1 pw_op37 rfl pw_enter_may) (hc37 _ hS) ?_
      clear hS
      intro w1 hS
      simp only [Act.put, pw_dst37, List.setIfInBounds_toArray, List.set_cons_zero, List.set_cons_succ]
      refine seq_take (k := 38) (o := pwOp 38) (v := .bool (!c37)) pw_hi38 (want_other (c := true) pw_g38 pw_hi34 pw_dst34 (by rfl) rfl) (run_not (b := c37) (r := (!c37)) pw_op38 rfl rfl) ?_
      simp only [Act.put, pw_dst38, List.setIfInBounds_toArray, List.set_cons_zero, List.set_cons_succ]
      refine seq_take (k := 39) (o := pwOp 39) (v := .bool (!c37)) pw_hi39 (want_other (c := false) pw_g39 pw_hi31 pw_dst31 (by rfl) rfl) (run_pickt pw_op39 rfl rfl) ?_
      simp only [Act.put, pw_dst39, List.setIfInBounds_toArray, List.set_cons_zero, List.set_cons_succ]
      refine seq_take (k := 40) (o := pwOp 40) (v := .bool (!c37)) pw_hi40 (want_none pw_g40) (run_pickf pw_op40 rfl rfl) ?_
      simp only [Act.put, pw_dst40, List.setIfInBounds_toArray, List.set_cons_zero, List.set_cons_succ]
      exact hnext _ _ _ _ _ _ _ _ _ _ hS
  | true =>
    refine seq_skip (k := 32) (o := pwOp 32) pw_hi32 (want_not (c := true) pw_g32 pw_hi31 pw_dst31 (by rfl) rfl) ?_
    simp only [Act.put, pw_dst32, List.setIfInBounds_toArray, List.set_cons_zero, List.set_cons_succ]
    refine seq_skip (k := 33) (o := pwOp 33) pw_hi33 (want_not (c := true) pw_g33 pw_hi31 pw_dst31 (by rfl) rfl) ?_
    simp only [Act.put, pw_dst33, List.setIfInBounds_toArray, List.set_cons_zero, List.set_cons_succ]
    refine seq_skip (k := 34) (o := pwOp 34) pw_hi34 (want_not (c := true) pw_g34 pw_hi31 pw_dst31 (by rfl) rfl) ?_
    simp only [Act.put, pw_dst34, List.setIfInBounds_toArray, List.set_cons_zero, List.set_cons_succ]
    refine seq_skip (k := 35) (o := pwOp 35) pw_hi35 (want_undef pw_g35 pw_hi34 pw_dst34 (by rfl)) ?_
    simp only [Act.put, pw_dst35, List.setIfInBounds_toArray, List.set_cons_zero, List.set_cons_succ]
    refine seq_skip (k := 36) (o := pwOp 36) pw_hi36 (want_undef pw_g36 pw_hi34 pw_dst34 (by rfl)) ?_
    simp only [Act.put, pw_dst36, List.setIfInBounds_toArray, List.set_cons_zero, List.set_cons_succ]
    refine seq_skip (k := 37) (o := pwOp 37) pw_hi37 (want_undef pw_g37 pw_hi34 pw_dst34 (by rfl)) ?_
    simp only [Act.put, pw_dst37, List.setIfInBounds_toArray, List.set_cons_zero, List.set_cons_succ]
    refine seq_skip (k := 38) (o := pwOp 38) pw_hi38 (want_undef pw_g38 pw_hi34 pw_dst34 (by rfl)) ?_
    simp only [Act.put, pw_dst38, List.setIfInBounds_toArray, List.set_cons_zero, List.set_cons_succ]
    refine seq_skip (k := 39) (o := pwOp 39) pw_hi39 (want_not (c := true) pw_g39 pw_hi31 pw_dst31 (by rfl) rfl) ?_
    simp only [Act.put, pw_dst39, List.setIfInBounds_toArray, List.set_cons_zero, List.set_cons_succ]
    refine seq_take (k := 40) (o := pwOp 40) (v := .bool true) pw_hi40 (want_none pw_g40) (run_pickt pw_op40 rfl rfl) ?_
    simp only [Act.put, pw_dst40, List.setIfInBounds_toArray, List.set_cons_zero, List.set_cons_succ]
    exact hnext _ _ _ _ _ _ _ _ _ _ hS
set_option maxRecDepth 100000 in
set_option maxHeartbeats 2000000 in
theorem pw_d4 {Q : Exit → Act → World → Prop} {S : World → Prop} (u0 u2 u3 u5 u6 u7 u8 u9 u10 u11 u12 u13 u14 u15 u16 u17 u18 u19 u20 u21 u22 u23 u24 u25 u26 u27 u28 u29 u30 u31 u32 u33 u34 u35 u36 u37 u38 u39 u40 u41 u42 u43 u44 u45 u46 : Value) (h hn : Nat) (b : Bool) (ws : Int) (wn : Int) (c44 : Bool) (hl_h_2 : ∀ w, S w → (loadVar 26 ⟨h, 2, none⟩).run Tryd.prog w = .ok (.agg #[.int .u32 ws, .int .u32 wn]) w) (hc44 : ∀ w, S w → Calls Tryd.prog 26 #[.agg #[.int .u32 ws, .int .u32 wn]] w fun e w' => e = .returned (.bool c44) ∧ S w')
    (w : World) (hS : S w)
    (hnext : ∀ (u48 u49 u50 u51 u52 : Value) (w' : World), S w' → SeqAt Tryd.prog pwOps Q 47 ⟨#[u0, .pointer (some ⟨h, 0, none⟩), u2, u3, .pointer (some ⟨hn, 0, none⟩), u5, u6, u7, u8, u9, u10, u11, u12, u13, u14, u15, u16, u17, u18, u19, u20, u21, u22, u23, u24, u25, u26, u27, u28, u29, u30, u31, u32, u33, u34, u35, u36, u37, u38, u39, u40, u41, u42, u43, u44, u45, u46, .bool b, u48, u49, u50, u51, u52, .bool (b || !c44), undef, undef, undef, undef, undef, undef, undef, undef, undef, undef, undef, undef, undef, undef, undef, undef, undef, undef, undef, undef, undef, undef, undef, undef, undef, undef, undef, undef, undef], []⟩ w') :
    SeqAt Tryd.prog pwOps Q 41 ⟨#[u0, .pointer (some ⟨h, 0, none⟩), u2, u3, .pointer (some ⟨hn, 0, none⟩), u5, u6, u7, u8, u9, u10, u11, u12, u13, u14, u15, u16, u17, u18, u19, u20, u21, u22, u23, u24, u25, u26, u27, u28, u29, u30, u31, u32, u33, u34, u35, u36, u37, u38, u39, u40, u41, u42, u43, u44, u45, u46, .bool b, undef, undef, undef, undef, undef, undef, undef, undef, undef, undef, undef, undef, undef, undef, undef, undef, undef, undef, undef, undef, undef, undef, undef, undef, undef, undef, undef, undef, undef, undef, undef, undef, undef, undef, undef], []⟩ w := by
  refine seq_take (k := 41) (o := pwOp 41) (v := .bool b) pw_hi41 (want_none pw_g41) (run_move pw_op41 rfl) ?_
  simp only [Act.put, pw_dst41, List.setIfInBounds_toArray, List.set_cons_zero, List.set_cons_succ]
  cases b with
  | false =>
    refine seq_take (k := 42) (o := pwOp 42) (v := .pointer (some ⟨h, 2, none⟩)) pw_hi42 (want_other (c := false) pw_g42 pw_hi41 pw_dst41 (by rfl) rfl) (pw_field2 pw_op42 rfl) ?_
    simp only [Act.put, pw_dst42, List.setIfInBounds_toArray, List.set_cons_zero, List.set_cons_succ]
    refine seq_take (k := 43) (o := pwOp 43) (v := .agg #[.int .u32 ws, .int .u32 wn]) pw_hi43 (want_other (c := false) pw_g43 pw_hi41 pw_dst41 (by rfl) rfl) (run_load pw_op43 rfl (hl_h_2 _ hS)) ?_
    simp only [Act.put, pw_dst43, List.setIfInBounds_toArray, List.set_cons_zero, List.set_cons_succ]
    refine seq_enter (k := 44) (o := pwOp 44) pw_hi44 (want_other (c := false) pw_g44 pw_hi41 pw_dst41 (by rfl) rfl) (run_enter1 pw_op44 rfl pw_enter_check) (hc44 _ hS) ?_
    clear hS
    intro w1 hS
    simp only [Act.put, pw_dst44, List.setIfInBounds_toArray, List.set_cons_zero, List.set_cons_succ]
    refine seq_take (k := 45) (o := pwOp 45) (v := .bool (!c44)) pw_hi45 (want_other (c := false) pw_g45 pw_hi41 pw_dst41 (by rfl) rfl) (run_not (b := c44) (r := (!c44)) pw_op45 rfl rfl) ?_
    simp only [Act.put, pw_dst45, List.setIfInBounds_toArray, List.set_cons_zero, List.set_cons_succ]
    refine seq_take (k := 46) (o := pwOp 46) (v := .bool (!c44)) pw_hi46 (want_none pw_g46) (run_pickf pw_op46 rfl rfl) ?_
    simp only [Act.put, pw_dst46, List.setIfInBounds_toArray, List.set_cons_zero, List.set_cons_succ]
    exact hnext _ _ _ _ _ _ hS
  | true =>
    refine seq_skip (k := 42) (o := pwOp 42) pw_hi42 (want_not (c := true) pw_g42 pw_hi41 pw_dst41 (by rfl) rfl) ?_
    simp only [Act.put, pw_dst42, List.setIfInBounds_toArray, List.set_cons_zero, List.set_cons_succ]
    refine seq_skip (k := 43) (o := pwOp 43) pw_hi43 (want_not (c := true) pw_g43 pw_hi41 pw_dst41 (by rfl) rfl) ?_
    simp only [Act.put, pw_dst43, List.setIfInBounds_toArray, List.set_cons_zero, List.set_cons_succ]
    refine seq_skip (k := 44) (o := pwOp 44) pw_hi44 (want_not (c := true) pw_g44 pw_hi41 pw_dst41 (by rfl) rfl) ?_
    simp only [Act.put, pw_dst44, List.setIfInBounds_toArray, List.set_cons_zero, List.set_cons_succ]
    refine seq_skip (k := 45) (o := pwOp 45) pw_hi45 (want_not (c := true) pw_g45 pw_hi41 pw_dst41 (by rfl) rfl) ?_
    simp only [Act.put, pw_dst45, List.setIfInBounds_toArray, List.set_cons_zero, List.set_cons_succ]
    refine seq_take (k := 46) (o := pwOp 46) (v := .bool true) pw_hi46 (want_none pw_g46) (run_pickt pw_op46 rfl rfl) ?_
    simp only [Act.put, pw_dst46, List.setIfInBounds_toArray, List.set_cons_zero, List.set_cons_succ]
    exact hnext _ _ _ _ _ _ hS
set_option maxRecDepth 100000 in
set_option maxHeartbeats 2000000 in
theorem pw_d5 {Q : Exit → Act → World → Prop} {S : World → Prop} (u0 u2 u3 u5 u6 u7 u8 u9 u10 u11 u12 u13 u14 u15 u16 u17 u18 u19 u20 u21 u22 u23 u24 u25 u26 u27 u28 u29 u30 u31 u32 u33 u34 u35 u36 u37 u38 u39 u40 u41 u42 u43 u44 u45 u46 u47 u48 u49 u50 u51 u52 : Value) (h hn : Nat) (b : Bool) (ts : Int) (tn : Int) (c50 : Bool) (hl_h_4 : ∀ w, S w → (loadVar 26 ⟨h, 4, none⟩).run Tryd.prog w = .ok (.agg #[.int .u32 ts, .int .u32 tn]) w) (hc50 : ∀ w, S w → Calls Tryd.prog 26 #[.agg #[.int .u32 ts, .int .u32 tn]] w fun e w' => e = .returned (.bool c50) ∧ S w')
    (w : World) (hS : S w)
    (hnext : ∀ (u54 u55 u56 u57 u58 : Value) (w' : World), S w' → SeqAt Tryd.prog pwOps Q 53 ⟨#[u0, .pointer (some ⟨h, 0, none⟩), u2, u3, .pointer (some ⟨hn, 0, none⟩), u5, u6, u7, u8, u9, u10, u11, u12, u13, u14, u15, u16, u17, u18, u19, u20, u21, u22, u23, u24, u25, u26, u27, u28, u29, u30, u31, u32, u33, u34, u35, u36, u37, u38, u39, u40, u41, u42, u43, u44, u45, u46, u47, u48, u49, u50, u51, u52, .bool b, u54, u55, u56, u57, u58, .bool (b || !c50), undef, undef, undef, undef, undef, undef, undef, undef, undef, undef, undef, undef, undef, undef, undef, undef, undef, undef, undef, undef, undef, undef, undef], []⟩ w') :
    SeqAt Tryd.prog pwOps Q 47 ⟨#[u0, .pointer (some ⟨h, 0, none⟩), u2, u3, .pointer (some ⟨hn, 0, none⟩), u5, u6, u7, u8, u9, u10, u11, u12, u13, u14, u15, u16, u17, u18, u19, u20, u21, u22, u23, u24, u25, u26, u27, u28, u29, u30, u31, u32, u33, u34, u35, u36, u37, u38, u39, u40, u41, u42, u43, u44, u45, u46, u47, u48, u49, u50, u51, u52, .bool b, undef, undef, undef, undef, undef, undef, undef, undef, undef, undef, undef, undef, undef, undef, undef, undef, undef, undef, undef, undef, undef, undef, undef, undef, undef, undef, undef, undef, undef], []⟩ w := by
  refine seq_take (k := 47) (o := pwOp 47) (v := .bool b) pw_hi47 (want_none pw_g47) (run_move pw_op47 rfl) ?_
  simp only [Act.put, pw_dst47, List.setIfInBounds_toArray, List.set_cons_zero, List.set_cons_succ]
  cases b with
  | false =>
    refine seq_take (k := 48) (o := pwOp 48) (v := .pointer (some ⟨h, 4, none⟩)) pw_hi48 (want_other (c := false) pw_g48 pw_hi47 pw_dst47 (by rfl) rfl) (pw_field3 pw_op48 rfl) ?_
    simp only [Act.put, pw_dst48, List.setIfInBounds_toArray, List.set_cons_zero, List.set_cons_succ]
    refine seq_take (k := 49) (o := pwOp 49) (v := .agg #[.int .u32 ts, .int .u32 tn]) pw_hi49 (want_other (c := false) pw_g49 pw_hi47 pw_dst47 (by rfl) rfl) (run_load pw_op49 rfl (hl_h_4 _ hS)) ?_
    simp only [Act.put, pw_dst49, List.setIfInBounds_toArray, List.set_cons_zero, List.set_cons_succ]
    refine seq_enter (k := 50) (o := pwOp 50) pw_hi50 (want_other (c := false) pw_g50 pw_hi47 pw_dst47 (by rfl) rfl) (run_enter1 pw_op50 rfl pw_enter_check) (hc50 _ hS) ?_
    clear hS
    intro w1 hS
    simp only [Act.put, pw_dst50, List.setIfInBounds_toArray, List.set_cons_zero, List.set_cons_succ]
    refine seq_take (k := 51) (o := pwOp 51) (v := .bool (!c50)) pw_hi51 (want_other (c := false) pw_g51 pw_hi47 pw_dst47 (by rfl) rfl) (run_not (b := c50) (r := (!c50)) pw_op51 rfl rfl) ?_
    simp only [Act.put, pw_dst51, List.setIfInBounds_toArray, List.set_cons_zero, List.set_cons_succ]
    refine seq_take (k := 52) (o := pwOp 52) (v := .bool (!c50)) pw_hi52 (want_none pw_g52) (run_pickf pw_op52 rfl rfl) ?_
    simp only [Act.put, pw_dst52, List.setIfInBounds_toArray, List.set_cons_zero, List.set_cons_succ]
    exact hnext _ _ _ _ _ _ hS
  | true =>
    refine seq_skip (k := 48) (o := pwOp 48) pw_hi48 (want_not (c := true) pw_g48 pw_hi47 pw_dst47 (by rfl) rfl) ?_
    simp only [Act.put, pw_dst48, List.setIfInBounds_toArray, List.set_cons_zero, List.set_cons_succ]
    refine seq_skip (k := 49) (o := pwOp 49) pw_hi49 (want_not (c := true) pw_g49 pw_hi47 pw_dst47 (by rfl) rfl) ?_
    simp only [Act.put, pw_dst49, List.setIfInBounds_toArray, List.set_cons_zero, List.set_cons_succ]
    refine seq_skip (k := 50) (o := pwOp 50) pw_hi50 (want_not (c := true) pw_g50 pw_hi47 pw_dst47 (by rfl) rfl) ?_
    simp only [Act.put, pw_dst50, List.setIfInBounds_toArray, List.set_cons_zero, List.set_cons_succ]
    refine seq_skip (k := 51) (o := pwOp 51) pw_hi51 (want_not (c := true) pw_g51 pw_hi47 pw_dst47 (by rfl) rfl) ?_
    simp only [Act.put, pw_dst51, List.setIfInBounds_toArray, List.set_cons_zero, List.set_cons_succ]
    refine seq_take (k := 52) (o := pwOp 52) (v := .bool true) pw_hi52 (want_none pw_g52) (run_pickt pw_op52 rfl rfl) ?_
    simp only [Act.put, pw_dst52, List.setIfInBounds_toArray, List.set_cons_zero, List.set_cons_succ]
    exact hnext _ _ _ _ _ _ hS
end Go.Proofs.YtecbhhfncklefaaDoor
