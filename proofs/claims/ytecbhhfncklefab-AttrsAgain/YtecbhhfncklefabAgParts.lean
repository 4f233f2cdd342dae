/- The last row of 'AttrsAgain': its three parts, each in two ways (what was got is put again; nothing was got); nothing is claimed of the program here. -/
import Derived.Test.YtecbhhfncklefabAgOps
namespace Go.Proofs.Ytecbhhfncklefab
set_option linter.unusedVariables false
open Go.RowKit

set_option maxRecDepth 100000 in
set_option maxHeartbeats 4000000 in
theorem agp1 {Q : Exit → Act → World → Prop} {S : World → Prop} (u1 u2 u6 u7 u8 u9 u10 u11 u14 u15 u16 u17 u18 u19 u20 u21 u22 u23 u24 u25 u26 u27 u28 u29 u30 u31 u32 u33 u34 u35 u36 u37 u38 u39 u40 u41 u42 u43 u44 u45 u46 u47 u48 u49 u50 u51 u52 u53 u54 u55 u56 u57 u58 u59 u60 u61 u62 u63 u64 u65 u66 u67 u68 u69 u70 u71 u72 u73 u74 u75 u76 u77 u78 u79 u80 u81 u82 u83 u84 u85 u86 u87 : Value) (E N H : Int) (h1 : Nat) (A : Array Value) (a : Option Addr) (len cap : Nat) (X Y : Value) (w : World) (hS : S w)
    (hrow : ∀ w, S w → w.heap[h1]? = some (.cells A 28)) (hinf : (Try.prog.info? 28).map (·.size) = some A.size)
    (hcase : (E = 0 ∧ H = 0 ∧ (∀ w, (Instr.sliceAt 29 (.slice a len cap) none (some (.int .i64 N)) none).run Try.prog w = .ok Y w) ∧ (∀ w, S w → Calls Try.prog 17 #[X, Y] w fun e w' => e = .returned (.bool true) ∧ S w')) ∨
      (E ≠ 0 ∧ N = 0 ∧ A = #[.int .u32 0, .int .u32 0, .int .u32 0, .int .u32 0, .int .u32 0, .int .u64 0, .int .u64 0, .int .u64 0, .int .u32 0, .int .u32 0, .int .u32 0, .int .u32 0, .int .u32 0, .int .u32 0]))
    (heq : ∀ w, (binOp .eql 28 (.agg #[.int .u32 0, .int .u32 0, .int .u32 0, .int .u32 0, .int .u32 0, .int .u64 0, .int .u64 0, .int .u64 0, .int .u32 0, .int .u32 0, .int .u32 0, .int .u32 0, .int .u32 0, .int .u32 0]) (.agg #[.int .u32 0, .int .u32 0, .int .u32 0, .int .u32 0, .int .u32 0, .int .u64 0, .int .u64 0, .int .u64 0, .int .u32 0, .int .u32 0, .int .u32 0, .int .u32 0, .int .u32 0, .int .u32 0])).run Try.prog w = .ok (.bool true) w)
    (hnext : ∀ (u88 u89 u90 u91 u92 u93 u94 u95 u96 u97 u98 u99 u100 u101 u102 u103 u104 u105 u106 u107 u108 u109 u110 u111 u112 : Value) (w' : World), S w' → SeqAt Try.prog agOps Q 26 ⟨#[.slice a len cap, u1, u2, .pointer (some ⟨h1, 0, none⟩), .int .i64 N, .int .i64 E, u6, u7, u8, u9, u10, u11, X, .int .i64 H, u14, u15, u16, u17, u18, u19, u20, u21, u22, u23, u24, u25, u26, u27, u28, u29, u30, u31, u32, u33, u34, u35, u36, u37, u38, u39, u40, u41, u42, u43, u44, u45, u46, u47, u48, u49, u50, u51, u52, u53, u54, u55, u56, u57, u58, u59, u60, u61, u62, u63, u64, u65, u66, u67, u68, u69, u70, u71, u72, u73, u74, u75, u76, u77, u78, u79, u80, u81, u82, u83, u84, u85, u86, u87, u88, u89, u90, u91, u92, u93, u94, u95, u96, u97, u98, u99, u100, u101, u102, u103, u104, u105, u106, u107, u108, u109, u110, u111, u112, .bool true, undef, undef, undef, undef, undef, undef, undef, undef, undef, undef, undef, undef, undef, undef, undef, undef, undef, undef, undef, undef, undef, undef, undef, undef, undef, undef, undef, undef, undef, undef, undef, undef, undef, undef, undef, undef, undef, undef, undef, undef, undef, undef, undef, undef, undef, undef, undef, undef, undef, undef, undef, undef, undef, undef, undef, undef], []⟩ w') :
    SeqAt Try.prog agOps Q 0 ⟨#[.slice a len cap, u1, u2, .pointer (some ⟨h1, 0, none⟩), .int .i64 N, .int .i64 E, u6, u7, u8, u9, u10, u11, X, .int .i64 H, u14, u15, u16, u17, u18, u19, u20, u21, u22, u23, u24, u25, u26, u27, u28, u29, u30, u31, u32, u33, u34, u35, u36, u37, u38, u39, u40, u41, u42, u43, u44, u45, u46, u47, u48, u49, u50, u51, u52, u53, u54, u55, u56, u57, u58, u59, u60, u61, u62, u63, u64, u65, u66, u67, u68, u69, u70, u71, u72, u73, u74, u75, u76, u77, u78, u79, u80, u81, u82, u83, u84, u85, u86, u87, undef, undef, undef, undef, undef, undef, undef, undef, undef, undef, undef, undef, undef, undef, undef, undef, undef, undef, undef, undef, undef, undef, undef, undef, undef, undef, undef, undef, undef, undef, undef, undef, undef, undef, undef, undef, undef, undef, undef, undef, undef, undef, undef, undef, undef, undef, undef, undef, undef, undef, undef, undef, undef, undef, undef, undef, undef, undef, undef, undef, undef, undef, undef, undef, undef, undef, undef, undef, undef, undef, undef, undef, undef, undef, undef, undef, undef, undef, undef, undef, undef, undef], []⟩ w := by
  rcases hcase with ⟨rfl, rfl, hcut, hsame⟩ | ⟨hE, rfl, rfl⟩
  · refine seq_take (k := 0) (o := agOp 0) (v := .int .i64 0) ag_hi0 (want_none ag_g0) (run_move ag_op0 rfl) ?_
    simp only [Act.put, ag_dst0, List.setIfInBounds_toArray, List.set_cons_zero, List.set_cons_succ]
    refine seq_take (k := 1) (o := agOp 1) (v := .bool true) ag_hi1 (want_none ag_g1) (run_bin ag_op1 rfl rfl (eqg_int _ _ _ _ _ _ _) (eq_err _ _)) ?_
    simp only [Act.put, ag_dst1, List.setIfInBounds_toArray, List.set_cons_zero, List.set_cons_succ]
    refine seq_take (k := 2) (o := agOp 2) (v := .bool true) ag_hi2 (want_none ag_g2) (run_move ag_op2 rfl) ?_
    simp only [Act.put, ag_dst2, List.setIfInBounds_toArray, List.set_cons_zero, List.set_cons_succ]
    refine seq_take (k := 3) (o := agOp 3) (v := .int .i64 0) ag_hi3 (want_other (c := true) ag_g3 ag_hi2 ag_dst2 (by rfl) rfl) (run_move ag_op3 rfl) ?_
    simp only [Act.put, ag_dst3, List.setIfInBounds_toArray, List.set_cons_zero, List.set_cons_succ]
    refine seq_take (k := 4) (o := agOp 4) (v := .bool true) ag_hi4 (want_other (c := true) ag_g4 ag_hi2 ag_dst2 (by rfl) rfl) (run_bin ag_op4 rfl rfl (eqg_int _ _ _ _ _ _ _) (eq_err _ _)) ?_
    simp only [Act.put, ag_dst4, List.setIfInBounds_toArray, List.set_cons_zero, List.set_cons_succ]
    refine seq_take (k := 5) (o := agOp 5) (v := .bool true) ag_hi5 (want_none ag_g5) (run_pickt ag_op5 rfl rfl) ?_
    simp only [Act.put, ag_dst5, List.setIfInBounds_toArray, List.set_cons_zero, List.set_cons_succ]
    refine seq_take (k := 6) (o := agOp 6) (v := .bool true) ag_hi6 (want_none ag_g6) (run_move ag_op6 rfl) ?_
    simp only [Act.put, ag_dst6, List.setIfInBounds_toArray, List.set_cons_zero, List.set_cons_succ]
    refine seq_take (k := 7) (o := agOp 7) (v := X) ag_hi7 (want_other (c := true) ag_g7 ag_hi6 ag_dst6 (by rfl) rfl) (run_move ag_op7 rfl) ?_
    simp only [Act.put, ag_dst7, List.setIfInBounds_toArray, List.set_cons_zero, List.set_cons_succ]
    refine seq_take (k := 8) (o := agOp 8) (v := .slice a len cap) ag_hi8 (want_other (c := true) ag_g8 ag_hi6 ag_dst6 (by rfl) rfl) (run_move ag_op8 rfl) ?_
    simp only [Act.put, ag_dst8, List.setIfInBounds_toArray, List.set_cons_zero, List.set_cons_succ]
    refine seq_take (k := 9) (o := agOp 9) (v := .int .i64 N) ag_hi9 (want_other (c := true) ag_g9 ag_hi6 ag_dst6 (by rfl) rfl) (run_move ag_op9 rfl) ?_
    simp only [Act.put, ag_dst9, List.setIfInBounds_toArray, List.set_cons_zero, List.set_cons_succ]
    refine seq_take (k := 10) (o := agOp 10) (v := Y) ag_hi10 (want_other (c := true) ag_g10 ag_hi6 ag_dst6 (by rfl) rfl) (run_cutn ag_op10 rfl rfl (hcut _)) ?_
    simp only [Act.put, ag_dst10, List.setIfInBounds_toArray, List.set_cons_zero, List.set_cons_succ]
    refine seq_enter (k := 11) (o := agOp 11) ag_hi11 (want_other (c := true) ag_g11 ag_hi6 ag_dst6 (by rfl) rfl) (run_enter2 ag_op11 rfl rfl enter_same) (hsame _ hS) ?_
    clear hS
    intro w1 hS
    simp only [Act.put, ag_dst11, List.setIfInBounds_toArray, List.set_cons_zero, List.set_cons_succ]
    refine seq_take (k := 12) (o := agOp 12) (v := .bool true) ag_hi12 (want_none ag_g12) (run_pickt ag_op12 rfl rfl) ?_
    simp only [Act.put, ag_dst12, List.setIfInBounds_toArray, List.set_cons_zero, List.set_cons_succ]
    refine seq_take (k := 13) (o := agOp 13) (v := .bool true) ag_hi13 (want_none ag_g13) (run_move ag_op13 rfl) ?_
    simp only [Act.put, ag_dst13, List.setIfInBounds_toArray, List.set_cons_zero, List.set_cons_succ]
    refine seq_skip (k := 14) (o := agOp 14) ag_hi14 (want_not (c := true) ag_g14 ag_hi13 ag_dst13 (by rfl) rfl) ?_
    simp only [Act.put, ag_dst14, List.setIfInBounds_toArray, List.set_cons_zero, List.set_cons_succ]
    refine seq_skip (k := 15) (o := agOp 15) ag_hi15 (want_not (c := true) ag_g15 ag_hi13 ag_dst13 (by rfl) rfl) ?_
    simp only [Act.put, ag_dst15, List.setIfInBounds_toArray, List.set_cons_zero, List.set_cons_succ]
    refine seq_skip (k := 16) (o := agOp 16) ag_hi16 (want_not (c := true) ag_g16 ag_hi13 ag_dst13 (by rfl) rfl) ?_
    simp only [Act.put, ag_dst16, List.setIfInBounds_toArray, List.set_cons_zero, List.set_cons_succ]
    refine seq_skip (k := 17) (o := agOp 17) ag_hi17 (want_undef ag_g17 ag_hi16 ag_dst16 (by rfl)) ?_
    simp only [Act.put, ag_dst17, List.setIfInBounds_toArray, List.set_cons_zero, List.set_cons_succ]
    refine seq_skip (k := 18) (o := agOp 18) ag_hi18 (want_undef ag_g18 ag_hi16 ag_dst16 (by rfl)) ?_
    simp only [Act.put, ag_dst18, List.setIfInBounds_toArray, List.set_cons_zero, List.set_cons_succ]
    refine seq_skip (k := 19) (o := agOp 19) ag_hi19 (want_not (c := true) ag_g19 ag_hi13 ag_dst13 (by rfl) rfl) ?_
    simp only [Act.put, ag_dst19, List.setIfInBounds_toArray, List.set_cons_zero, List.set_cons_succ]
    refine seq_skip (k := 20) (o := agOp 20) ag_hi20 (want_not (c := true) ag_g20 ag_hi13 ag_dst13 (by rfl) rfl) ?_
    simp only [Act.put, ag_dst20, List.setIfInBounds_toArray, List.set_cons_zero, List.set_cons_succ]
    refine seq_skip (k := 21) (o := agOp 21) ag_hi21 (want_undef ag_g21 ag_hi20 ag_dst20 (by rfl)) ?_
    simp only [Act.put, ag_dst21, List.setIfInBounds_toArray, List.set_cons_zero, List.set_cons_succ]
    refine seq_skip (k := 22) (o := agOp 22) ag_hi22 (want_undef ag_g22 ag_hi20 ag_dst20 (by rfl)) ?_
    simp only [Act.put, ag_dst22, List.setIfInBounds_toArray, List.set_cons_zero, List.set_cons_succ]
    refine seq_skip (k := 23) (o := agOp 23) ag_hi23 (want_undef ag_g23 ag_hi20 ag_dst20 (by rfl)) ?_
    simp only [Act.put, ag_dst23, List.setIfInBounds_toArray, List.set_cons_zero, List.set_cons_succ]
    refine seq_skip (k := 24) (o := agOp 24) ag_hi24 (want_not (c := true) ag_g24 ag_hi13 ag_dst13 (by rfl) rfl) ?_
    simp only [Act.put, ag_dst24, List.setIfInBounds_toArray, List.set_cons_zero, List.set_cons_succ]
    refine seq_take (k := 25) (o := agOp 25) (v := .bool true) ag_hi25 (want_none ag_g25) (run_pickt ag_op25 rfl rfl) ?_
    simp only [Act.put, ag_dst25, List.setIfInBounds_toArray, List.set_cons_zero, List.set_cons_succ]
    exact hnext _ _ _ _ _ _ _ _ _ _ _ _ _ _ _ _ _ _ _ _ _ _ _ _ _ _ hS
  · refine seq_take (k := 0) (o := agOp 0) (v := .int .i64 E) ag_hi0 (want_none ag_g0) (run_move ag_op0 rfl) ?_
    simp only [Act.put, ag_dst0, List.setIfInBounds_toArray, List.set_cons_zero, List.set_cons_succ]
    refine seq_take (k := 1) (o := agOp 1) (v := .bool false) ag_hi1 (want_none ag_g1) (run_bin ag_op1 rfl rfl (eqg_int _ _ _ _ _ _ _) (bin_eqf _ hE _)) ?_
    simp only [Act.put, ag_dst1, List.setIfInBounds_toArray, List.set_cons_zero, List.set_cons_succ]
    refine seq_take (k := 2) (o := agOp 2) (v := .bool false) ag_hi2 (want_none ag_g2) (run_move ag_op2 rfl) ?_
    simp only [Act.put, ag_dst2, List.setIfInBounds_toArray, List.set_cons_zero, List.set_cons_succ]
    refine seq_skip (k := 3) (o := agOp 3) ag_hi3 (want_not (c := false) ag_g3 ag_hi2 ag_dst2 (by rfl) rfl) ?_
    simp only [Act.put, ag_dst3, List.setIfInBounds_toArray, List.set_cons_zero, List.set_cons_succ]
    refine seq_skip (k := 4) (o := agOp 4) ag_hi4 (want_not (c := false) ag_g4 ag_hi2 ag_dst2 (by rfl) rfl) ?_
    simp only [Act.put, ag_dst4, List.setIfInBounds_toArray, List.set_cons_zero, List.set_cons_succ]
    refine seq_take (k := 5) (o := agOp 5) (v := .bool false) ag_hi5 (want_none ag_g5) (run_pickf ag_op5 rfl rfl) ?_
    simp only [Act.put, ag_dst5, List.setIfInBounds_toArray, List.set_cons_zero, List.set_cons_succ]
    refine seq_take (k := 6) (o := agOp 6) (v := .bool false) ag_hi6 (want_none ag_g6) (run_move ag_op6 rfl) ?_
    simp only [Act.put, ag_dst6, List.setIfInBounds_toArray, List.set_cons_zero, List.set_cons_succ]
    refine seq_skip (k := 7) (o := agOp 7) ag_hi7 (want_not (c := false) ag_g7 ag_hi6 ag_dst6 (by rfl) rfl) ?_
    simp only [Act.put, ag_dst7, List.setIfInBounds_toArray, List.set_cons_zero, List.set_cons_succ]
    refine seq_skip (k := 8) (o := agOp 8) ag_hi8 (want_not (c := false) ag_g8 ag_hi6 ag_dst6 (by rfl) rfl) ?_
    simp only [Act.put, ag_dst8, List.setIfInBounds_toArray, List.set_cons_zero, List.set_cons_succ]
    refine seq_skip (k := 9) (o := agOp 9) ag_hi9 (want_not (c := false) ag_g9 ag_hi6 ag_dst6 (by rfl) rfl) ?_
    simp only [Act.put, ag_dst9, List.setIfInBounds_toArray, List.set_cons_zero, List.set_cons_succ]
    refine seq_skip (k := 10) (o := agOp 10) ag_hi10 (want_not (c := false) ag_g10 ag_hi6 ag_dst6 (by rfl) rfl) ?_
    simp only [Act.put, ag_dst10, List.setIfInBounds_toArray, List.set_cons_zero, List.set_cons_succ]
    refine seq_skip (k := 11) (o := agOp 11) ag_hi11 (want_not (c := false) ag_g11 ag_hi6 ag_dst6 (by rfl) rfl) ?_
    simp only [Act.put, ag_dst11, List.setIfInBounds_toArray, List.set_cons_zero, List.set_cons_succ]
    refine seq_take (k := 12) (o := agOp 12) (v := .bool false) ag_hi12 (want_none ag_g12) (run_pickf ag_op12 rfl rfl) ?_
    simp only [Act.put, ag_dst12, List.setIfInBounds_toArray, List.set_cons_zero, List.set_cons_succ]
    refine seq_take (k := 13) (o := agOp 13) (v := .bool false) ag_hi13 (want_none ag_g13) (run_move ag_op13 rfl) ?_
    simp only [Act.put, ag_dst13, List.setIfInBounds_toArray, List.set_cons_zero, List.set_cons_succ]
    refine seq_take (k := 14) (o := agOp 14) (v := .int .i64 E) ag_hi14 (want_other (c := false) ag_g14 ag_hi13 ag_dst13 (by rfl) rfl) (run_move ag_op14 rfl) ?_
    simp only [Act.put, ag_dst14, List.setIfInBounds_toArray, List.set_cons_zero, List.set_cons_succ]
    refine seq_take (k := 15) (o := agOp 15) (v := .bool true) ag_hi15 (want_other (c := false) ag_g15 ag_hi13 ag_dst13 (by rfl) rfl) (run_bin ag_op15 rfl rfl (neqg_int _ _ _ _ _ _ _) (bin_net _ hE _)) ?_
    simp only [Act.put, ag_dst15, List.setIfInBounds_toArray, List.set_cons_zero, List.set_cons_succ]
    refine seq_take (k := 16) (o := agOp 16) (v := .bool true) ag_hi16 (want_other (c := false) ag_g16 ag_hi13 ag_dst13 (by rfl) rfl) (run_move ag_op16 rfl) ?_
    simp only [Act.put, ag_dst16, List.setIfInBounds_toArray, List.set_cons_zero, List.set_cons_succ]
    refine seq_take (k := 17) (o := agOp 17) (v := .int .i64 0) ag_hi17 (want_other (c := true) ag_g17 ag_hi16 ag_dst16 (by rfl) rfl) (run_move ag_op17 rfl) ?_
    simp only [Act.put, ag_dst17, List.setIfInBounds_toArray, List.set_cons_zero, List.set_cons_succ]
    refine seq_take (k := 18) (o := agOp 18) (v := .bool true) ag_hi18 (want_other (c := true) ag_g18 ag_hi16 ag_dst16 (by rfl) rfl) (run_bin ag_op18 rfl rfl (eqg_int _ _ _ _ _ _ _) (eq_int _ _)) ?_
    simp only [Act.put, ag_dst18, List.setIfInBounds_toArray, List.set_cons_zero, List.set_cons_succ]
    refine seq_take (k := 19) (o := agOp 19) (v := .bool true) ag_hi19 (want_other (c := false) ag_g19 ag_hi13 ag_dst13 (by rfl) rfl) (run_pickt ag_op19 rfl rfl) ?_
    simp only [Act.put, ag_dst19, List.setIfInBounds_toArray, List.set_cons_zero, List.set_cons_succ]
    refine seq_take (k := 20) (o := agOp 20) (v := .bool true) ag_hi20 (want_other (c := false) ag_g20 ag_hi13 ag_dst13 (by rfl) rfl) (run_move ag_op20 rfl) ?_
    simp only [Act.put, ag_dst20, List.setIfInBounds_toArray, List.set_cons_zero, List.set_cons_succ]
    refine seq_take (k := 21) (o := agOp 21) (v := .agg #[.int .u32 0, .int .u32 0, .int .u32 0, .int .u32 0, .int .u32 0, .int .u64 0, .int .u64 0, .int .u64 0, .int .u32 0, .int .u32 0, .int .u32 0, .int .u32 0, .int .u32 0, .int .u32 0]) ag_hi21 (want_other (c := true) ag_g21 ag_hi20 ag_dst20 (by rfl) rfl) (run_load_row _ _ ag_op21 h1 rfl _ _ (0, 0) _ (hrow _ hS) Try.underlying28 rfl hinf) ?_
    simp only [Act.put, ag_dst21, List.setIfInBounds_toArray, List.set_cons_zero, List.set_cons_succ]
    refine seq_take (k := 22) (o := agOp 22) (v := .agg #[.int .u32 0, .int .u32 0, .int .u32 0, .int .u32 0, .int .u32 0, .int .u64 0, .int .u64 0, .int .u64 0, .int .u32 0, .int .u32 0, .int .u32 0, .int .u32 0, .int .u32 0, .int .u32 0]) ag_hi22 (want_other (c := true) ag_g22 ag_hi20 ag_dst20 (by rfl) rfl) (run_builda ag_op22) ?_
    simp only [Act.put, ag_dst22, List.setIfInBounds_toArray, List.set_cons_zero, List.set_cons_succ]
    refine seq_take (k := 23) (o := agOp 23) (v := .bool true) ag_hi23 (want_other (c := true) ag_g23 ag_hi20 ag_dst20 (by rfl) rfl) (run_bin ag_op23 rfl rfl (eqg_attr _ _ _ _ _) (heq _)) ?_
    simp only [Act.put, ag_dst23, List.setIfInBounds_toArray, List.set_cons_zero, List.set_cons_succ]
    refine seq_take (k := 24) (o := agOp 24) (v := .bool true) ag_hi24 (want_other (c := false) ag_g24 ag_hi13 ag_dst13 (by rfl) rfl) (run_pickt ag_op24 rfl rfl) ?_
    simp only [Act.put, ag_dst24, List.setIfInBounds_toArray, List.set_cons_zero, List.set_cons_succ]
    refine seq_take (k := 25) (o := agOp 25) (v := .bool true) ag_hi25 (want_none ag_g25) (run_pickf ag_op25 rfl rfl) ?_
    simp only [Act.put, ag_dst25, List.setIfInBounds_toArray, List.set_cons_zero, List.set_cons_succ]
    exact hnext _ _ _ _ _ _ _ _ _ _ _ _ _ _ _ _ _ _ _ _ _ _ _ _ _ _ hS
set_option maxRecDepth 100000 in
set_option maxHeartbeats 4000000 in
theorem agp2 {Q : Exit → Act → World → Prop} {S : World → Prop} (u1 u2 u3 u4 u5 u9 u10 u11 u12 u13 u16 u17 u18 u19 u20 u21 u22 u23 u24 u25 u26 u27 u28 u29 u30 u31 u32 u33 u34 u35 u36 u37 u38 u39 u40 u41 u42 u43 u44 u45 u46 u47 u48 u49 u50 u51 u52 u53 u54 u55 u56 u57 u58 u59 u60 u61 u62 u63 u64 u65 u66 u67 u68 u69 u70 u71 u72 u73 u74 u75 u76 u77 u78 u79 u80 u81 u82 u83 u84 u85 u86 u87 u88 u89 u90 u91 u92 u93 u94 u95 u96 u97 u98 u99 u100 u101 u102 u103 u104 u105 u106 u107 u108 u109 u110 u111 u112 : Value) (E N H : Int) (h1 : Nat) (A : Array Value) (a : Option Addr) (len cap : Nat) (X Y : Value) (w : World) (hS : S w)
    (hrow : ∀ w, S w → w.heap[h1]? = some (.cells A 40)) (hinf : (Try.prog.info? 40).map (·.size) = some A.size)
    (hcase : (E = 0 ∧ H = 0 ∧ (∀ w, (Instr.sliceAt 29 (.slice a len cap) none (some (.int .i64 N)) none).run Try.prog w = .ok Y w) ∧ (∀ w, S w → Calls Try.prog 17 #[X, Y] w fun e w' => e = .returned (.bool true) ∧ S w')) ∨
      (E ≠ 0 ∧ N = 0 ∧ A = #[.bool false, .int .u32 0, .bool false, .int .u32 0, .bool false, .int .u32 0, .bool false, .int .u64 0, .int .u32 0, .int .u32 0, .int .u32 0, .int .u32 0, .int .u32 0, .int .u32 0]))
    (heq : ∀ w, (binOp .eql 40 (.agg #[.bool false, .int .u32 0, .bool false, .int .u32 0, .bool false, .int .u32 0, .bool false, .int .u64 0, .int .u32 0, .int .u32 0, .int .u32 0, .int .u32 0, .int .u32 0, .int .u32 0]) (.agg #[.bool false, .int .u32 0, .bool false, .int .u32 0, .bool false, .int .u32 0, .bool false, .int .u64 0, .int .u32 0, .int .u32 0, .int .u32 0, .int .u32 0, .int .u32 0, .int .u32 0])).run Try.prog w = .ok (.bool true) w)
    (hnext : ∀ (u114 u115 u116 u117 u118 u119 u120 u121 u122 u123 u124 u125 u126 u127 u128 u129 u130 u131 u132 u133 u134 u135 u136 u137 u138 u139 u140 : Value) (w' : World), S w' → SeqAt Try.prog agOps Q 54 ⟨#[.slice a len cap, u1, u2, u3, u4, u5, .pointer (some ⟨h1, 0, none⟩), .int .i64 N, .int .i64 E, u9, u10, u11, u12, u13, X, .int .i64 H, u16, u17, u18, u19, u20, u21, u22, u23, u24, u25, u26, u27, u28, u29, u30, u31, u32, u33, u34, u35, u36, u37, u38, u39, u40, u41, u42, u43, u44, u45, u46, u47, u48, u49, u50, u51, u52, u53, u54, u55, u56, u57, u58, u59, u60, u61, u62, u63, u64, u65, u66, u67, u68, u69, u70, u71, u72, u73, u74, u75, u76, u77, u78, u79, u80, u81, u82, u83, u84, u85, u86, u87, u88, u89, u90, u91, u92, u93, u94, u95, u96, u97, u98, u99, u100, u101, u102, u103, u104, u105, u106, u107, u108, u109, u110, u111, u112, .bool true, u114, u115, u116, u117, u118, u119, u120, u121, u122, u123, u124, u125, u126, u127, u128, u129, u130, u131, u132, u133, u134, u135, u136, u137, u138, u139, u140, .bool true, undef, undef, undef, undef, undef, undef, undef, undef, undef, undef, undef, undef, undef, undef, undef, undef, undef, undef, undef, undef, undef, undef, undef, undef, undef, undef, undef, undef], []⟩ w') :
    SeqAt Try.prog agOps Q 26 ⟨#[.slice a len cap, u1, u2, u3, u4, u5, .pointer (some ⟨h1, 0, none⟩), .int .i64 N, .int .i64 E, u9, u10, u11, u12, u13, X, .int .i64 H, u16, u17, u18, u19, u20, u21, u22, u23, u24, u25, u26, u27, u28, u29, u30, u31, u32, u33, u34, u35, u36, u37, u38, u39, u40, u41, u42, u43, u44, u45, u46, u47, u48, u49, u50, u51, u52, u53, u54, u55, u56, u57, u58, u59, u60, u61, u62, u63, u64, u65, u66, u67, u68, u69, u70, u71, u72, u73, u74, u75, u76, u77, u78, u79, u80, u81, u82, u83, u84, u85, u86, u87, u88, u89, u90, u91, u92, u93, u94, u95, u96, u97, u98, u99, u100, u101, u102, u103, u104, u105, u106, u107, u108, u109, u110, u111, u112, .bool true, undef, undef, undef, undef, undef, undef, undef, undef, undef, undef, undef, undef, undef, undef, undef, undef, undef, undef, undef, undef, undef, undef, undef, undef, undef, undef, undef, undef, undef, undef, undef, undef, undef, undef, undef, undef, undef, undef, undef, undef, undef, undef, undef, undef, undef, undef, undef, undef, undef, undef, undef, undef, undef, undef, undef, undef], []⟩ w := by
  rcases hcase with ⟨rfl, rfl, hcut, hsame⟩ | ⟨hE, rfl, rfl⟩
  · refine seq_take (k := 26) (o := agOp 26) (v := .bool true) ag_hi26 (want_none ag_g26) (run_move ag_op26 rfl) ?_
    simp only [Act.put, ag_dst26, List.setIfInBounds_toArray, List.set_cons_zero, List.set_cons_succ]
    refine seq_take (k := 27) (o := agOp 27) (v := .int .i64 0) ag_hi27 (want_other (c := true) ag_g27 ag_hi26 ag_dst26 (by rfl) rfl) (run_move ag_op27 rfl) ?_
    simp only [Act.put, ag_dst27, List.setIfInBounds_toArray, List.set_cons_zero, List.set_cons_succ]
    refine seq_take (k := 28) (o := agOp 28) (v := .bool true) ag_hi28 (want_other (c := true) ag_g28 ag_hi26 ag_dst26 (by rfl) rfl) (run_bin ag_op28 rfl rfl (eqg_int _ _ _ _ _ _ _) (eq_err _ _)) ?_
    simp only [Act.put, ag_dst28, List.setIfInBounds_toArray, List.set_cons_zero, List.set_cons_succ]
    refine seq_take (k := 29) (o := agOp 29) (v := .bool true) ag_hi29 (want_other (c := true) ag_g29 ag_hi26 ag_dst26 (by rfl) rfl) (run_move ag_op29 rfl) ?_
    simp only [Act.put, ag_dst29, List.setIfInBounds_toArray, List.set_cons_zero, List.set_cons_succ]
    refine seq_take (k := 30) (o := agOp 30) (v := .int .i64 0) ag_hi30 (want_other (c := true) ag_g30 ag_hi29 ag_dst29 (by rfl) rfl) (run_move ag_op30 rfl) ?_
    simp only [Act.put, ag_dst30, List.setIfInBounds_toArray, List.set_cons_zero, List.set_cons_succ]
    refine seq_take (k := 31) (o := agOp 31) (v := .bool true) ag_hi31 (want_other (c := true) ag_g31 ag_hi29 ag_dst29 (by rfl) rfl) (run_bin ag_op31 rfl rfl (eqg_int _ _ _ _ _ _ _) (eq_err _ _)) ?_
    simp only [Act.put, ag_dst31, List.setIfInBounds_toArray, List.set_cons_zero, List.set_cons_succ]
    refine seq_take (k := 32) (o := agOp 32) (v := .bool true) ag_hi32 (want_other (c := true) ag_g32 ag_hi26 ag_dst26 (by rfl) rfl) (run_pickt ag_op32 rfl rfl) ?_
    simp only [Act.put, ag_dst32, List.setIfInBounds_toArray, List.set_cons_zero, List.set_cons_succ]
    refine seq_take (k := 33) (o := agOp 33) (v := .bool true) ag_hi33 (want_other (c := true) ag_g33 ag_hi26 ag_dst26 (by rfl) rfl) (run_move ag_op33 rfl) ?_
    simp only [Act.put, ag_dst33, List.setIfInBounds_toArray, List.set_cons_zero, List.set_cons_succ]
    refine seq_take (k := 34) (o := agOp 34) (v := X) ag_hi34 (want_other (c := true) ag_g34 ag_hi33 ag_dst33 (by rfl) rfl) (run_move ag_op34 rfl) ?_
    simp only [Act.put, ag_dst34, List.setIfInBounds_toArray, List.set_cons_zero, List.set_cons_succ]
    refine seq_take (k := 35) (o := agOp 35) (v := .slice a len cap) ag_hi35 (want_other (c := true) ag_g35 ag_hi33 ag_dst33 (by rfl) rfl) (run_move ag_op35 rfl) ?_
    simp only [Act.put, ag_dst35, List.setIfInBounds_toArray, List.set_cons_zero, List.set_cons_succ]
    refine seq_take (k := 36) (o := agOp 36) (v := .int .i64 N) ag_hi36 (want_other (c := true) ag_g36 ag_hi33 ag_dst33 (by rfl) rfl) (run_move ag_op36 rfl) ?_
    simp only [Act.put, ag_dst36, List.setIfInBounds_toArray, List.set_cons_zero, List.set_cons_succ]
    refine seq_take (k := 37) (o := agOp 37) (v := Y) ag_hi37 (want_other (c := true) ag_g37 ag_hi33 ag_dst33 (by rfl) rfl) (run_cutn ag_op37 rfl rfl (hcut _)) ?_
    simp only [Act.put, ag_dst37, List.setIfInBounds_toArray, List.set_cons_zero, List.set_cons_succ]
    refine seq_enter (k := 38) (o := agOp 38) ag_hi38 (want_other (c := true) ag_g38 ag_hi33 ag_dst33 (by rfl) rfl) (run_enter2 ag_op38 rfl rfl enter_same) (hsame _ hS) ?_
    clear hS
    intro w1 hS
    simp only [Act.put, ag_dst38, List.setIfInBounds_toArray, List.set_cons_zero, List.set_cons_succ]
    refine seq_take (k := 39) (o := agOp 39) (v := .bool true) ag_hi39 (want_other (c := true) ag_g39 ag_hi26 ag_dst26 (by rfl) rfl) (run_pickt ag_op39 rfl rfl) ?_
    simp only [Act.put, ag_dst39, List.setIfInBounds_toArray, List.set_cons_zero, List.set_cons_succ]
    refine seq_take (k := 40) (o := agOp 40) (v := .bool true) ag_hi40 (want_other (c := true) ag_g40 ag_hi26 ag_dst26 (by rfl) rfl) (run_move ag_op40 rfl) ?_
    simp only [Act.put, ag_dst40, List.setIfInBounds_toArray, List.set_cons_zero, List.set_cons_succ]
    refine seq_skip (k := 41) (o := agOp 41) ag_hi41 (want_not (c := true) ag_g41 ag_hi40 ag_dst40 (by rfl) rfl) ?_
    simp only [Act.put, ag_dst41, List.setIfInBounds_toArray, List.set_cons_zero, List.set_cons_succ]
    refine seq_skip (k := 42) (o := agOp 42) ag_hi42 (want_not (c := true) ag_g42 ag_hi40 ag_dst40 (by rfl) rfl) ?_
    simp only [Act.put, ag_dst42, List.setIfInBounds_toArray, List.set_cons_zero, List.set_cons_succ]
    refine seq_skip (k := 43) (o := agOp 43) ag_hi43 (want_not (c := true) ag_g43 ag_hi40 ag_dst40 (by rfl) rfl) ?_
    simp only [Act.put, ag_dst43, List.setIfInBounds_toArray, List.set_cons_zero, List.set_cons_succ]
    refine seq_skip (k := 44) (o := agOp 44) ag_hi44 (want_undef ag_g44 ag_hi43 ag_dst43 (by rfl)) ?_
    simp only [Act.put, ag_dst44, List.setIfInBounds_toArray, List.set_cons_zero, List.set_cons_succ]
    refine seq_skip (k := 45) (o := agOp 45) ag_hi45 (want_undef ag_g45 ag_hi43 ag_dst43 (by rfl)) ?_
    simp only [Act.put, ag_dst45, List.setIfInBounds_toArray, List.set_cons_zero, List.set_cons_succ]
    refine seq_skip (k := 46) (o := agOp 46) ag_hi46 (want_not (c := true) ag_g46 ag_hi40 ag_dst40 (by rfl) rfl) ?_
    simp only [Act.put, ag_dst46, List.setIfInBounds_toArray, List.set_cons_zero, List.set_cons_succ]
    refine seq_skip (k := 47) (o := agOp 47) ag_hi47 (want_not (c := true) ag_g47 ag_hi40 ag_dst40 (by rfl) rfl) ?_
    simp only [Act.put, ag_dst47, List.setIfInBounds_toArray, List.set_cons_zero, List.set_cons_succ]
    refine seq_skip (k := 48) (o := agOp 48) ag_hi48 (want_undef ag_g48 ag_hi47 ag_dst47 (by rfl)) ?_
    simp only [Act.put, ag_dst48, List.setIfInBounds_toArray, List.set_cons_zero, List.set_cons_succ]
    refine seq_skip (k := 49) (o := agOp 49) ag_hi49 (want_undef ag_g49 ag_hi47 ag_dst47 (by rfl)) ?_
    simp only [Act.put, ag_dst49, List.setIfInBounds_toArray, List.set_cons_zero, List.set_cons_succ]
    refine seq_skip (k := 50) (o := agOp 50) ag_hi50 (want_undef ag_g50 ag_hi47 ag_dst47 (by rfl)) ?_
    simp only [Act.put, ag_dst50, List.setIfInBounds_toArray, List.set_cons_zero, List.set_cons_succ]
    refine seq_skip (k := 51) (o := agOp 51) ag_hi51 (want_not (c := true) ag_g51 ag_hi40 ag_dst40 (by rfl) rfl) ?_
    simp only [Act.put, ag_dst51, List.setIfInBounds_toArray, List.set_cons_zero, List.set_cons_succ]
    refine seq_take (k := 52) (o := agOp 52) (v := .bool true) ag_hi52 (want_other (c := true) ag_g52 ag_hi26 ag_dst26 (by rfl) rfl) (run_pickt ag_op52 rfl rfl) ?_
    simp only [Act.put, ag_dst52, List.setIfInBounds_toArray, List.set_cons_zero, List.set_cons_succ]
    refine seq_take (k := 53) (o := agOp 53) (v := .bool true) ag_hi53 (want_none ag_g53) (run_pickt ag_op53 rfl rfl) ?_
    simp only [Act.put, ag_dst53, List.setIfInBounds_toArray, List.set_cons_zero, List.set_cons_succ]
    exact hnext _ _ _ _ _ _ _ _ _ _ _ _ _ _ _ _ _ _ _ _ _ _ _ _ _ _ _ _ hS
  · refine seq_take (k := 26) (o := agOp 26) (v := .bool true) ag_hi26 (want_none ag_g26) (run_move ag_op26 rfl) ?_
    simp only [Act.put, ag_dst26, List.setIfInBounds_toArray, List.set_cons_zero, List.set_cons_succ]
    refine seq_take (k := 27) (o := agOp 27) (v := .int .i64 E) ag_hi27 (want_other (c := true) ag_g27 ag_hi26 ag_dst26 (by rfl) rfl) (run_move ag_op27 rfl) ?_
    simp only [Act.put, ag_dst27, List.setIfInBounds_toArray, List.set_cons_zero, List.set_cons_succ]
    refine seq_take (k := 28) (o := agOp 28) (v := .bool false) ag_hi28 (want_other (c := true) ag_g28 ag_hi26 ag_dst26 (by rfl) rfl) (run_bin ag_op28 rfl rfl (eqg_int _ _ _ _ _ _ _) (bin_eqf _ hE _)) ?_
    simp only [Act.put, ag_dst28, List.setIfInBounds_toArray, List.set_cons_zero, List.set_cons_succ]
    refine seq_take (k := 29) (o := agOp 29) (v := .bool false) ag_hi29 (want_other (c := true) ag_g29 ag_hi26 ag_dst26 (by rfl) rfl) (run_move ag_op29 rfl) ?_
    simp only [Act.put, ag_dst29, List.setIfInBounds_toArray, List.set_cons_zero, List.set_cons_succ]
    refine seq_skip (k := 30) (o := agOp 30) ag_hi30 (want_not (c := false) ag_g30 ag_hi29 ag_dst29 (by rfl) rfl) ?_
    simp only [Act.put, ag_dst30, List.setIfInBounds_toArray, List.set_cons_zero, List.set_cons_succ]
    refine seq_skip (k := 31) (o := agOp 31) ag_hi31 (want_not (c := false) ag_g31 ag_hi29 ag_dst29 (by rfl) rfl) ?_
    simp only [Act.put, ag_dst31, List.setIfInBounds_toArray, List.set_cons_zero, List.set_cons_succ]
    refine seq_take (k := 32) (o := agOp 32) (v := .bool false) ag_hi32 (want_other (c := true) ag_g32 ag_hi26 ag_dst26 (by rfl) rfl) (run_pickf ag_op32 rfl rfl) ?_
    simp only [Act.put, ag_dst32, List.setIfInBounds_toArray, List.set_cons_zero, List.set_cons_succ]
    refine seq_take (k := 33) (o := agOp 33) (v := .bool false) ag_hi33 (want_other (c := true) ag_g33 ag_hi26 ag_dst26 (by rfl) rfl) (run_move ag_op33 rfl) ?_
    simp only [Act.put, ag_dst33, List.setIfInBounds_toArray, List.set_cons_zero, List.set_cons_succ]
    refine seq_skip (k := 34) (o := agOp 34) ag_hi34 (want_not (c := false) ag_g34 ag_hi33 ag_dst33 (by rfl) rfl) ?_
    simp only [Act.put, ag_dst34, List.setIfInBounds_toArray, List.set_cons_zero, List.set_cons_succ]
    refine seq_skip (k := 35) (o := agOp 35) ag_hi35 (want_not (c := false) ag_g35 ag_hi33 ag_dst33 (by rfl) rfl) ?_
    simp only [Act.put, ag_dst35, List.setIfInBounds_toArray, List.set_cons_zero, List.set_cons_succ]
    refine seq_skip (k := 36) (o := agOp 36) ag_hi36 (want_not (c := false) ag_g36 ag_hi33 ag_dst33 (by rfl) rfl) ?_
    simp only [Act.put, ag_dst36, List.setIfInBounds_toArray, List.set_cons_zero, List.set_cons_succ]
    refine seq_skip (k := 37) (o := agOp 37) ag_hi37 (want_not (c := false) ag_g37 ag_hi33 ag_dst33 (by rfl) rfl) ?_
    simp only [Act.put, ag_dst37, List.setIfInBounds_toArray, List.set_cons_zero, List.set_cons_succ]
    refine seq_skip (k := 38) (o := agOp 38) ag_hi38 (want_not (c := false) ag_g38 ag_hi33 ag_dst33 (by rfl) rfl) ?_
    simp only [Act.put, ag_dst38, List.setIfInBounds_toArray, List.set_cons_zero, List.set_cons_succ]
    refine seq_take (k := 39) (o := agOp 39) (v := .bool false) ag_hi39 (want_other (c := true) ag_g39 ag_hi26 ag_dst26 (by rfl) rfl) (run_pickf ag_op39 rfl rfl) ?_
    simp only [Act.put, ag_dst39, List.setIfInBounds_toArray, List.set_cons_zero, List.set_cons_succ]
    refine seq_take (k := 40) (o := agOp 40) (v := .bool false) ag_hi40 (want_other (c := true) ag_g40 ag_hi26 ag_dst26 (by rfl) rfl) (run_move ag_op40 rfl) ?_
    simp only [Act.put, ag_dst40, List.setIfInBounds_toArray, List.set_cons_zero, List.set_cons_succ]
    refine seq_take (k := 41) (o := agOp 41) (v := .int .i64 E) ag_hi41 (want_other (c := false) ag_g41 ag_hi40 ag_dst40 (by rfl) rfl) (run_move ag_op41 rfl) ?_
    simp only [Act.put, ag_dst41, List.setIfInBounds_toArray, List.set_cons_zero, List.set_cons_succ]
    refine seq_take (k := 42) (o := agOp 42) (v := .bool true) ag_hi42 (want_other (c := false) ag_g42 ag_hi40 ag_dst40 (by rfl) rfl) (run_bin ag_op42 rfl rfl (neqg_int _ _ _ _ _ _ _) (bin_net _ hE _)) ?_
    simp only [Act.put, ag_dst42, List.setIfInBounds_toArray, List.set_cons_zero, List.set_cons_succ]
    refine seq_take (k := 43) (o := agOp 43) (v := .bool true) ag_hi43 (want_other (c := false) ag_g43 ag_hi40 ag_dst40 (by rfl) rfl) (run_move ag_op43 rfl) ?_
    simp only [Act.put, ag_dst43, List.setIfInBounds_toArray, List.set_cons_zero, List.set_cons_succ]
    refine seq_take (k := 44) (o := agOp 44) (v := .int .i64 0) ag_hi44 (want_other (c := true) ag_g44 ag_hi43 ag_dst43 (by rfl) rfl) (run_move ag_op44 rfl) ?_
    simp only [Act.put, ag_dst44, List.setIfInBounds_toArray, List.set_cons_zero, List.set_cons_succ]
    refine seq_take (k := 45) (o := agOp 45) (v := .bool true) ag_hi45 (want_other (c := true) ag_g45 ag_hi43 ag_dst43 (by rfl) rfl) (run_bin ag_op45 rfl rfl (eqg_int _ _ _ _ _ _ _) (eq_int _ _)) ?_
    simp only [Act.put, ag_dst45, List.setIfInBounds_toArray, List.set_cons_zero, List.set_cons_succ]
    refine seq_take (k := 46) (o := agOp 46) (v := .bool true) ag_hi46 (want_other (c := false) ag_g46 ag_hi40 ag_dst40 (by rfl) rfl) (run_pickt ag_op46 rfl rfl) ?_
    simp only [Act.put, ag_dst46, List.setIfInBounds_toArray, List.set_cons_zero, List.set_cons_succ]
    refine seq_take (k := 47) (o := agOp 47) (v := .bool true) ag_hi47 (want_other (c := false) ag_g47 ag_hi40 ag_dst40 (by rfl) rfl) (run_move ag_op47 rfl) ?_
    simp only [Act.put, ag_dst47, List.setIfInBounds_toArray, List.set_cons_zero, List.set_cons_succ]
    refine seq_take (k := 48) (o := agOp 48) (v := .agg #[.bool false, .int .u32 0, .bool false, .int .u32 0, .bool false, .int .u32 0, .bool false, .int .u64 0, .int .u32 0, .int .u32 0, .int .u32 0, .int .u32 0, .int .u32 0, .int .u32 0]) ag_hi48 (want_other (c := true) ag_g48 ag_hi47 ag_dst47 (by rfl) rfl) (run_load_row _ _ ag_op48 h1 rfl _ _ (0, 0) _ (hrow _ hS) Try.underlying40 rfl hinf) ?_
    simp only [Act.put, ag_dst48, List.setIfInBounds_toArray, List.set_cons_zero, List.set_cons_succ]
    refine seq_take (k := 49) (o := agOp 49) (v := .agg #[.bool false, .int .u32 0, .bool false, .int .u32 0, .bool false, .int .u32 0, .bool false, .int .u64 0, .int .u32 0, .int .u32 0, .int .u32 0, .int .u32 0, .int .u32 0, .int .u32 0]) ag_hi49 (want_other (c := true) ag_g49 ag_hi47 ag_dst47 (by rfl) rfl) (run_builds ag_op49) ?_
    simp only [Act.put, ag_dst49, List.setIfInBounds_toArray, List.set_cons_zero, List.set_cons_succ]
    refine seq_take (k := 50) (o := agOp 50) (v := .bool true) ag_hi50 (want_other (c := true) ag_g50 ag_hi47 ag_dst47 (by rfl) rfl) (run_bin ag_op50 rfl rfl (eqg_stt _ _ _ _ _) (heq _)) ?_
    simp only [Act.put, ag_dst50, List.setIfInBounds_toArray, List.set_cons_zero, List.set_cons_succ]
    refine seq_take (k := 51) (o := agOp 51) (v := .bool true) ag_hi51 (want_other (c := false) ag_g51 ag_hi40 ag_dst40 (by rfl) rfl) (run_pickt ag_op51 rfl rfl) ?_
    simp only [Act.put, ag_dst51, List.setIfInBounds_toArray, List.set_cons_zero, List.set_cons_succ]
    refine seq_take (k := 52) (o := agOp 52) (v := .bool true) ag_hi52 (want_other (c := true) ag_g52 ag_hi26 ag_dst26 (by rfl) rfl) (run_pickf ag_op52 rfl rfl) ?_
    simp only [Act.put, ag_dst52, List.setIfInBounds_toArray, List.set_cons_zero, List.set_cons_succ]
    refine seq_take (k := 53) (o := agOp 53) (v := .bool true) ag_hi53 (want_none ag_g53) (run_pickt ag_op53 rfl rfl) ?_
    simp only [Act.put, ag_dst53, List.setIfInBounds_toArray, List.set_cons_zero, List.set_cons_succ]
    exact hnext _ _ _ _ _ _ _ _ _ _ _ _ _ _ _ _ _ _ _ _ _ _ _ _ _ _ _ _ hS
set_option maxRecDepth 100000 in
set_option maxHeartbeats 4000000 in
theorem agp3 {Q : Exit → Act → World → Prop} {S : World → Prop} (u1 u2 u3 u4 u5 u6 u7 u8 u12 u13 u14 u15 u18 u19 u20 u21 u22 u23 u24 u25 u26 u27 u28 u29 u30 u31 u32 u33 u34 u35 u36 u37 u38 u39 u40 u41 u42 u43 u44 u45 u46 u47 u48 u49 u50 u51 u52 u53 u54 u55 u56 u57 u58 u59 u60 u61 u62 u63 u64 u65 u66 u67 u68 u69 u70 u71 u72 u73 u74 u75 u76 u77 u78 u79 u80 u81 u82 u83 u84 u85 u86 u87 u88 u89 u90 u91 u92 u93 u94 u95 u96 u97 u98 u99 u100 u101 u102 u103 u104 u105 u106 u107 u108 u109 u110 u111 u112 u113 u114 u115 u116 u117 u118 u119 u120 u121 u122 u123 u124 u125 u126 u127 u128 u129 u130 u131 u132 u133 u134 u135 u136 u137 u138 u139 u140 : Value) (E N H : Int) (h1 : Nat) (A : Array Value) (a : Option Addr) (len cap : Nat) (X Y : Value) (w : World) (hS : S w)
    (hrow : ∀ w, S w → w.heap[h1]? = some (.cells A 46)) (hinf : (Try.prog.info? 46).map (·.size) = some A.size)
    (hcase : (E = 0 ∧ H = 0 ∧ (∀ w, (Instr.sliceAt 29 (.slice a len cap) none (some (.int .i64 N)) none).run Try.prog w = .ok Y w) ∧ (∀ w, S w → Calls Try.prog 17 #[X, Y] w fun e w' => e = .returned (.bool true) ∧ S w')) ∨
      (E ≠ 0 ∧ N = 0 ∧ A = #[.bool false, .int .u64 0, .int .u32 0, .int .u32 0, .int .u32 0, .int .u32 0, .bool false, .int .u32 0, .int .u32 0, .int .u32 0, .int .u32 0, .int .u32 0, .int .u64 0, .int .u64 0, .int .u64 0, .int .u32 0, .int .u32 0, .int .u32 0, .int .u32 0, .int .u32 0, .int .u32 0]))
    (heq : ∀ w, (binOp .eql 46 (.agg #[.bool false, .int .u64 0, .int .u32 0, .int .u32 0, .int .u32 0, .int .u32 0, .bool false, .int .u32 0, .int .u32 0, .int .u32 0, .int .u32 0, .int .u32 0, .int .u64 0, .int .u64 0, .int .u64 0, .int .u32 0, .int .u32 0, .int .u32 0, .int .u32 0, .int .u32 0, .int .u32 0]) (.agg #[.bool false, .int .u64 0, .int .u32 0, .int .u32 0, .int .u32 0, .int .u32 0, .bool false, .int .u32 0, .int .u32 0, .int .u32 0, .int .u32 0, .int .u32 0, .int .u64 0, .int .u64 0, .int .u64 0, .int .u32 0, .int .u32 0, .int .u32 0, .int .u32 0, .int .u32 0, .int .u32 0])).run Try.prog w = .ok (.bool true) w)
    (hnext : ∀ (u142 u143 u144 u145 u146 u147 u148 u149 u150 u151 u152 u153 u154 u155 u156 u157 u158 u159 u160 u161 u162 u163 u164 u165 u166 u167 u168 : Value) (w' : World), S w' → SeqAt Try.prog agOps Q 82 ⟨#[.slice a len cap, u1, u2, u3, u4, u5, u6, u7, u8, .pointer (some ⟨h1, 0, none⟩), .int .i64 N, .int .i64 E, u12, u13, u14, u15, X, .int .i64 H, u18, u19, u20, u21, u22, u23, u24, u25, u26, u27, u28, u29, u30, u31, u32, u33, u34, u35, u36, u37, u38, u39, u40, u41, u42, u43, u44, u45, u46, u47, u48, u49, u50, u51, u52, u53, u54, u55, u56, u57, u58, u59, u60, u61, u62, u63, u64, u65, u66, u67, u68, u69, u70, u71, u72, u73, u74, u75, u76, u77, u78, u79, u80, u81, u82, u83, u84, u85, u86, u87, u88, u89, u90, u91, u92, u93, u94, u95, u96, u97, u98, u99, u100, u101, u102, u103, u104, u105, u106, u107, u108, u109, u110, u111, u112, u113, u114, u115, u116, u117, u118, u119, u120, u121, u122, u123, u124, u125, u126, u127, u128, u129, u130, u131, u132, u133, u134, u135, u136, u137, u138, u139, u140, .bool true, u142, u143, u144, u145, u146, u147, u148, u149, u150, u151, u152, u153, u154, u155, u156, u157, u158, u159, u160, u161, u162, u163, u164, u165, u166, u167, u168, .bool true], []⟩ w') :
    SeqAt Try.prog agOps Q 54 ⟨#[.slice a len cap, u1, u2, u3, u4, u5, u6, u7, u8, .pointer (some ⟨h1, 0, none⟩), .int .i64 N, .int .i64 E, u12, u13, u14, u15, X, .int .i64 H, u18, u19, u20, u21, u22, u23, u24, u25, u26, u27, u28, u29, u30, u31, u32, u33, u34, u35, u36, u37, u38, u39, u40, u41, u42, u43, u44, u45, u46, u47, u48, u49, u50, u51, u52, u53, u54, u55, u56, u57, u58, u59, u60, u61, u62, u63, u64, u65, u66, u67, u68, u69, u70, u71, u72, u73, u74, u75, u76, u77, u78, u79, u80, u81, u82, u83, u84, u85, u86, u87, u88, u89, u90, u91, u92, u93, u94, u95, u96, u97, u98, u99, u100, u101, u102, u103, u104, u105, u106, u107, u108, u109, u110, u111, u112, u113, u114, u115, u116, u117, u118, u119, u120, u121, u122, u123, u124, u125, u126, u127, u128, u129, u130, u131, u132, u133, u134, u135, u136, u137, u138, u139, u140, .bool true, undef, undef, undef, undef, undef, undef, undef, undef, undef, undef, undef, undef, undef, undef, undef, undef, undef, undef, undef, undef, undef, undef, undef, undef, undef, undef, undef, undef], []⟩ w := by
  rcases hcase with ⟨rfl, rfl, hcut, hsame⟩ | ⟨hE, rfl, rfl⟩
  · refine seq_take (k := 54) (o := agOp 54) (v := .bool true) ag_hi54 (want_none ag_g54) (run_move ag_op54 rfl) ?_
    simp only [Act.put, ag_dst54, List.setIfInBounds_toArray, List.set_cons_zero, List.set_cons_succ]
    refine seq_take (k := 55) (o := agOp 55) (v := .int .i64 0) ag_hi55 (want_other (c := true) ag_g55 ag_hi54 ag_dst54 (by rfl) rfl) (run_move ag_op55 rfl) ?_
    simp only [Act.put, ag_dst55, List.setIfInBounds_toArray, List.set_cons_zero, List.set_cons_succ]
    refine seq_take (k := 56) (o := agOp 56) (v := .bool true) ag_hi56 (want_other (c := true) ag_g56 ag_hi54 ag_dst54 (by rfl) rfl) (run_bin ag_op56 rfl rfl (eqg_int _ _ _ _ _ _ _) (eq_err _ _)) ?_
    simp only [Act.put, ag_dst56, List.setIfInBounds_toArray, List.set_cons_zero, List.set_cons_succ]
    refine seq_take (k := 57) (o := agOp 57) (v := .bool true) ag_hi57 (want_other (c := true) ag_g57 ag_hi54 ag_dst54 (by rfl) rfl) (run_move ag_op57 rfl) ?_
    simp only [Act.put, ag_dst57, List.setIfInBounds_toArray, List.set_cons_zero, List.set_cons_succ]
    refine seq_take (k := 58) (o := agOp 58) (v := .int .i64 0) ag_hi58 (want_other (c := true) ag_g58 ag_hi57 ag_dst57 (by rfl) rfl) (run_move ag_op58 rfl) ?_
    simp only [Act.put, ag_dst58, List.setIfInBounds_toArray, List.set_cons_zero, List.set_cons_succ]
    refine seq_take (k := 59) (o := agOp 59) (v := .bool true) ag_hi59 (want_other (c := true) ag_g59 ag_hi57 ag_dst57 (by rfl) rfl) (run_bin ag_op59 rfl rfl (eqg_int _ _ _ _ _ _ _) (eq_err _ _)) ?_
    simp only [Act.put, ag_dst59, List.setIfInBounds_toArray, List.set_cons_zero, List.set_cons_succ]
    refine seq_take (k := 60) (o := agOp 60) (v := .bool true) ag_hi60 (want_other (c := true) ag_g60 ag_hi54 ag_dst54 (by rfl) rfl) (run_pickt ag_op60 rfl rfl) ?_
    simp only [Act.put, ag_dst60, List.setIfInBounds_toArray, List.set_cons_zero, List.set_cons_succ]
    refine seq_take (k := 61) (o := agOp 61) (v := .bool true) ag_hi61 (want_other (c := true) ag_g61 ag_hi54 ag_dst54 (by rfl) rfl) (run_move ag_op61 rfl) ?_
    simp only [Act.put, ag_dst61, List.setIfInBounds_toArray, List.set_cons_zero, List.set_cons_succ]
    refine seq_take (k := 62) (o := agOp 62) (v := X) ag_hi62 (want_other (c := true) ag_g62 ag_hi61 ag_dst61 (by rfl) rfl) (run_move ag_op62 rfl) ?_
    simp only [Act.put, ag_dst62, List.setIfInBounds_toArray, List.set_cons_zero, List.set_cons_succ]
    refine seq_take (k := 63) (o := agOp 63) (v := .slice a len cap) ag_hi63 (want_other (c := true) ag_g63 ag_hi61 ag_dst61 (by rfl) rfl) (run_move ag_op63 rfl) ?_
    simp only [Act.put, ag_dst63, List.setIfInBounds_toArray, List.set_cons_zero, List.set_cons_succ]
    refine seq_take (k := 64) (o := agOp 64) (v := .int .i64 N) ag_hi64 (want_other (c := true) ag_g64 ag_hi61 ag_dst61 (by rfl) rfl) (run_move ag_op64 rfl) ?_
    simp only [Act.put, ag_dst64, List.setIfInBounds_toArray, List.set_cons_zero, List.set_cons_succ]
    refine seq_take (k := 65) (o := agOp 65) (v := Y) ag_hi65 (want_other (c := true) ag_g65 ag_hi61 ag_dst61 (by rfl) rfl) (run_cutn ag_op65 rfl rfl (hcut _)) ?_
    simp only [Act.put, ag_dst65, List.setIfInBounds_toArray, List.set_cons_zero, List.set_cons_succ]
    refine seq_enter (k := 66) (o := agOp 66) ag_hi66 (want_other (c := true) ag_g66 ag_hi61 ag_dst61 (by rfl) rfl) (run_enter2 ag_op66 rfl rfl enter_same) (hsame _ hS) ?_
    clear hS
    intro w1 hS
    simp only [Act.put, ag_dst66, List.setIfInBounds_toArray, List.set_cons_zero, List.set_cons_succ]
    refine seq_take (k := 67) (o := agOp 67) (v := .bool true) ag_hi67 (want_other (c := true) ag_g67 ag_hi54 ag_dst54 (by rfl) rfl) (run_pickt ag_op67 rfl rfl) ?_
    simp only [Act.put, ag_dst67, List.setIfInBounds_toArray, List.set_cons_zero, List.set_cons_succ]
    refine seq_take (k := 68) (o := agOp 68) (v := .bool true) ag_hi68 (want_other (c := true) ag_g68 ag_hi54 ag_dst54 (by rfl) rfl) (run_move ag_op68 rfl) ?_
    simp only [Act.put, ag_dst68, List.setIfInBounds_toArray, List.set_cons_zero, List.set_cons_succ]
    refine seq_skip (k := 69) (o := agOp 69) ag_hi69 (want_not (c := true) ag_g69 ag_hi68 ag_dst68 (by rfl) rfl) ?_
    simp only [Act.put, ag_dst69, List.setIfInBounds_toArray, List.set_cons_zero, List.set_cons_succ]
    refine seq_skip (k := 70) (o := agOp 70) ag_hi70 (want_not (c := true) ag_g70 ag_hi68 ag_dst68 (by rfl) rfl) ?_
    simp only [Act.put, ag_dst70, List.setIfInBounds_toArray, List.set_cons_zero, List.set_cons_succ]
    refine seq_skip (k := 71) (o := agOp 71) ag_hi71 (want_not (c := true) ag_g71 ag_hi68 ag_dst68 (by rfl) rfl) ?_
    simp only [Act.put, ag_dst71, List.setIfInBounds_toArray, List.set_cons_zero, List.set_cons_succ]
    refine seq_skip (k := 72) (o := agOp 72) ag_hi72 (want_undef ag_g72 ag_hi71 ag_dst71 (by rfl)) ?_
    simp only [Act.put, ag_dst72, List.setIfInBounds_toArray, List.set_cons_zero, List.set_cons_succ]
    refine seq_skip (k := 73) (o := agOp 73) ag_hi73 (want_undef ag_g73 ag_hi71 ag_dst71 (by rfl)) ?_
    simp only [Act.put, ag_dst73, List.setIfInBounds_toArray, List.set_cons_zero, List.set_cons_succ]
    refine seq_skip (k := 74) (o := agOp 74) ag_hi74 (want_not (c := true) ag_g74 ag_hi68 ag_dst68 (by rfl) rfl) ?_
    simp only [Act.put, ag_dst74, List.setIfInBounds_toArray, List.set_cons_zero, List.set_cons_succ]
    refine seq_skip (k := 75) (o := agOp 75) ag_hi75 (want_not (c := true) ag_g75 ag_hi68 ag_dst68 (by rfl) rfl) ?_
    simp only [Act.put, ag_dst75, List.setIfInBounds_toArray, List.set_cons_zero, List.set_cons_succ]
    refine seq_skip (k := 76) (o := agOp 76) ag_hi76 (want_undef ag_g76 ag_hi75 ag_dst75 (by rfl)) ?_
    simp only [Act.put, ag_dst76, List.setIfInBounds_toArray, List.set_cons_zero, List.set_cons_succ]
    refine seq_skip (k := 77) (o := agOp 77) ag_hi77 (want_undef ag_g77 ag_hi75 ag_dst75 (by rfl)) ?_
    simp only [Act.put, ag_dst77, List.setIfInBounds_toArray, List.set_cons_zero, List.set_cons_succ]
    refine seq_skip (k := 78) (o := agOp 78) ag_hi78 (want_undef ag_g78 ag_hi75 ag_dst75 (by rfl)) ?_
    simp only [Act.put, ag_dst78, List.setIfInBounds_toArray, List.set_cons_zero, List.set_cons_succ]
    refine seq_skip (k := 79) (o := agOp 79) ag_hi79 (want_not (c := true) ag_g79 ag_hi68 ag_dst68 (by rfl) rfl) ?_
    simp only [Act.put, ag_dst79, List.setIfInBounds_toArray, List.set_cons_zero, List.set_cons_succ]
    refine seq_take (k := 80) (o := agOp 80) (v := .bool true) ag_hi80 (want_other (c := true) ag_g80 ag_hi54 ag_dst54 (by rfl) rfl) (run_pickt ag_op80 rfl rfl) ?_
    simp only [Act.put, ag_dst80, List.setIfInBounds_toArray, List.set_cons_zero, List.set_cons_succ]
    refine seq_take (k := 81) (o := agOp 81) (v := .bool true) ag_hi81 (want_none ag_g81) (run_pickt ag_op81 rfl rfl) ?_
    simp only [Act.put, ag_dst81, List.setIfInBounds_toArray, List.set_cons_zero, List.set_cons_succ]
    exact hnext _ _ _ _ _ _ _ _ _ _ _ _ _ _ _ _ _ _ _ _ _ _ _ _ _ _ _ _ hS
  · refine seq_take (k := 54) (o := agOp 54) (v := .bool true) ag_hi54 (want_none ag_g54) (run_move ag_op54 rfl) ?_
    simp only [Act.put, ag_dst54, List.setIfInBounds_toArray, List.set_cons_zero, List.set_cons_succ]
    refine seq_take (k := 55) (o := agOp 55) (v := .int .i64 E) ag_hi55 (want_other (c := true) ag_g55 ag_hi54 ag_dst54 (by rfl) rfl) (run_move ag_op55 rfl) ?_
    simp only [Act.put, ag_dst55, List.setIfInBounds_toArray, List.set_cons_zero, List.set_cons_succ]
    refine seq_take (k := 56) (o := agOp 56) (v := .bool false) ag_hi56 (want_other (c := true) ag_g56 ag_hi54 ag_dst54 (by rfl) rfl) (run_bin ag_op56 rfl rfl (eqg_int _ _ _ _ _ _ _) (bin_eqf _ hE _)) ?_
    simp only [Act.put, ag_dst56, List.setIfInBounds_toArray, List.set_cons_zero, List.set_cons_succ]
    refine seq_take (k := 57) (o := agOp 57) (v := .bool false) ag_hi57 (want_other (c := true) ag_g57 ag_hi54 ag_dst54 (by rfl) rfl) (run_move ag_op57 rfl) ?_
    simp only [Act.put, ag_dst57, List.setIfInBounds_toArray, List.set_cons_zero, List.set_cons_succ]
    refine seq_skip (k := 58) (o := agOp 58) ag_hi58 (want_not (c := false) ag_g58 ag_hi57 ag_dst57 (by rfl) rfl) ?_
    simp only [Act.put, ag_dst58, List.setIfInBounds_toArray, List.set_cons_zero, List.set_cons_succ]
    refine seq_skip (k := 59) (o := agOp 59) ag_hi59 (want_not (c := false) ag_g59 ag_hi57 ag_dst57 (by rfl) rfl) ?_
    simp only [Act.put, ag_dst59, List.setIfInBounds_toArray, List.set_cons_zero, List.set_cons_succ]
    refine seq_take (k := 60) (o := agOp 60) (v := .bool false) ag_hi60 (want_other (c := true) ag_g60 ag_hi54 ag_dst54 (by rfl) rfl) (run_pickf ag_op60 rfl rfl) ?_
    simp only [Act.put, ag_dst60, List.setIfInBounds_toArray, List.set_cons_zero, List.set_cons_succ]
    refine seq_take (k := 61) (o := agOp 61) (v := .bool false) ag_hi61 (want_other (c := true) ag_g61 ag_hi54 ag_dst54 (by rfl) rfl) (run_move ag_op61 rfl) ?_
    simp only [Act.put, ag_dst61, List.setIfInBounds_toArray, List.set_cons_zero, List.set_cons_succ]
    refine seq_skip (k := 62) (o := agOp 62) ag_hi62 (want_not (c := false) ag_g62 ag_hi61 ag_dst61 (by rfl) rfl) ?_
    simp only [Act.put, ag_dst62, List.setIfInBounds_toArray, List.set_cons_zero, List.set_cons_succ]
    refine seq_skip (k := 63) (o := agOp 63) ag_hi63 (want_not (c := false) ag_g63 ag_hi61 ag_dst61 (by rfl) rfl) ?_
    simp only [Act.put, ag_dst63, List.setIfInBounds_toArray, List.set_cons_zero, List.set_cons_succ]
    refine seq_skip (k := 64) (o := agOp 64) ag_hi64 (want_not (c := false) ag_g64 ag_hi61 ag_dst61 (by rfl) rfl) ?_
    simp only [Act.put, ag_dst64, List.setIfInBounds_toArray, List.set_cons_zero, List.set_cons_succ]
    refine seq_skip (k := 65) (o := agOp 65) ag_hi65 (want_not (c := false) ag_g65 ag_hi61 ag_dst61 (by rfl) rfl) ?_
    simp only [Act.put, ag_dst65, List.setIfInBounds_toArray, List.set_cons_zero, List.set_cons_succ]
    refine seq_skip (k := 66) (o := agOp 66) ag_hi66 (want_not (c := false) ag_g66 ag_hi61 ag_dst61 (by rfl) rfl) ?_
    simp only [Act.put, ag_dst66, List.setIfInBounds_toArray, List.set_cons_zero, List.set_cons_succ]
    refine seq_take (k := 67) (o := agOp 67) (v := .bool false) ag_hi67 (want_other (c := true) ag_g67 ag_hi54 ag_dst54 (by rfl) rfl) (run_pickf ag_op67 rfl rfl) ?_
    simp only [Act.put, ag_dst67, List.setIfInBounds_toArray, List.set_cons_zero, List.set_cons_succ]
    refine seq_take (k := 68) (o := agOp 68) (v := .bool false) ag_hi68 (want_other (c := true) ag_g68 ag_hi54 ag_dst54 (by rfl) rfl) (run_move ag_op68 rfl) ?_
    simp only [Act.put, ag_dst68, List.setIfInBounds_toArray, List.set_cons_zero, List.set_cons_succ]
    refine seq_take (k := 69) (o := agOp 69) (v := .int .i64 E) ag_hi69 (want_other (c := false) ag_g69 ag_hi68 ag_dst68 (by rfl) rfl) (run_move ag_op69 rfl) ?_
    simp only [Act.put, ag_dst69, List.setIfInBounds_toArray, List.set_cons_zero, List.set_cons_succ]
    refine seq_take (k := 70) (o := agOp 70) (v := .bool true) ag_hi70 (want_other (c := false) ag_g70 ag_hi68 ag_dst68 (by rfl) rfl) (run_bin ag_op70 rfl rfl (neqg_int _ _ _ _ _ _ _) (bin_net _ hE _)) ?_
    simp only [Act.put, ag_dst70, List.setIfInBounds_toArray, List.set_cons_zero, List.set_cons_succ]
    refine seq_take (k := 71) (o := agOp 71) (v := .bool true) ag_hi71 (want_other (c := false) ag_g71 ag_hi68 ag_dst68 (by rfl) rfl) (run_move ag_op71 rfl) ?_
    simp only [Act.put, ag_dst71, List.setIfInBounds_toArray, List.set_cons_zero, List.set_cons_succ]
    refine seq_take (k := 72) (o := agOp 72) (v := .int .i64 0) ag_hi72 (want_other (c := true) ag_g72 ag_hi71 ag_dst71 (by rfl) rfl) (run_move ag_op72 rfl) ?_
    simp only [Act.put, ag_dst72, List.setIfInBounds_toArray, List.set_cons_zero, List.set_cons_succ]
    refine seq_take (k := 73) (o := agOp 73) (v := .bool true) ag_hi73 (want_other (c := true) ag_g73 ag_hi71 ag_dst71 (by rfl) rfl) (run_bin ag_op73 rfl rfl (eqg_int _ _ _ _ _ _ _) (eq_int _ _)) ?_
    simp only [Act.put, ag_dst73, List.setIfInBounds_toArray, List.set_cons_zero, List.set_cons_succ]
    refine seq_take (k := 74) (o := agOp 74) (v := .bool true) ag_hi74 (want_other (c := false) ag_g74 ag_hi68 ag_dst68 (by rfl) rfl) (run_pickt ag_op74 rfl rfl) ?_
    simp only [Act.put, ag_dst74, List.setIfInBounds_toArray, List.set_cons_zero, List.set_cons_succ]
    refine seq_take (k := 75) (o := agOp 75) (v := .bool true) ag_hi75 (want_other (c := false) ag_g75 ag_hi68 ag_dst68 (by rfl) rfl) (run_move ag_op75 rfl) ?_
    simp only [Act.put, ag_dst75, List.setIfInBounds_toArray, List.set_cons_zero, List.set_cons_succ]
    refine seq_take (k := 76) (o := agOp 76) (v := .agg #[.bool false, .int .u64 0, .int .u32 0, .int .u32 0, .int .u32 0, .int .u32 0, .bool false, .int .u32 0, .int .u32 0, .int .u32 0, .int .u32 0, .int .u32 0, .int .u64 0, .int .u64 0, .int .u64 0, .int .u32 0, .int .u32 0, .int .u32 0, .int .u32 0, .int .u32 0, .int .u32 0]) ag_hi76 (want_other (c := true) ag_g76 ag_hi75 ag_dst75 (by rfl) rfl) (run_load_row _ _ ag_op76 h1 rfl _ _ (0, 0) _ (hrow _ hS) Try.underlying46 rfl hinf) ?_
    simp only [Act.put, ag_dst76, List.setIfInBounds_toArray, List.set_cons_zero, List.set_cons_succ]
    refine seq_take (k := 77) (o := agOp 77) (v := .agg #[.bool false, .int .u64 0, .int .u32 0, .int .u32 0, .int .u32 0, .int .u32 0, .bool false, .int .u32 0, .int .u32 0, .int .u32 0, .int .u32 0, .int .u32 0, .int .u64 0, .int .u64 0, .int .u64 0, .int .u32 0, .int .u32 0, .int .u32 0, .int .u32 0, .int .u32 0, .int .u32 0]) ag_hi77 (want_other (c := true) ag_g77 ag_hi75 ag_dst75 (by rfl) rfl) (run_buildw ag_op77) ?_
    simp only [Act.put, ag_dst77, List.setIfInBounds_toArray, List.set_cons_zero, List.set_cons_succ]
    refine seq_take (k := 78) (o := agOp 78) (v := .bool true) ag_hi78 (want_other (c := true) ag_g78 ag_hi75 ag_dst75 (by rfl) rfl) (run_bin ag_op78 rfl rfl (eqg_wk _ _ _ _ _) (heq _)) ?_
    simp only [Act.put, ag_dst78, List.setIfInBounds_toArray, List.set_cons_zero, List.set_cons_succ]
    refine seq_take (k := 79) (o := agOp 79) (v := .bool true) ag_hi79 (want_other (c := false) ag_g79 ag_hi68 ag_dst68 (by rfl) rfl) (run_pickt ag_op79 rfl rfl) ?_
    simp only [Act.put, ag_dst79, List.setIfInBounds_toArray, List.set_cons_zero, List.set_cons_succ]
    refine seq_take (k := 80) (o := agOp 80) (v := .bool true) ag_hi80 (want_other (c := true) ag_g80 ag_hi54 ag_dst54 (by rfl) rfl) (run_pickf ag_op80 rfl rfl) ?_
    simp only [Act.put, ag_dst80, List.setIfInBounds_toArray, List.set_cons_zero, List.set_cons_succ]
    refine seq_take (k := 81) (o := agOp 81) (v := .bool true) ag_hi81 (want_none ag_g81) (run_pickt ag_op81 rfl rfl) ?_
    simp only [Act.put, ag_dst81, List.setIfInBounds_toArray, List.set_cons_zero, List.set_cons_succ]
    exact hnext _ _ _ _ _ _ _ _ _ _ _ _ _ _ _ _ _ _ _ _ _ _ _ _ _ _ _ _ hS
end Go.Proofs.Ytecbhhfncklefab
