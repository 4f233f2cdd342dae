/- 'bytes' and 'Put' of the document: what is told of a node, as bytes of their own; nothing that was there turns. -/
import Derived.Test.YtecbhhfncklefaaDoorRefMayMx
import Derived.Test.YtecbhhfncklefaaDoorRefPut4RefTPutRefPutLMx
namespace Go.Proofs.YtecbhhfncklefaaDoor
set_option linter.unusedVariables false
open Go.RowKit

theorem refput_piece (n : Int) (h0 : 0 ≤ n) (h1 : n ≤ 4294967295) (w : World) : Calls Tryd.prog 28 #[.int .u32 n] w fun e W' => ∃ g c, e = .returned (.slice (some ⟨g, 0, none⟩) 4 c) ∧ Seg W' (some ⟨g, 0, none⟩) (bytesOf n 4) ∧ Below w.heap.size w W' :=
  (refPut_seg n h0 h1 w).mono fun e W' ⟨g, h⟩ => ⟨g, 4, h⟩
theorem reft_piece (s n : Int) (w : World) (s0 : 0 ≤ s) (s1 : s ≤ 4294967295) (n0 : 0 ≤ n) (n1 : n ≤ 4294967295) : Calls Tryd.prog 34 #[.agg #[.int .u32 s, .int .u32 n]] w fun e W' => ∃ g c, e = .returned (.slice (some ⟨g, 0, none⟩) 8 c) ∧ Seg W' (some ⟨g, 0, none⟩) (tB s n) ∧ Below w.heap.size w W' := by
  refine (reftput_any s n w s0 s1 n0 n1).mono ?_
  rintro e W' ⟨g, c, rfl, _, _, ho, hb⟩
  exact ⟨g, c, rfl, seg_own ho (tB_length s n), hb⟩

set_option maxRecDepth 100000 in
set_option maxHeartbeats 4000000 in
theorem refbytes_any (x : Atr) (w : World) (hx : x.In) : Calls Tryd.prog 16 #[.agg #[.int .u32 x.kind, .int .u32 x.mode, .int .u32 x.links, .int .u32 x.user, .int .u32 x.group, .int .u64 x.size, .int .u64 x.used, .int .u64 x.id, .int .u32 x.rs, .int .u32 x.rn, .int .u32 x.ws, .int .u32 x.wn, .int .u32 x.ts, .int .u32 x.tn]] w fun e w' => ∃ G c, e = .returned (.slice (some ⟨G, 0, none⟩) 84 c) ∧ 84 ≤ c ∧ c ≤ 9223372036854775807 ∧
      w'.ownsRow w.heap.size 5 1 (.slice (some ⟨G, 0, none⟩) 84 c) 84 ((aB x).map (Value.int .u8)) ∧ Below w.heap.size w w' := by
  obtain ⟨i0, hi, hz0, hz1, hz2⟩ := info_parts infoU8r
  obtain ⟨x1, x2, x3, x4, x5, x6, x7, x8, x9, x10, x11, x12, x13, x14⟩ := hx
  have a0 := Ap.new w x
  have hB0 : Below w.heap.size w (w.alloc (.cells #[.int .u32 x.kind, .int .u32 x.mode, .int .u32 x.links, .int .u32 x.user, .int .u32 x.group, .int .u64 x.size, .int .u64 x.used, .int .u64 x.id, .int .u32 x.rs, .int .u32 x.rn, .int .u32 x.ws, .int .u32 x.wn, .int .u32 x.ts, .int .u32 x.tn] 28)) := (Below.refl _ _).alloc (Nat.le_refl _) _
  obtain ⟨c0, c1, c2, c3, c4, c5, c6, c7, c8, c9, c10, c11, c12, c13⟩ := a0.c
  have hA0 := a0.alloc (.cells #[.int .u32 x.kind, .int .u32 x.mode, .int .u32 x.links, .int .u32 x.user, .int .u32 x.group] 22)
  have hL0 := World.alloc_heap_new (w.alloc (.cells #[.int .u32 x.kind, .int .u32 x.mode, .int .u32 x.links, .int .u32 x.user, .int .u32 x.group, .int .u64 x.size, .int .u64 x.used, .int .u64 x.id, .int .u32 x.rs, .int .u32 x.rn, .int .u32 x.ws, .int .u32 x.wn, .int .u32 x.ts, .int .u32 x.tn] 28)) (.cells #[.int .u32 x.kind, .int .u32 x.mode, .int .u32 x.links, .int .u32 x.user, .int .u32 x.group] 22)
  have hb1 := hB0.alloc hB0.size (.cells #[.int .u32 x.kind, .int .u32 x.mode, .int .u32 x.links, .int .u32 x.user, .int .u32 x.group] 22)
  rw [show (w.alloc (.cells #[.int .u32 x.kind, .int .u32 x.mode, .int .u32 x.links, .int .u32 x.user, .int .u32 x.group, .int .u64 x.size, .int .u64 x.used, .int .u64 x.id, .int .u32 x.rs, .int .u32 x.rn, .int .u32 x.ws, .int .u32 x.wn, .int .u32 x.ts, .int .u32 x.tn] 28)).heap.size = w.heap.size + 1 by simp] at hL0
  go_enter Tryd.func16, Tryd.ntmps16
  go_wp2
  refine wp_loop_rounds 6 ?_
  rw [rounds_succ]
  generalize hW0 : ((w.alloc (.cells #[.int .u32 x.kind, .int .u32 x.mode, .int .u32 x.links, .int .u32 x.user, .int .u32 x.group, .int .u64 x.size, .int .u64 x.used, .int .u64 x.id, .int .u32 x.rs, .int .u32 x.rn, .int .u32 x.ws, .int .u32 x.wn, .int .u32 x.ts, .int .u32 x.tn] 28)).alloc (.cells #[.int .u32 x.kind, .int .u32 x.mode, .int .u32 x.links, .int .u32 x.user, .int .u32 x.group] 22)) = W0 at *
  clear hW0 c0 c1 c2 c3 c4 c5 c6 c7 c8 c9 c10 c11 c12 c13 a0 hB0
  have l0 : W0.cell? ⟨w.heap.size + 1, 0, none⟩ = some (.int .u32 x.kind) := by simp only [World.cell?, hL0]; rfl
  have o0 := own_empty W0 W0.heap.size 5
  have h0 := Below.refl W0.heap.size W0
  have hAlt := hA0.lt
  have hLlt := (Array.getElem?_eq_some_iff.1 hL0).1
  go_wp2_with fail
  refine (refput_piece x.kind (by omega) (by omega) W0).mono ?_
  rintro e W1 ⟨g0, k0, rfl, s0, b0⟩
  have h1 := h0.trans (b0.mono h0.size)
  have p0 := own_below o0 b0
  have n0 := bytesOf_length x.kind 4
  clear b0 h0 o0 l0
  go_wp2_with (at_builtin; refine wpList_append_each _ rfl _ _ 29 rfl W0.heap.size 5 i0 (.int .u8 0) 1 1 Tryd.underlying29 hi hz0 hz1 hz2 rfl (by decide) (.slice none 0 0) 0 _ rfl p0 (some ⟨g0, 0, none⟩) 4 k0 ((bytesOf x.kind 4).map (Value.int .u8)) rfl (by simp) (by rw [List.length_map, n0]) (fun b e => seg_news (by rw [← e]; exact s0)) (news_one _) (by unfold maxLen; omega) (by omega) h1.size ?_; intro v0 W2 q0 r0; have h2 : Below W0.heap.size W0 W2 := h1.grown r0 h1.size (fun k e => own_low p0 e); rw [List.nil_append, Nat.add_comm] at q0; obtain ⟨G0, C0, e0, _, _, _⟩ := own_shape q0 (by omega); subst e0; clear r0 p0 s0 n0)
  have o2 : W2.ownsRow W0.heap.size 5 1 (.slice (some ⟨G0, 0, none⟩) 4 C0) 4 ((bytesOf x.kind 4).map (Value.int .u8)) := q0
  clear q0
  have l1 : W2.cell? ⟨w.heap.size + 1, 1, none⟩ = some (.int .u32 x.mode) := by
    have hl := (h2.block _ hLlt).trans hL0
    simp only [World.cell?, hl]; rfl
  rw [rounds_succ]
  go_wp2_with fail
  refine (refput_piece x.mode (by omega) (by omega) W2).mono ?_
  rintro e W3 ⟨g1, k1, rfl, s1, b1⟩
  have h3 := h2.trans (b1.mono h2.size)
  have p1 := own_below o2 b1
  have n1 := bytesOf_length x.mode 4
  clear b1 h2 o2 l1
  go_wp2_with (at_builtin; refine wpList_append_each _ rfl _ _ 29 rfl W0.heap.size 5 i0 (.int .u8 0) 1 1 Tryd.underlying29 hi hz0 hz1 hz2 rfl (by decide) (.slice (some ⟨G0, 0, none⟩) 4 C0) 4 _ rfl p1 (some ⟨g1, 0, none⟩) 4 k1 ((bytesOf x.mode 4).map (Value.int .u8)) rfl (by simp) (by rw [List.length_map, n1]) (fun b e => seg_news (by rw [← e]; exact s1)) (news_one _) (by unfold maxLen; omega) (by omega) h3.size ?_; intro v1 W4 q1 r1; have h4 : Below W0.heap.size W0 W4 := h3.grown r1 h3.size (fun k e => own_low p1 e); rw [← List.map_append, Nat.add_comm] at q1; obtain ⟨G1, C1, e1, _, _, _⟩ := own_shape q1 (by omega); subst e1; clear r1 p1 s1 n1)
  have o4 : W4.ownsRow W0.heap.size 5 1 (.slice (some ⟨G1, 0, none⟩) 8 C1) 8 (((bytesOf x.kind 4 ++ bytesOf x.mode 4)).map (Value.int .u8)) := q1
  clear q1
  have l2 : W4.cell? ⟨w.heap.size + 1, 2, none⟩ = some (.int .u32 x.links) := by
    have hl := (h4.block _ hLlt).trans hL0
    simp only [World.cell?, hl]; rfl
  rw [rounds_succ]
  go_wp2_with fail
  refine (refput_piece x.links (by omega) (by omega) W4).mono ?_
  rintro e W5 ⟨g2, k2, rfl, s2, b2⟩
  have h5 := h4.trans (b2.mono h4.size)
  have p2 := own_below o4 b2
  have n2 := bytesOf_length x.links 4
  clear b2 h4 o4 l2
  go_wp2_with (at_builtin; refine wpList_append_each _ rfl _ _ 29 rfl W0.heap.size 5 i0 (.int .u8 0) 1 1 Tryd.underlying29 hi hz0 hz1 hz2 rfl (by decide) (.slice (some ⟨G1, 0, none⟩) 8 C1) 8 _ rfl p2 (some ⟨g2, 0, none⟩) 4 k2 ((bytesOf x.links 4).map (Value.int .u8)) rfl (by simp) (by rw [List.length_map, n2]) (fun b e => seg_news (by rw [← e]; exact s2)) (news_one _) (by unfold maxLen; omega) (by omega) h5.size ?_; intro v2 W6 q2 r2; have h6 : Below W0.heap.size W0 W6 := h5.grown r2 h5.size (fun k e => own_low p2 e); rw [← List.map_append, Nat.add_comm] at q2; obtain ⟨G2, C2, e2, _, _, _⟩ := own_shape q2 (by omega); subst e2; clear r2 p2 s2 n2)
  have o6 : W6.ownsRow W0.heap.size 5 1 (.slice (some ⟨G2, 0, none⟩) 12 C2) 12 ((((bytesOf x.kind 4 ++ bytesOf x.mode 4) ++ bytesOf x.links 4)).map (Value.int .u8)) := q2
  clear q2
  have l3 : W6.cell? ⟨w.heap.size + 1, 3, none⟩ = some (.int .u32 x.user) := by
    have hl := (h6.block _ hLlt).trans hL0
    simp only [World.cell?, hl]; rfl
  rw [rounds_succ]
  go_wp2_with fail
  refine (refput_piece x.user (by omega) (by omega) W6).mono ?_
  rintro e W7 ⟨g3, k3, rfl, s3, b3⟩
  have h7 := h6.trans (b3.mono h6.size)
  have p3 := own_below o6 b3
  have n3 := bytesOf_length x.user 4
  clear b3 h6 o6 l3
  go_wp2_with (at_builtin; refine wpList_append_each _ rfl _ _ 29 rfl W0.heap.size 5 i0 (.int .u8 0) 1 1 Tryd.underlying29 hi hz0 hz1 hz2 rfl (by decide) (.slice (some ⟨G2, 0, none⟩) 12 C2) 12 _ rfl p3 (some ⟨g3, 0, none⟩) 4 k3 ((bytesOf x.user 4).map (Value.int .u8)) rfl (by simp) (by rw [List.length_map, n3]) (fun b e => seg_news (by rw [← e]; exact s3)) (news_one _) (by unfold maxLen; omega) (by omega) h7.size ?_; intro v3 W8 q3 r3; have h8 : Below W0.heap.size W0 W8 := h7.grown r3 h7.size (fun k e => own_low p3 e); rw [← List.map_append, Nat.add_comm] at q3; obtain ⟨G3, C3, e3, _, _, _⟩ := own_shape q3 (by omega); subst e3; clear r3 p3 s3 n3)
  have o8 : W8.ownsRow W0.heap.size 5 1 (.slice (some ⟨G3, 0, none⟩) 16 C3) 16 (((((bytesOf x.kind 4 ++ bytesOf x.mode 4) ++ bytesOf x.links 4) ++ bytesOf x.user 4)).map (Value.int .u8)) := q3
  clear q3
  have l4 : W8.cell? ⟨w.heap.size + 1, 4, none⟩ = some (.int .u32 x.group) := by
    have hl := (h8.block _ hLlt).trans hL0
    simp only [World.cell?, hl]; rfl
  rw [rounds_succ]
  go_wp2_with fail
  refine (refput_piece x.group (by omega) (by omega) W8).mono ?_
  rintro e W9 ⟨g4, k4, rfl, s4, b4⟩
  have h9 := h8.trans (b4.mono h8.size)
  have p4 := own_below o8 b4
  have n4 := bytesOf_length x.group 4
  clear b4 h8 o8 l4
  go_wp2_with (at_builtin; refine wpList_append_each _ rfl _ _ 29 rfl W0.heap.size 5 i0 (.int .u8 0) 1 1 Tryd.underlying29 hi hz0 hz1 hz2 rfl (by decide) (.slice (some ⟨G3, 0, none⟩) 16 C3) 16 _ rfl p4 (some ⟨g4, 0, none⟩) 4 k4 ((bytesOf x.group 4).map (Value.int .u8)) rfl (by simp) (by rw [List.length_map, n4]) (fun b e => seg_news (by rw [← e]; exact s4)) (news_one _) (by unfold maxLen; omega) (by omega) h9.size ?_; intro v4 W10 q4 r4; have h10 : Below W0.heap.size W0 W10 := h9.grown r4 h9.size (fun k e => own_low p4 e); rw [← List.map_append, Nat.add_comm] at q4; obtain ⟨G4, C4, e4, _, _, _⟩ := own_shape q4 (by omega); subst e4; clear r4 p4 s4 n4)
  have o10 : W10.ownsRow W0.heap.size 5 1 (.slice (some ⟨G4, 0, none⟩) 20 C4) 20 ((((((bytesOf x.kind 4 ++ bytesOf x.mode 4) ++ bytesOf x.links 4) ++ bytesOf x.user 4) ++ bytesOf x.group 4)).map (Value.int .u8)) := q4
  clear q4
  rw [rounds_succ]
  obtain ⟨d0, d1, d2, d3, d4, d5, d6, d7, d8, d9, d10, d11, d12, d13⟩ := (hA0.kept (h10.block _ hAlt) : Ap W10 w.heap.size x).c
  go_wp2_with fail
  refine (refPutLong_any x.size (by omega) (by omega) W10).mono ?_
  rintro e W11 ⟨g5, k5, rfl, s5, b5⟩
  have h11 := h10.trans (b5.mono h10.size)
  have p5 := own_below o10 b5
  have n5 := bytesOf_length x.size 8
  clear b5 h10 o10 d0 d1 d2 d3 d4 d5 d6 d7 d8 d9 d10 d11 d12 d13
  go_wp2_with (at_builtin; refine wpList_append_each _ rfl _ _ 29 rfl W0.heap.size 5 i0 (.int .u8 0) 1 1 Tryd.underlying29 hi hz0 hz1 hz2 rfl (by decide) (.slice (some ⟨G4, 0, none⟩) 20 C4) 20 _ rfl p5 (some ⟨g5, 0, none⟩) 8 k5 ((bytesOf x.size 8).map (Value.int .u8)) rfl (by simp) (by rw [List.length_map, n5]) (fun b e => seg_news (by rw [← e]; exact s5)) (news_one _) (by unfold maxLen; omega) (by omega) h11.size ?_; intro v5 W12 q5 r5; have h12 : Below W0.heap.size W0 W12 := h11.grown r5 h11.size (fun k e => own_low p5 e); rw [← List.map_append, Nat.add_comm] at q5; obtain ⟨G5, C5, e5, _, _, _⟩ := own_shape q5 (by omega); subst e5; clear r5 p5 s5 n5; obtain ⟨d0, d1, d2, d3, d4, d5, d6, d7, d8, d9, d10, d11, d12, d13⟩ := (hA0.kept (h12.block _ hAlt) : Ap W12 w.heap.size x).c)
  have o12 : W12.ownsRow W0.heap.size 5 1 (.slice (some ⟨G5, 0, none⟩) 28 C5) 28 (((((((bytesOf x.kind 4 ++ bytesOf x.mode 4) ++ bytesOf x.links 4) ++ bytesOf x.user 4) ++ bytesOf x.group 4) ++ bytesOf x.size 8)).map (Value.int .u8)) := q5
  clear q5
  go_wp2_with fail
  refine (refPutLong_any x.used (by omega) (by omega) W12).mono ?_
  rintro e W13 ⟨g6, k6, rfl, s6, b6⟩
  have h13 := h12.trans (b6.mono h12.size)
  have p6 := own_below o12 b6
  have n6 := bytesOf_length x.used 8
  clear b6 h12 o12 d0 d1 d2 d3 d4 d5 d6 d7 d8 d9 d10 d11 d12 d13
  go_wp2_with (at_builtin; refine wpList_append_each _ rfl _ _ 29 rfl W0.heap.size 5 i0 (.int .u8 0) 1 1 Tryd.underlying29 hi hz0 hz1 hz2 rfl (by decide) (.slice (some ⟨G5, 0, none⟩) 28 C5) 28 _ rfl p6 (some ⟨g6, 0, none⟩) 8 k6 ((bytesOf x.used 8).map (Value.int .u8)) rfl (by simp) (by rw [List.length_map, n6]) (fun b e => seg_news (by rw [← e]; exact s6)) (news_one _) (by unfold maxLen; omega) (by omega) h13.size ?_; intro v6 W14 q6 r6; have h14 : Below W0.heap.size W0 W14 := h13.grown r6 h13.size (fun k e => own_low p6 e); rw [← List.map_append, Nat.add_comm] at q6; obtain ⟨G6, C6, e6, _, _, _⟩ := own_shape q6 (by omega); subst e6; clear r6 p6 s6 n6; obtain ⟨d0, d1, d2, d3, d4, d5, d6, d7, d8, d9, d10, d11, d12, d13⟩ := (hA0.kept (h14.block _ hAlt) : Ap W14 w.heap.size x).c)
  have o14 : W14.ownsRow W0.heap.size 5 1 (.slice (some ⟨G6, 0, none⟩) 36 C6) 36 ((((((((bytesOf x.kind 4 ++ bytesOf x.mode 4) ++ bytesOf x.links 4) ++ bytesOf x.user 4) ++ bytesOf x.group 4) ++ bytesOf x.size 8) ++ bytesOf x.used 8)).map (Value.int .u8)) := q6
  clear q6
  go_wp2_with fail
  refine (refPutLong_any 0 (by omega) (by omega) W14).mono ?_
  rintro e W15 ⟨g7, k7, rfl, s7, b7⟩
  have h15 := h14.trans (b7.mono h14.size)
  have p7 := own_below o14 b7
  have n7 := bytesOf_length 0 8
  clear b7 h14 o14 d0 d1 d2 d3 d4 d5 d6 d7 d8 d9 d10 d11 d12 d13
  go_wp2_with (at_builtin; refine wpList_append_each _ rfl _ _ 29 rfl W0.heap.size 5 i0 (.int .u8 0) 1 1 Tryd.underlying29 hi hz0 hz1 hz2 rfl (by decide) (.slice (some ⟨G6, 0, none⟩) 36 C6) 36 _ rfl p7 (some ⟨g7, 0, none⟩) 8 k7 ((bytesOf 0 8).map (Value.int .u8)) rfl (by simp) (by rw [List.length_map, n7]) (fun b e => seg_news (by rw [← e]; exact s7)) (news_one _) (by unfold maxLen; omega) (by omega) h15.size ?_; intro v7 W16 q7 r7; have h16 : Below W0.heap.size W0 W16 := h15.grown r7 h15.size (fun k e => own_low p7 e); rw [← List.map_append, Nat.add_comm] at q7; obtain ⟨G7, C7, e7, _, _, _⟩ := own_shape q7 (by omega); subst e7; clear r7 p7 s7 n7; obtain ⟨d0, d1, d2, d3, d4, d5, d6, d7, d8, d9, d10, d11, d12, d13⟩ := (hA0.kept (h16.block _ hAlt) : Ap W16 w.heap.size x).c)
  have o16 : W16.ownsRow W0.heap.size 5 1 (.slice (some ⟨G7, 0, none⟩) 44 C7) 44 (((((((((bytesOf x.kind 4 ++ bytesOf x.mode 4) ++ bytesOf x.links 4) ++ bytesOf x.user 4) ++ bytesOf x.group 4) ++ bytesOf x.size 8) ++ bytesOf x.used 8) ++ bytesOf 0 8)).map (Value.int .u8)) := q7
  clear q7
  go_wp2_with fail
  refine (refPutLong_any 1 (by omega) (by omega) W16).mono ?_
  rintro e W17 ⟨g8, k8, rfl, s8, b8⟩
  have h17 := h16.trans (b8.mono h16.size)
  have p8 := own_below o16 b8
  have n8 := bytesOf_length 1 8
  clear b8 h16 o16 d0 d1 d2 d3 d4 d5 d6 d7 d8 d9 d10 d11 d12 d13
  go_wp2_with (at_builtin; refine wpList_append_each _ rfl _ _ 29 rfl W0.heap.size 5 i0 (.int .u8 0) 1 1 Tryd.underlying29 hi hz0 hz1 hz2 rfl (by decide) (.slice (some ⟨G7, 0, none⟩) 44 C7) 44 _ rfl p8 (some ⟨g8, 0, none⟩) 8 k8 ((bytesOf 1 8).map (Value.int .u8)) rfl (by simp) (by rw [List.length_map, n8]) (fun b e => seg_news (by rw [← e]; exact s8)) (news_one _) (by unfold maxLen; omega) (by omega) h17.size ?_; intro v8 W18 q8 r8; have h18 : Below W0.heap.size W0 W18 := h17.grown r8 h17.size (fun k e => own_low p8 e); rw [← List.map_append, Nat.add_comm] at q8; obtain ⟨G8, C8, e8, _, _, _⟩ := own_shape q8 (by omega); subst e8; clear r8 p8 s8 n8; obtain ⟨d0, d1, d2, d3, d4, d5, d6, d7, d8, d9, d10, d11, d12, d13⟩ := (hA0.kept (h18.block _ hAlt) : Ap W18 w.heap.size x).c)
  have o18 : W18.ownsRow W0.heap.size 5 1 (.slice (some ⟨G8, 0, none⟩) 52 C8) 52 ((((((((((bytesOf x.kind 4 ++ bytesOf x.mode 4) ++ bytesOf x.links 4) ++ bytesOf x.user 4) ++ bytesOf x.group 4) ++ bytesOf x.size 8) ++ bytesOf x.used 8) ++ bytesOf 0 8) ++ bytesOf 1 8)).map (Value.int .u8)) := q8
  clear q8
  go_wp2_with fail
  refine (refPutLong_any x.id (by omega) (by omega) W18).mono ?_
  rintro e W19 ⟨g9, k9, rfl, s9, b9⟩
  have h19 := h18.trans (b9.mono h18.size)
  have p9 := own_below o18 b9
  have n9 := bytesOf_length x.id 8
  clear b9 h18 o18 d0 d1 d2 d3 d4 d5 d6 d7 d8 d9 d10 d11 d12 d13
  go_wp2_with (at_builtin; refine wpList_append_each _ rfl _ _ 29 rfl W0.heap.size 5 i0 (.int .u8 0) 1 1 Tryd.underlying29 hi hz0 hz1 hz2 rfl (by decide) (.slice (some ⟨G8, 0, none⟩) 52 C8) 52 _ rfl p9 (some ⟨g9, 0, none⟩) 8 k9 ((bytesOf x.id 8).map (Value.int .u8)) rfl (by simp) (by rw [List.length_map, n9]) (fun b e => seg_news (by rw [← e]; exact s9)) (news_one _) (by unfold maxLen; omega) (by omega) h19.size ?_; intro v9 W20 q9 r9; have h20 : Below W0.heap.size W0 W20 := h19.grown r9 h19.size (fun k e => own_low p9 e); rw [← List.map_append, Nat.add_comm] at q9; obtain ⟨G9, C9, e9, _, _, _⟩ := own_shape q9 (by omega); subst e9; clear r9 p9 s9 n9; obtain ⟨d0, d1, d2, d3, d4, d5, d6, d7, d8, d9, d10, d11, d12, d13⟩ := (hA0.kept (h20.block _ hAlt) : Ap W20 w.heap.size x).c)
  have o20 : W20.ownsRow W0.heap.size 5 1 (.slice (some ⟨G9, 0, none⟩) 60 C9) 60 (((((((((((bytesOf x.kind 4 ++ bytesOf x.mode 4) ++ bytesOf x.links 4) ++ bytesOf x.user 4) ++ bytesOf x.group 4) ++ bytesOf x.size 8) ++ bytesOf x.used 8) ++ bytesOf 0 8) ++ bytesOf 1 8) ++ bytesOf x.id 8)).map (Value.int .u8)) := q9
  clear q9
  go_wp2_with fail
  refine (reft_piece x.rs x.rn W20 (by omega) (by omega) (by omega) (by omega)).mono ?_
  rintro e W21 ⟨g10, k10, rfl, s10, b10⟩
  have h21 := h20.trans (b10.mono h20.size)
  have p10 := own_below o20 b10
  have n10 := tB_length x.rs x.rn
  clear b10 h20 o20 d0 d1 d2 d3 d4 d5 d6 d7 d8 d9 d10 d11 d12 d13
  go_wp2_with (at_builtin; refine wpList_append_each _ rfl _ _ 29 rfl W0.heap.size 5 i0 (.int .u8 0) 1 1 Tryd.underlying29 hi hz0 hz1 hz2 rfl (by decide) (.slice (some ⟨G9, 0, none⟩) 60 C9) 60 _ rfl p10 (some ⟨g10, 0, none⟩) 8 k10 ((tB x.rs x.rn).map (Value.int .u8)) rfl (by simp) (by rw [List.length_map, n10]) (fun b e => seg_news (by rw [← e]; exact s10)) (news_one _) (by unfold maxLen; omega) (by omega) h21.size ?_; intro v10 W22 q10 r10; have h22 : Below W0.heap.size W0 W22 := h21.grown r10 h21.size (fun k e => own_low p10 e); rw [← List.map_append, Nat.add_comm] at q10; obtain ⟨G10, C10, e10, _, _, _⟩ := own_shape q10 (by omega); subst e10; clear r10 p10 s10 n10; obtain ⟨d0, d1, d2, d3, d4, d5, d6, d7, d8, d9, d10, d11, d12, d13⟩ := (hA0.kept (h22.block _ hAlt) : Ap W22 w.heap.size x).c)
  have o22 : W22.ownsRow W0.heap.size 5 1 (.slice (some ⟨G10, 0, none⟩) 68 C10) 68 ((((((((((((bytesOf x.kind 4 ++ bytesOf x.mode 4) ++ bytesOf x.links 4) ++ bytesOf x.user 4) ++ bytesOf x.group 4) ++ bytesOf x.size 8) ++ bytesOf x.used 8) ++ bytesOf 0 8) ++ bytesOf 1 8) ++ bytesOf x.id 8) ++ tB x.rs x.rn)).map (Value.int .u8)) := q10
  clear q10
  go_wp2_with fail
  refine (reft_piece x.ws x.wn W22 (by omega) (by omega) (by omega) (by omega)).mono ?_
  rintro e W23 ⟨g11, k11, rfl, s11, b11⟩
  have h23 := h22.trans (b11.mono h22.size)
  have p11 := own_below o22 b11
  have n11 := tB_length x.ws x.wn
  clear b11 h22 o22 d0 d1 d2 d3 d4 d5 d6 d7 d8 d9 d10 d11 d12 d13
  go_wp2_with (at_builtin; refine wpList_append_each _ rfl _ _ 29 rfl W0.heap.size 5 i0 (.int .u8 0) 1 1 Tryd.underlying29 hi hz0 hz1 hz2 rfl (by decide) (.slice (some ⟨G10, 0, none⟩) 68 C10) 68 _ rfl p11 (some ⟨g11, 0, none⟩) 8 k11 ((tB x.ws x.wn).map (Value.int .u8)) rfl (by simp) (by rw [List.length_map, n11]) (fun b e => seg_news (by rw [← e]; exact s11)) (news_one _) (by unfold maxLen; omega) (by omega) h23.size ?_; intro v11 W24 q11 r11; have h24 : Below W0.heap.size W0 W24 := h23.grown r11 h23.size (fun k e => own_low p11 e); rw [← List.map_append, Nat.add_comm] at q11; obtain ⟨G11, C11, e11, _, _, _⟩ := own_shape q11 (by omega); subst e11; clear r11 p11 s11 n11; obtain ⟨d0, d1, d2, d3, d4, d5, d6, d7, d8, d9, d10, d11, d12, d13⟩ := (hA0.kept (h24.block _ hAlt) : Ap W24 w.heap.size x).c)
  have o24 : W24.ownsRow W0.heap.size 5 1 (.slice (some ⟨G11, 0, none⟩) 76 C11) 76 (((((((((((((bytesOf x.kind 4 ++ bytesOf x.mode 4) ++ bytesOf x.links 4) ++ bytesOf x.user 4) ++ bytesOf x.group 4) ++ bytesOf x.size 8) ++ bytesOf x.used 8) ++ bytesOf 0 8) ++ bytesOf 1 8) ++ bytesOf x.id 8) ++ tB x.rs x.rn) ++ tB x.ws x.wn)).map (Value.int .u8)) := q11
  clear q11
  go_wp2_with fail
  refine (reft_piece x.ts x.tn W24 (by omega) (by omega) (by omega) (by omega)).mono ?_
  rintro e W25 ⟨g12, k12, rfl, s12, b12⟩
  have h25 := h24.trans (b12.mono h24.size)
  have p12 := own_below o24 b12
  have n12 := tB_length x.ts x.tn
  clear b12 h24 o24 d0 d1 d2 d3 d4 d5 d6 d7 d8 d9 d10 d11 d12 d13
  go_wp2_with (at_builtin; refine wpList_append_each _ rfl _ _ 29 rfl W0.heap.size 5 i0 (.int .u8 0) 1 1 Tryd.underlying29 hi hz0 hz1 hz2 rfl (by decide) (.slice (some ⟨G11, 0, none⟩) 76 C11) 76 _ rfl p12 (some ⟨g12, 0, none⟩) 8 k12 ((tB x.ts x.tn).map (Value.int .u8)) rfl (by simp) (by rw [List.length_map, n12]) (fun b e => seg_news (by rw [← e]; exact s12)) (news_one _) (by unfold maxLen; omega) (by omega) h25.size ?_; intro v12 W26 q12 r12; have h26 : Below W0.heap.size W0 W26 := h25.grown r12 h25.size (fun k e => own_low p12 e); rw [← List.map_append, Nat.add_comm] at q12; obtain ⟨G12, C12, e12, _, _, _⟩ := own_shape q12 (by omega); subst e12; clear r12 p12 s12 n12)
  have o26 : W26.ownsRow W0.heap.size 5 1 (.slice (some ⟨G12, 0, none⟩) 84 C12) 84 ((((((((((((((bytesOf x.kind 4 ++ bytesOf x.mode 4) ++ bytesOf x.links 4) ++ bytesOf x.user 4) ++ bytesOf x.group 4) ++ bytesOf x.size 8) ++ bytesOf x.used 8) ++ bytesOf 0 8) ++ bytesOf 1 8) ++ bytesOf x.id 8) ++ tB x.rs x.rn) ++ tB x.ws x.wn) ++ tB x.ts x.tn)).map (Value.int .u8)) := q12
  clear q12
  have hfin := hb1.trans (h26.mono hb1.size)
  have heq : ((((((((((((bytesOf x.kind 4 ++ bytesOf x.mode 4) ++ bytesOf x.links 4) ++ bytesOf x.user 4) ++ bytesOf x.group 4) ++ bytesOf x.size 8) ++ bytesOf x.used 8) ++ bytesOf 0 8) ++ bytesOf 1 8) ++ bytesOf x.id 8) ++ tB x.rs x.rn) ++ tB x.ws x.wn) ++ tB x.ts x.tn) = aB x := by rw [aB_eq]; simp only [tB, List.append_assoc]
  rw [heq] at o26
  have ofin := own_base o26 hb1.size
  obtain ⟨_, _, ef, hf1, hf2, _⟩ := own_shape ofin (by omega)
  cases ef
  clear o26 h26 heq
  go_wp2
  go_ret
  exact ⟨_, _, rfl, hf1, hf2, ofin, hfin⟩
end Go.Proofs.YtecbhhfncklefaaDoor
