/- 'small', 'alive' of the law, from what the program's functions answer (hypotheses): the document's fixed answers hold; true; nothing that was there turns. -/
import Derived.Test.YtecbhhfncklefacAForms
import Derived.Test.YtecbhhfncklefacACell
import Derived.Test.YtecbhhfncklefacPieces
import Derived.Test.YtecbhhfncklefacLits
import Derived.Test.YtecbhhfncklefacAliveOpsMx
import Derived.Laws.BytesArg
import Derived.Maps.AppendAt
namespace Go.Proofs.Ytecbhhfncklefac
set_option linter.unusedVariables false
open Go.RowKit

theorem infoA8 : (Try.prog.info? 5).map (fun i => (i.zero, i.size, i.bytes)) = some (some (.int .u8 0), 1, 1) := by kernel_rfl
def smA : Atr := ⟨1, 420, 1, 0, 0, 5, 5, 7, 0, 0, 0, 0, 0, 0⟩
def smS : Stt := ⟨true, 7, false, 0, false, 0, false, 0, 0, 0, 0, 0, 0, 0⟩
def smT : Stt := ⟨false, 7, false, 0, false, 0, false, 0, 0, 0, 0, 0, 0, 0⟩
def smW : Wk := ⟨true, 5, 0, 0, 0, 0, false, zeroA⟩
theorem smA_in : smA.In := by constructor <;> decide
theorem smS_in : smS.In := by constructor <;> decide
theorem smT_in : smT.In := by constructor <;> decide
theorem smW_in : smW.In := ⟨by decide, by decide, by decide, by decide, by decide, zeroA_in⟩
theorem made_zeros : (madeCells (Value.int .u8 0).cells (84 * 1)).toList = (List.replicate 84 (0 : Int)).map (Value.int .u8) := by
  rw [Nat.mul_one, show (Value.int .u8 0).cells = #[.int .u8 0] from rfl, toList_madeCells_one, List.map_replicate]
theorem gE_zeros : attrC.gE (List.replicate 84 0) = 5 := by decide +kernel

set_option maxRecDepth 100000 in
set_option maxHeartbeats 400000 in
theorem small_any (w : World) : Calls Try.prog 15 #[] w fun e w' => e = .returned (.agg #[.int .u32 smA.kind, .int .u32 smA.mode, .int .u32 smA.links, .int .u32 smA.user, .int .u32 smA.group, .int .u64 smA.size, .int .u64 smA.used, .int .u64 smA.id, .int .u32 smA.rs, .int .u32 smA.rn, .int .u32 smA.ws, .int .u32 smA.wn, .int .u32 smA.ts, .int .u32 smA.tn]) ∧ Below w.heap.size w w' := by
  have hB1 : Below w.heap.size w (w.alloc (.cells #[.int .u32 1, .int .u32 420, .int .u32 1, .int .u32 0, .int .u32 0, .int .u64 5, .int .u64 5, .int .u64 7, .int .u32 0, .int .u32 0, .int .u32 0, .int .u32 0, .int .u32 0, .int .u32 0] 28)) := (Below.refl _ _).alloc (Nat.le_refl _) _
  have hh1 := World.alloc_heap_new w (.cells #[.int .u32 1, .int .u32 420, .int .u32 1, .int .u32 0, .int .u32 0, .int .u64 5, .int .u64 5, .int .u64 7, .int .u32 0, .int .u32 0, .int .u32 0, .int .u32 0, .int .u32 0, .int .u32 0] 28)
  go_enter Try.func15, Try.ntmps15
  go_wp2
  exact bodyPost_ret (results_cell_row (p := 0) (ty := 28) rfl _ _ w.heap.size 28 _ (0, 0) _ (by rfl) hh1 Try.underlying28 rfl (by kernel_rfl)) rfl ⟨rfl, hB1⟩

/-- What the last row of 'alive' reads. -/
def AvS (G1 G2 G3 c1 h : Nat) (sm : Atr) (w : World) : Prop :=
  (convert 30 9 (.slice (some ⟨G1, 0, none⟩) 8 c1)).run Try.prog w = .ok (.string ⟨#[0, 0, 0, 1, 0, 0, 1, 164]⟩) w ∧ w.cell? ⟨G2, 3, none⟩ = some (.int .u8 1) ∧ w.cell? ⟨G2, 7, none⟩ = some (.int .u8 7) ∧ w.cell? ⟨G3, 11, none⟩ = some (.int .u8 5) ∧ Ap w h sm

/-- An answer of some bytes: a slice. -/
theorem own_slice {W : World} {base n : Nat} {v : Value} {zs : List Int} (h : W.ownsRow base 5 1 v n (zs.map (Value.int .u8))) (hz : zs.length = n) (hn : 0 < n) : ∃ g c, v = .slice (some ⟨g, 0, none⟩) n c ∧ n ≤ c ∧ c ≤ 9223372036854775807 ∧ Seg W (some ⟨g, 0, none⟩) zs := by
  obtain ⟨g, c, rfl, h1, h2, _⟩ := own_shape h hn
  exact ⟨g, c, rfl, h1, h2, seg_own h hz⟩

set_option maxRecDepth 100000 in
set_option maxHeartbeats 4000000 in
theorem alive_any (hA : APut 4) (gA : AGet 16) (hS : SPut 17) (hW : WPut 5) (w : World) :
    Calls Try.prog 7 #[] w fun e w' => e = .returned (.bool true) ∧ Below w.heap.size w w' := by
  obtain ⟨i0, hi, hz0, hz1, hz2⟩ := info_parts infoA8
  have b0 := attrC.back (attr_ok smA_in (by decide)) []
  rw [List.append_nil] at b0
  obtain ⟨q1, q2, q3⟩ : attrC.gE (aB smA) = 0 ∧ attrC.gV (aB smA) = smA ∧ attrC.gN (aB smA) = (aB smA).length := b0
  rw [aB_length] at q3
  have z1 := gE_zeros
  obtain ⟨z2, z3⟩ : attrC.gV (List.replicate 84 0) = zeroA ∧ attrC.gN (List.replicate 84 0) = 0 := attrC.bad (by rw [z1]; decide)
  have l1 := aB_length smA
  have l2 : (sB smS).length = 28 := by rw [sB_length]; rfl
  have l3 : (wB smW).length = 32 := by rw [wB_length]; rfl
  have p1 : paE (amay smA) = 0 ∧ paZ (amay smA) (aB smA) = aB smA := ⟨by decide, by rw [show amay smA = true by decide]; rfl⟩
  have p2 : paE (amay zeroA) = 1 := by decide
  have p3 : paE (smay smS) = 0 ∧ paZ (smay smS) (sB smS) = sB smS := ⟨by decide, by rw [show smay smS = true by decide]; rfl⟩
  have p4 : paE (smay smT) = 1 := by decide
  have p5 : paE (wmay smW) = 0 ∧ paZ (wmay smW) (wB smW) = wB smW := ⟨by decide, by rw [show wmay smW = true by decide]; rfl⟩
  have f1 := fun W => hA smA W smA_in
  have f2 := fun W => hA zeroA W zeroA_in
  have f3 := fun W => hS smS W smS_in
  have f4 := fun W => hS smT W smT_in
  have f5 := fun W => hW smW W smW_in
  rw [p1.1, p1.2] at f1
  rw [p2] at f2
  rw [p3.1, p3.2] at f3
  rw [p4] at f4
  rw [p5.1, p5.2] at f5
  have g1 := fun G c W h1 h2 hS => gA (some ⟨G, 0, none⟩) 84 c (aB smA) W h1 h2 l1 (byt_aB smA) hS
  rw [q1, q2, q3] at g1
  have g2 := fun G c W h1 h2 hS => gA (some ⟨G, 0, none⟩) 84 c (List.replicate 84 0) W h1 h2 (by simp) (byt_of_all (by simp)) hS
  rw [z1, z2, z3] at g2
  have hmz := made_zeros
  have hzl : (List.replicate 84 (0 : Int)).length = 84 := by simp
  generalize List.replicate 84 (0 : Int) = nz at *
  have heq := fun W => a_self smA W
  have hsm := small_any
  have hx8 : (aB smA).take 8 = [0, 0, 0, 1, 0, 0, 1, 164] := by decide +kernel
  have hk3 : (sB smS)[3]?.getD 0 = 1 := by decide +kernel
  have hk7 : (sB smS)[7]?.getD 0 = 7 := by decide +kernel
  have hk11 : (wB smW)[11]?.getD 0 = 5 := by decide +kernel
  have f1' : ∀ W, Calls Try.prog 4 #[.agg #[.int .u32 smA.kind, .int .u32 smA.mode, .int .u32 smA.links, .int .u32 smA.user, .int .u32 smA.group, .int .u64 smA.size, .int .u64 smA.used, .int .u64 smA.id, .int .u32 smA.rs, .int .u32 smA.rn, .int .u32 smA.ws, .int .u32 smA.wn, .int .u32 smA.ts, .int .u32 smA.tn]] W fun e w' => ∃ v, e = .returned (.tuple #[v, .int .i64 0]) ∧ w'.ownsRow W.heap.size 5 1 v (aB smA).length ((aB smA).map (Value.int .u8)) ∧ Below W.heap.size W w' := f1
  clear f1
  generalize sB smS = bs at *
  generalize wB smW = bw at *
  generalize aB smA = ba at *
  generalize smA = sm at *
  clear q1 q2 q3 z1 z2 z3 p1 p2 p3 p4 p5
  go_enter Try.func7, Try.ntmps7
  go_wp2_with fail
  refine (hsm w).mono ?_
  rintro e W1 ⟨rfl, hB1⟩
  go_wp2_with fail
  refine (f1' W1).mono ?_
  rintro e W2 ⟨v1, rfl, o1, hb2⟩
  have hB2 := hB1.trans (hb2.mono hB1.size)
  rw [l1] at o1
  obtain ⟨G1, c1, rfl, h1, h1', s1⟩ := own_slice o1 l1 (by decide)
  clear f1' hb2 hB1 o1
  go_wp2_with fail
  refine (g1 G1 c1 W2 h1 h1' s1).mono ?_
  rintro e W3 ⟨v, hv, rfl, hb3⟩
  subst v
  have hB3 := hB2.trans (hb3.mono hB2.size)
  have s3 := s1.below hb3
  have t4 := Ap.new W3 sm
  have hb4 : Below W3.heap.size W3 (W3.alloc (.cells #[.int .u32 sm.kind, .int .u32 sm.mode, .int .u32 sm.links, .int .u32 sm.user, .int .u32 sm.group, .int .u64 sm.size, .int .u64 sm.used, .int .u64 sm.id, .int .u32 sm.rs, .int .u32 sm.rn, .int .u32 sm.ws, .int .u32 sm.wn, .int .u32 sm.ts, .int .u32 sm.tn] 28)) := (Below.refl _ _).alloc (Nat.le_refl _) _
  have hB4 := hB3.trans (hb4.mono hB3.size)
  have s4 := s3.below hb4
  clear g1 hb3 hB2 hB3 s1 s3 hb4
  go_wp2_with (at_make; refine wpList_make_full _ rfl _ _ 30 rfl _ 5 i0 (.int .u8 0) 1 Try.underlying30 hi hz0 hz1 .i64 .i64 _ _ 84 rfl rfl rfl rfl (by rw [hz2]; omega) (by unfold maxLen; omega) (Nat.le_refl _) ?_; intro W5 o5 hg5)
  rw [hmz] at o5
  have hb5 : Below (W3.alloc (.cells #[.int .u32 sm.kind, .int .u32 sm.mode, .int .u32 sm.links, .int .u32 sm.user, .int .u32 sm.group, .int .u64 sm.size, .int .u64 sm.used, .int .u64 sm.id, .int .u32 sm.rs, .int .u32 sm.rn, .int .u32 sm.ws, .int .u32 sm.wn, .int .u32 sm.ts, .int .u32 sm.tn] 28)).heap.size (W3.alloc (.cells #[.int .u32 sm.kind, .int .u32 sm.mode, .int .u32 sm.links, .int .u32 sm.user, .int .u32 sm.group, .int .u64 sm.size, .int .u64 sm.used, .int .u64 sm.id, .int .u32 sm.rs, .int .u32 sm.rn, .int .u32 sm.ws, .int .u32 sm.wn, .int .u32 sm.ts, .int .u32 sm.tn] 28)) W5 := (Below.refl _ _).grown hg5 (Nat.le_refl _) (by simp)
  have hB5 := hB4.trans (hb5.mono hB4.size)
  have t5 := t4.next hb5
  have s5 := s4.below hb5
  have zs5 := seg_own o5 hzl
  rw [show (W3.alloc (.cells #[.int .u32 sm.kind, .int .u32 sm.mode, .int .u32 sm.links, .int .u32 sm.user, .int .u32 sm.group, .int .u64 sm.size, .int .u64 sm.used, .int .u64 sm.id, .int .u32 sm.rs, .int .u32 sm.rn, .int .u32 sm.ws, .int .u32 sm.wn, .int .u32 sm.ts, .int .u32 sm.tn] 28)).heap.size = W3.heap.size + 1 by simp] at zs5
  clear hg5 hB4 s4 t4 hb5 o5
  refine (g2 _ 84 W5 (by omega) (by omega) zs5).mono ?_
  rintro e W6 ⟨v', -, rfl, hb6⟩
  have hb7 : Below W5.heap.size W5 (W6.alloc (.cells #[.int .u32 v'.kind, .int .u32 v'.mode, .int .u32 v'.links, .int .u32 v'.user, .int .u32 v'.group, .int .u64 v'.size, .int .u64 v'.used, .int .u64 v'.id, .int .u32 v'.rs, .int .u32 v'.rn, .int .u32 v'.ws, .int .u32 v'.wn, .int .u32 v'.ts, .int .u32 v'.tn] 28)) := hb6.alloc hb6.size _
  have hB7 := hB5.trans (hb7.mono hB5.size)
  have t7 := t5.next hb7
  have s7 := s5.below hb7
  clear g2 hb6 hB5 s5 t5 hb7 zs5
  go_wp2_with fail
  generalize (W6.alloc (.cells #[.int .u32 v'.kind, .int .u32 v'.mode, .int .u32 v'.links, .int .u32 v'.user, .int .u32 v'.group, .int .u64 v'.size, .int .u64 v'.used, .int .u64 v'.id, .int .u32 v'.rs, .int .u32 v'.rn, .int .u32 v'.ws, .int .u32 v'.wn, .int .u32 v'.ts, .int .u32 v'.tn] 28)) = W7 at *
  refine (f2 W7).mono ?_
  rintro e W8 ⟨v2, rfl, -, hb8⟩
  have hB8 := hB7.trans (hb8.mono hB7.size)
  have t8 := t7.next hb8
  have s8 := s7.below hb8
  clear f2 hb8 hB7 s7 t7
  go_wp2_with fail
  refine (f3 W8).mono ?_
  rintro e W9 ⟨v3, rfl, o9, hb9⟩
  have hB9 := hB8.trans (hb9.mono hB8.size)
  have t9 := t8.next hb9
  have s9 := s8.below hb9
  rw [l2] at o9
  obtain ⟨G2, c2, rfl, h2, h2', r9⟩ := own_slice o9 l2 (by decide)
  clear f3 hb9 hB8 s8 t8 o9
  go_wp2_with fail
  refine (f4 W9).mono ?_
  rintro e W10 ⟨v4, rfl, -, hb10⟩
  have hB10 := hB9.trans (hb10.mono hB9.size)
  have t10 := t9.next hb10
  have s10 := s9.below hb10
  have r10 := r9.below hb10
  clear f4 hb10 hB9 s9 t9 r9
  go_wp2_with fail
  refine (f5 W10).mono ?_
  rintro e W11 ⟨v5, rfl, o11, hb11⟩
  have hB11 := hB10.trans (hb11.mono hB10.size)
  have t11 := t10.next hb11
  have s11 := s10.below hb11
  have r11 := r10.below hb11
  rw [l3] at o11
  obtain ⟨G3, c3, rfl, h3, h3', y11⟩ := own_slice o11 l3 (by decide)
  clear f5 hb11 hB10 s10 t10 r10 o11
  generalize W3.heap.size = h3' at *
  have mk : ∀ W, Ap W h3' sm → Seg W (some ⟨G1, 0, none⟩) ba → Seg W (some ⟨G2, 0, none⟩) bs → Seg W (some ⟨G3, 0, none⟩) bw → AvS G1 G2 G3 c1 h3' sm W := by
    intro W tW sW rW yW
    have s12 := sW.take 8
    rw [hx8] at s12
    have tx := seg_text (cap := c1) s12 rfl (by decide)
    rw [show strOfNums [0, 0, 0, 1, 0, 0, 1, 164] = ⟨#[0, 0, 0, 1, 0, 0, 1, 164]⟩ from rfl] at tx
    simp only [List.length_cons, List.length_nil, Nat.reduceAdd] at tx
    refine ⟨tx, ?_, ?_, ?_, tW⟩
    · rcases rW with h | ⟨b, off, e, hc⟩
      · rw [h] at l2; cases l2
      · cases e
        have := hc 3 (by rw [l2]; decide)
        rw [Nat.zero_add, hk3] at this
        exact this
    · rcases rW with h | ⟨b, off, e, hc⟩
      · rw [h] at l2; cases l2
      · cases e
        have := hc 7 (by rw [l2]; decide)
        rw [Nat.zero_add, hk7] at this
        exact this
    · rcases yW with h | ⟨b, off, e, hc⟩
      · rw [h] at l3; cases l3
      · cases e
        have := hc 11 (by rw [l3]; decide)
        rw [Nat.zero_add, hk11] at this
        exact this
  have hdr : Below W11.heap.size W11 W11.drew := ⟨rfl, rfl, rfl, Nat.le_refl _, fun _ _ => rfl⟩
  have t12 := t11.next hdr
  have s12 := s11.below hdr
  have r12 := r11.below hdr
  have y12 := y11.below hdr
  have hB12 := hB11.trans (hdr.mono hB11.size)
  have S12 := mk _ t12 s12 r12 y12
  clear hB11 t11 s11 r11 y11 hdr l1 l2 l3
  go_wp2_with fail
  generalize (.agg #[.int .u32 sm.kind, .int .u32 sm.mode, .int .u32 sm.links, .int .u32 sm.user, .int .u32 sm.group, .int .u64 sm.size, .int .u64 sm.used, .int .u64 sm.id, .int .u32 sm.rs, .int .u32 sm.rn, .int .u32 sm.ws, .int .u32 sm.wn, .int .u32 sm.ts, .int .u32 sm.tn] : Value) = d1
  generalize (.agg #[.int .u32 v'.kind, .int .u32 v'.mode, .int .u32 v'.links, .int .u32 v'.user, .int .u32 v'.group, .int .u64 v'.size, .int .u64 v'.used, .int .u64 v'.id, .int .u32 v'.rs, .int .u32 v'.rn, .int .u32 v'.ws, .int .u32 v'.wn, .int .u32 v'.ts, .int .u32 v'.tn] : Value) = d2
  generalize (.agg #[.int .u32 0, .int .u32 0, .int .u32 0, .int .u32 0, .int .u32 0, .int .u64 0, .int .u64 0, .int .u64 0, .int .u32 0, .int .u32 0, .int .u32 0, .int .u32 0, .int .u32 0, .int .u32 0] : Value) = d3
  generalize (.agg #[.bool true, .int .u32 7, .bool false, .int .u32 0, .bool false, .int .u32 0, .bool false, .int .u64 0, .int .u32 0, .int .u32 0, .int .u32 0, .int .u32 0, .int .u32 0, .int .u32 0] : Value) = d4
  generalize (.agg #[.bool false, .int .u32 7, .bool false, .int .u32 0, .bool false, .int .u32 0, .bool false, .int .u64 0, .int .u32 0, .int .u32 0, .int .u32 0, .int .u32 0, .int .u32 0, .int .u32 0] : Value) = d5
  generalize (.agg #[.bool true, .int .u64 5, .int .u32 0, .int .u32 0, .int .u32 0, .int .u32 0, .bool false, .int .u32 0, .int .u32 0, .int .u32 0, .int .u32 0, .int .u32 0, .int .u64 0, .int .u64 0, .int .u64 0, .int .u32 0, .int .u32 0, .int .u32 0, .int .u32 0, .int .u32 0, .int .u32 0] : Value) = d6
  change (Code.region _ alOps true).wp _ _ _ _
  change (Code.region _ alOps true).wp _ _ _ _
  refine wp_region_noPanic ?_
  refine wp_region_held_drew (S := AvS G1 G2 G3 c1 h3' sm) (by kernel_rfl) S12 (fun hHeld => ?_)
  show wpAnyH _ .any alOps _ _ 75 #[false, false, false, false, false, false, false, false, false, false, false, false, false, false, false, false, false, false, false, false, false, false, false, false, false, false, false, false, false, false, false, false, false, false, false, false, false, false, false, false, false, false, false, false, false, false, false, false, false, false, false, false, false, false, false, false, false, false, false, false, false, false, false, false, false, false, false, false, false, false, false, false, false, false, false] _ _
  refine wpAnyH_take (i := 0) (oi := alOp 0) (v := .int .i64 0) al_hi0 al_sel (by kernel_rfl) (by kernel_rfl) (fun _ _ _ h => h) (Or.inl ⟨want_none al_g0, fun w hSw => run_move al_op0 rfl⟩) (by assumption) ?_
  simp only [Act.put, al_dst0, List.setIfInBounds_toArray, List.set_cons_zero, List.set_cons_succ]
  refine wpAnyH_take (i := 1) (oi := alOp 1) (v := .bool true) al_hi1 al_sel (by kernel_rfl) (by kernel_rfl) (fun _ _ _ h => h) (Or.inl ⟨want_none al_g1, fun w hSw => run_eq al_op1 rfl rfl (eqg_int _ _ _ _ _ _ _) (eq_err _ _)⟩) (by assumption) ?_
  simp only [Act.put, al_dst1, List.setIfInBounds_toArray, List.set_cons_zero, List.set_cons_succ]
  refine wpAnyH_take (i := 2) (oi := alOp 2) (v := .bool true) al_hi2 al_sel (by kernel_rfl) (by kernel_rfl) (fun _ _ _ h => h) (Or.inl ⟨want_none al_g2, fun w hSw => run_move al_op2 rfl⟩) (by assumption) ?_
  simp only [Act.put, al_dst2, List.setIfInBounds_toArray, List.set_cons_zero, List.set_cons_succ]
  refine wpAnyH_take (i := 3) (oi := alOp 3) (v := .int .i64 0) al_hi3 al_sel (by kernel_rfl) (by kernel_rfl) (fun _ _ _ h => h) (Or.inl ⟨want_some al_g3 al_hi2 al_dst2 (by rfl), fun w hSw => run_move al_op3 rfl⟩) (by assumption) ?_
  simp only [Act.put, al_dst3, List.setIfInBounds_toArray, List.set_cons_zero, List.set_cons_succ]
  refine wpAnyH_take (i := 4) (oi := alOp 4) (v := .bool true) al_hi4 al_sel (by kernel_rfl) (by kernel_rfl) (fun _ _ _ h => h) (Or.inl ⟨want_some al_g4 al_hi2 al_dst2 (by rfl), fun w hSw => run_eq al_op4 rfl rfl (eqg_int _ _ _ _ _ _ _) (eq_err _ _)⟩) (by assumption) ?_
  simp only [Act.put, al_dst4, List.setIfInBounds_toArray, List.set_cons_zero, List.set_cons_succ]
  refine wpAnyH_take (i := 5) (oi := alOp 5) (v := .bool true) al_hi5 al_sel (by kernel_rfl) (by kernel_rfl) (fun _ _ _ h => h) (Or.inl ⟨want_none al_g5, fun w hSw => run_pick al_op5 rfl rfl⟩) (by assumption) ?_
  simp only [Act.put, al_dst5, List.setIfInBounds_toArray, List.set_cons_zero, List.set_cons_succ]
  refine wpAnyH_take (i := 6) (oi := alOp 6) (v := .bool true) al_hi6 al_sel (by kernel_rfl) (by kernel_rfl) (fun _ _ _ h => h) (Or.inl ⟨want_none al_g6, fun w hSw => run_move al_op6 rfl⟩) (by assumption) ?_
  simp only [Act.put, al_dst6, List.setIfInBounds_toArray, List.set_cons_zero, List.set_cons_succ]
  refine wpAnyH_take (i := 7) (oi := alOp 7) (v := .int .i64 5) al_hi7 al_sel (by kernel_rfl) (by kernel_rfl) (fun _ _ _ h => h) (Or.inl ⟨want_some al_g7 al_hi6 al_dst6 (by rfl), fun w hSw => run_move al_op7 rfl⟩) (by assumption) ?_
  simp only [Act.put, al_dst7, List.setIfInBounds_toArray, List.set_cons_zero, List.set_cons_succ]
  refine wpAnyH_take (i := 8) (oi := alOp 8) (v := .bool true) al_hi8 al_sel (by kernel_rfl) (by kernel_rfl) (fun _ _ _ h => h) (Or.inl ⟨want_some al_g8 al_hi6 al_dst6 (by rfl), fun w hSw => run_eq al_op8 rfl rfl (eqg_int _ _ _ _ _ _ _) (eq_err _ _)⟩) (by assumption) ?_
  simp only [Act.put, al_dst8, List.setIfInBounds_toArray, List.set_cons_zero, List.set_cons_succ]
  refine wpAnyH_take (i := 9) (oi := alOp 9) (v := .bool true) al_hi9 al_sel (by kernel_rfl) (by kernel_rfl) (fun _ _ _ h => h) (Or.inl ⟨want_none al_g9, fun w hSw => run_pick al_op9 rfl rfl⟩) (by assumption) ?_
  simp only [Act.put, al_dst9, List.setIfInBounds_toArray, List.set_cons_zero, List.set_cons_succ]
  refine wpAnyH_take (i := 10) (oi := alOp 10) (v := .bool true) al_hi10 al_sel (by kernel_rfl) (by kernel_rfl) (fun _ _ _ h => h) (Or.inl ⟨want_none al_g10, fun w hSw => run_move al_op10 rfl⟩) (by assumption) ?_
  simp only [Act.put, al_dst10, List.setIfInBounds_toArray, List.set_cons_zero, List.set_cons_succ]
  refine wpAnyH_take (i := 11) (oi := alOp 11) (v := .int .i64 1) al_hi11 al_sel (by kernel_rfl) (by kernel_rfl) (fun _ _ _ h => h) (Or.inl ⟨want_some al_g11 al_hi10 al_dst10 (by rfl), fun w hSw => run_move al_op11 rfl⟩) (by assumption) ?_
  simp only [Act.put, al_dst11, List.setIfInBounds_toArray, List.set_cons_zero, List.set_cons_succ]
  refine wpAnyH_take (i := 12) (oi := alOp 12) (v := .bool true) al_hi12 al_sel (by kernel_rfl) (by kernel_rfl) (fun _ _ _ h => h) (Or.inl ⟨want_some al_g12 al_hi10 al_dst10 (by rfl), fun w hSw => run_eq al_op12 rfl rfl (eqg_int _ _ _ _ _ _ _) (eq_err _ _)⟩) (by assumption) ?_
  simp only [Act.put, al_dst12, List.setIfInBounds_toArray, List.set_cons_zero, List.set_cons_succ]
  refine wpAnyH_take (i := 13) (oi := alOp 13) (v := .bool true) al_hi13 al_sel (by kernel_rfl) (by kernel_rfl) (fun _ _ _ h => h) (Or.inl ⟨want_none al_g13, fun w hSw => run_pick al_op13 rfl rfl⟩) (by assumption) ?_
  simp only [Act.put, al_dst13, List.setIfInBounds_toArray, List.set_cons_zero, List.set_cons_succ]
  as_aux_lemma =>
    refine wpAnyH_take (i := 14) (oi := alOp 14) (v := .bool true) al_hi14 al_sel (by kernel_rfl) (by kernel_rfl) (fun _ _ _ h => h) (Or.inl ⟨want_none al_g14, fun w hSw => run_move al_op14 rfl⟩) (by assumption) ?_
    simp only [Act.put, al_dst14, List.setIfInBounds_toArray, List.set_cons_zero, List.set_cons_succ]
    refine wpAnyH_take (i := 15) (oi := alOp 15) (v := .int .i64 0) al_hi15 al_sel (by kernel_rfl) (by kernel_rfl) (fun _ _ _ h => h) (Or.inl ⟨want_some al_g15 al_hi14 al_dst14 (by rfl), fun w hSw => run_move al_op15 rfl⟩) (by assumption) ?_
    simp only [Act.put, al_dst15, List.setIfInBounds_toArray, List.set_cons_zero, List.set_cons_succ]
    refine wpAnyH_take (i := 16) (oi := alOp 16) (v := .bool true) al_hi16 al_sel (by kernel_rfl) (by kernel_rfl) (fun _ _ _ h => h) (Or.inl ⟨want_some al_g16 al_hi14 al_dst14 (by rfl), fun w hSw => run_eq al_op16 rfl rfl (eqg_int _ _ _ _ _ _ _) (eq_err _ _)⟩) (by assumption) ?_
    simp only [Act.put, al_dst16, List.setIfInBounds_toArray, List.set_cons_zero, List.set_cons_succ]
    refine wpAnyH_take (i := 17) (oi := alOp 17) (v := .bool true) al_hi17 al_sel (by kernel_rfl) (by kernel_rfl) (fun _ _ _ h => h) (Or.inl ⟨want_none al_g17, fun w hSw => run_pick al_op17 rfl rfl⟩) (by assumption) ?_
    simp only [Act.put, al_dst17, List.setIfInBounds_toArray, List.set_cons_zero, List.set_cons_succ]
    refine wpAnyH_take (i := 18) (oi := alOp 18) (v := .bool true) al_hi18 al_sel (by kernel_rfl) (by kernel_rfl) (fun _ _ _ h => h) (Or.inl ⟨want_none al_g18, fun w hSw => run_move al_op18 rfl⟩) (by assumption) ?_
    simp only [Act.put, al_dst18, List.setIfInBounds_toArray, List.set_cons_zero, List.set_cons_succ]
    refine wpAnyH_take (i := 19) (oi := alOp 19) (v := .int .i64 1) al_hi19 al_sel (by kernel_rfl) (by kernel_rfl) (fun _ _ _ h => h) (Or.inl ⟨want_some al_g19 al_hi18 al_dst18 (by rfl), fun w hSw => run_move al_op19 rfl⟩) (by assumption) ?_
    simp only [Act.put, al_dst19, List.setIfInBounds_toArray, List.set_cons_zero, List.set_cons_succ]
    refine wpAnyH_take (i := 20) (oi := alOp 20) (v := .bool true) al_hi20 al_sel (by kernel_rfl) (by kernel_rfl) (fun _ _ _ h => h) (Or.inl ⟨want_some al_g20 al_hi18 al_dst18 (by rfl), fun w hSw => run_eq al_op20 rfl rfl (eqg_int _ _ _ _ _ _ _) (eq_err _ _)⟩) (by assumption) ?_
    simp only [Act.put, al_dst20, List.setIfInBounds_toArray, List.set_cons_zero, List.set_cons_succ]
    refine wpAnyH_take (i := 21) (oi := alOp 21) (v := .bool true) al_hi21 al_sel (by kernel_rfl) (by kernel_rfl) (fun _ _ _ h => h) (Or.inl ⟨want_none al_g21, fun w hSw => run_pick al_op21 rfl rfl⟩) (by assumption) ?_
    simp only [Act.put, al_dst21, List.setIfInBounds_toArray, List.set_cons_zero, List.set_cons_succ]
    refine wpAnyH_take (i := 22) (oi := alOp 22) (v := .bool true) al_hi22 al_sel (by kernel_rfl) (by kernel_rfl) (fun _ _ _ h => h) (Or.inl ⟨want_none al_g22, fun w hSw => run_move al_op22 rfl⟩) (by assumption) ?_
    simp only [Act.put, al_dst22, List.setIfInBounds_toArray, List.set_cons_zero, List.set_cons_succ]
    refine wpAnyH_take (i := 23) (oi := alOp 23) (v := .int .i64 0) al_hi23 al_sel (by kernel_rfl) (by kernel_rfl) (fun _ _ _ h => h) (Or.inl ⟨want_some al_g23 al_hi22 al_dst22 (by rfl), fun w hSw => run_move al_op23 rfl⟩) (by assumption) ?_
    simp only [Act.put, al_dst23, List.setIfInBounds_toArray, List.set_cons_zero, List.set_cons_succ]
    refine wpAnyH_take (i := 24) (oi := alOp 24) (v := .bool true) al_hi24 al_sel (by kernel_rfl) (by kernel_rfl) (fun _ _ _ h => h) (Or.inl ⟨want_some al_g24 al_hi22 al_dst22 (by rfl), fun w hSw => run_eq al_op24 rfl rfl (eqg_int _ _ _ _ _ _ _) (eq_err _ _)⟩) (by assumption) ?_
    simp only [Act.put, al_dst24, List.setIfInBounds_toArray, List.set_cons_zero, List.set_cons_succ]
    refine wpAnyH_take (i := 25) (oi := alOp 25) (v := .bool true) al_hi25 al_sel (by kernel_rfl) (by kernel_rfl) (fun _ _ _ h => h) (Or.inl ⟨want_none al_g25, fun w hSw => run_pick al_op25 rfl rfl⟩) (by assumption) ?_
    simp only [Act.put, al_dst25, List.setIfInBounds_toArray, List.set_cons_zero, List.set_cons_succ]
    refine wpAnyH_take (i := 26) (oi := alOp 26) (v := .bool true) al_hi26 al_sel (by kernel_rfl) (by kernel_rfl) (fun _ _ _ h => h) (Or.inl ⟨want_none al_g26, fun w hSw => run_move al_op26 rfl⟩) (by assumption) ?_
    simp only [Act.put, al_dst26, List.setIfInBounds_toArray, List.set_cons_zero, List.set_cons_succ]
    refine wpAnyH_take (i := 27) (oi := alOp 27) (v := .agg #[.int .u32 sm.kind, .int .u32 sm.mode, .int .u32 sm.links, .int .u32 sm.user, .int .u32 sm.group, .int .u64 sm.size, .int .u64 sm.used, .int .u64 sm.id, .int .u32 sm.rs, .int .u32 sm.rn, .int .u32 sm.ws, .int .u32 sm.wn, .int .u32 sm.ts, .int .u32 sm.tn]) al_hi27 al_sel (by kernel_rfl) (by kernel_rfl) (fun _ _ _ h => h) (Or.inl ⟨want_some al_g27 al_hi26 al_dst26 (by rfl), fun w hSw => run_load_row _ _ al_op27 h3' rfl _ _ (0, 0) _ hSw.2.2.2.2 Try.underlying28 rfl a_info⟩) (by assumption) ?_
    simp only [Act.put, al_dst27, List.setIfInBounds_toArray, List.set_cons_zero, List.set_cons_succ]
    as_aux_lemma =>
      refine wpAnyH_ready (rs := [28]) (by kernel_rfl) (by simp) ?_
      refine AllReadyH.cons al_hi28 (fun K hK => ?_) AllReadyH.nil
      rw [if_pos (want_some al_g28 al_hi26 al_dst26 (by rfl))]
      refine wp_enter (run_enter al_op28 enter_small) ?_
      refine (hsm _).mono ?_
      rintro e W13 ⟨rfl, hb13⟩
      have hB13 := hB12.trans (hb13.mono hB12.size)
      have S13 := mk _ (t12.next hb13) (s12.below hb13) (r12.below hb13) (y12.below hb13)
      refine hK.out _ _ S13 (fun hHeld => ?_)
      clear hK K S12 mk t12 s12 r12 y12 hB12 hb13 hsm
      try simp only [Act.put, al_dst28, List.setIfInBounds_toArray, List.set_cons_zero, List.set_cons_succ]
      refine wpAnyH_take (i := 29) (oi := alOp 29) (v := .bool true) al_hi29 al_sel (by kernel_rfl) (by kernel_rfl) (fun _ _ _ h => h) (Or.inl ⟨want_some al_g29 al_hi26 al_dst26 (by rfl), fun w hSw => run_eq al_op29 rfl rfl (eqg_attr _ _ _ _ _) (heq _)⟩) (by assumption) ?_
      simp only [Act.put, al_dst29, List.setIfInBounds_toArray, List.set_cons_zero, List.set_cons_succ]
      refine wpAnyH_take (i := 30) (oi := alOp 30) (v := .bool true) al_hi30 al_sel (by kernel_rfl) (by kernel_rfl) (fun _ _ _ h => h) (Or.inl ⟨want_none al_g30, fun w hSw => run_pick al_op30 rfl rfl⟩) (by assumption) ?_
      simp only [Act.put, al_dst30, List.setIfInBounds_toArray, List.set_cons_zero, List.set_cons_succ]
      refine wpAnyH_take (i := 31) (oi := alOp 31) (v := .bool true) al_hi31 al_sel (by kernel_rfl) (by kernel_rfl) (fun _ _ _ h => h) (Or.inl ⟨want_none al_g31, fun w hSw => run_move al_op31 rfl⟩) (by assumption) ?_
      simp only [Act.put, al_dst31, List.setIfInBounds_toArray, List.set_cons_zero, List.set_cons_succ]
      refine wpAnyH_take (i := 32) (oi := alOp 32) (v := .int .i64 84) al_hi32 al_sel (by kernel_rfl) (by kernel_rfl) (fun _ _ _ h => h) (Or.inl ⟨want_some al_g32 al_hi31 al_dst31 (by rfl), fun w hSw => run_move al_op32 rfl⟩) (by assumption) ?_
      simp only [Act.put, al_dst32, List.setIfInBounds_toArray, List.set_cons_zero, List.set_cons_succ]
      refine wpAnyH_take (i := 33) (oi := alOp 33) (v := .bool true) al_hi33 al_sel (by kernel_rfl) (by kernel_rfl) (fun _ _ _ h => h) (Or.inl ⟨want_some al_g33 al_hi31 al_dst31 (by rfl), fun w hSw => run_eq al_op33 rfl rfl (eqg_int _ _ _ _ _ _ _) (eq_int _ _)⟩) (by assumption) ?_
      simp only [Act.put, al_dst33, List.setIfInBounds_toArray, List.set_cons_zero, List.set_cons_succ]
      refine wpAnyH_take (i := 34) (oi := alOp 34) (v := .bool true) al_hi34 al_sel (by kernel_rfl) (by kernel_rfl) (fun _ _ _ h => h) (Or.inl ⟨want_none al_g34, fun w hSw => run_pick al_op34 rfl rfl⟩) (by assumption) ?_
      simp only [Act.put, al_dst34, List.setIfInBounds_toArray, List.set_cons_zero, List.set_cons_succ]
      refine wpAnyH_take (i := 35) (oi := alOp 35) (v := .bool true) al_hi35 al_sel (by kernel_rfl) (by kernel_rfl) (fun _ _ _ h => h) (Or.inl ⟨want_none al_g35, fun w hSw => run_move al_op35 rfl⟩) (by assumption) ?_
      simp only [Act.put, al_dst35, List.setIfInBounds_toArray, List.set_cons_zero, List.set_cons_succ]
      refine wpAnyH_take (i := 36) (oi := alOp 36) (v := .slice (some ⟨G1, 0, none⟩) 84 c1) al_hi36 al_sel (by kernel_rfl) (by kernel_rfl) (fun _ _ _ h => h) (Or.inl ⟨want_some al_g36 al_hi35 al_dst35 (by rfl), fun w hSw => run_move al_op36 rfl⟩) (by assumption) ?_
      simp only [Act.put, al_dst36, List.setIfInBounds_toArray, List.set_cons_zero, List.set_cons_succ]
      refine wpAnyH_take (i := 37) (oi := alOp 37) (v := .int .i64 84) al_hi37 al_sel (by kernel_rfl) (by kernel_rfl) (fun _ _ _ h => h) (Or.inl ⟨want_some al_g37 al_hi35 al_dst35 (by rfl), fun w hSw => run_len al_op37 rfl (len_u _ _ _ _ _)⟩) (by assumption) ?_
      simp only [Act.put, al_dst37, List.setIfInBounds_toArray, List.set_cons_zero, List.set_cons_succ]
      refine wpAnyH_take (i := 38) (oi := alOp 38) (v := .bool true) al_hi38 al_sel (by kernel_rfl) (by kernel_rfl) (fun _ _ _ h => h) (Or.inl ⟨want_some al_g38 al_hi35 al_dst35 (by rfl), fun w hSw => run_eq al_op38 rfl rfl (eqg_int _ _ _ _ _ _ _) (eq_int _ _)⟩) (by assumption) ?_
      simp only [Act.put, al_dst38, List.setIfInBounds_toArray, List.set_cons_zero, List.set_cons_succ]
      refine wpAnyH_take (i := 39) (oi := alOp 39) (v := .bool true) al_hi39 al_sel (by kernel_rfl) (by kernel_rfl) (fun _ _ _ h => h) (Or.inl ⟨want_none al_g39, fun w hSw => run_pick al_op39 rfl rfl⟩) (by assumption) ?_
      simp only [Act.put, al_dst39, List.setIfInBounds_toArray, List.set_cons_zero, List.set_cons_succ]
      refine wpAnyH_take (i := 40) (oi := alOp 40) (v := .bool true) al_hi40 al_sel (by kernel_rfl) (by kernel_rfl) (fun _ _ _ h => h) (Or.inl ⟨want_none al_g40, fun w hSw => run_move al_op40 rfl⟩) (by assumption) ?_
      simp only [Act.put, al_dst40, List.setIfInBounds_toArray, List.set_cons_zero, List.set_cons_succ]
      refine wpAnyH_take (i := 41) (oi := alOp 41) (v := .slice (some ⟨G1, 0, none⟩) 84 c1) al_hi41 al_sel (by kernel_rfl) (by kernel_rfl) (fun _ _ _ h => h) (Or.inl ⟨want_some al_g41 al_hi40 al_dst40 (by rfl), fun w hSw => run_move al_op41 rfl⟩) (by assumption) ?_
      simp only [Act.put, al_dst41, List.setIfInBounds_toArray, List.set_cons_zero, List.set_cons_succ]
      refine wpAnyH_take (i := 42) (oi := alOp 42) (v := .slice (some ⟨G1, 0, none⟩) 8 c1) al_hi42 al_sel (by kernel_rfl) (by kernel_rfl) (fun _ _ _ h => h) (Or.inl ⟨want_some al_g42 al_hi40 al_dst40 (by rfl), fun w hSw => run_cut al_op42 rfl (cut8 _ _ _ (by omega))⟩) (by assumption) ?_
      simp only [Act.put, al_dst42, List.setIfInBounds_toArray, List.set_cons_zero, List.set_cons_succ]
      refine wpAnyH_take (i := 43) (oi := alOp 43) (v := .string ⟨#[0, 0, 0, 1, 0, 0, 1, 164]⟩) al_hi43 al_sel (by kernel_rfl) (by kernel_rfl) (fun _ _ _ h => h) (Or.inl ⟨want_some al_g43 al_hi40 al_dst40 (by rfl), fun w hSw => run_conv al_op43 rfl hSw.1⟩) (by assumption) ?_
      simp only [Act.put, al_dst43, List.setIfInBounds_toArray, List.set_cons_zero, List.set_cons_succ]
      as_aux_lemma =>
        refine wpAnyH_take (i := 44) (oi := alOp 44) (v := .bool true) al_hi44 al_sel (by kernel_rfl) (by kernel_rfl) (fun _ _ _ h => h) (Or.inl ⟨want_some al_g44 al_hi40 al_dst40 (by rfl), fun w hSw => run_eq al_op44 rfl rfl (eqg_str _ _ _ _ _ _) (eq_str _ _)⟩) (by assumption) ?_
        simp only [Act.put, al_dst44, List.setIfInBounds_toArray, List.set_cons_zero, List.set_cons_succ]
        refine wpAnyH_take (i := 45) (oi := alOp 45) (v := .bool true) al_hi45 al_sel (by kernel_rfl) (by kernel_rfl) (fun _ _ _ h => h) (Or.inl ⟨want_none al_g45, fun w hSw => run_pick al_op45 rfl rfl⟩) (by assumption) ?_
        simp only [Act.put, al_dst45, List.setIfInBounds_toArray, List.set_cons_zero, List.set_cons_succ]
        refine wpAnyH_take (i := 46) (oi := alOp 46) (v := .bool true) al_hi46 al_sel (by kernel_rfl) (by kernel_rfl) (fun _ _ _ h => h) (Or.inl ⟨want_none al_g46, fun w hSw => run_move al_op46 rfl⟩) (by assumption) ?_
        simp only [Act.put, al_dst46, List.setIfInBounds_toArray, List.set_cons_zero, List.set_cons_succ]
        refine wpAnyH_take (i := 47) (oi := alOp 47) (v := .slice (some ⟨G2, 0, none⟩) 28 c2) al_hi47 al_sel (by kernel_rfl) (by kernel_rfl) (fun _ _ _ h => h) (Or.inl ⟨want_some al_g47 al_hi46 al_dst46 (by rfl), fun w hSw => run_move al_op47 rfl⟩) (by assumption) ?_
        simp only [Act.put, al_dst47, List.setIfInBounds_toArray, List.set_cons_zero, List.set_cons_succ]
        refine wpAnyH_take (i := 48) (oi := alOp 48) (v := .int .i64 28) al_hi48 al_sel (by kernel_rfl) (by kernel_rfl) (fun _ _ _ h => h) (Or.inl ⟨want_some al_g48 al_hi46 al_dst46 (by rfl), fun w hSw => run_len al_op48 rfl (len_u _ _ _ _ _)⟩) (by assumption) ?_
        simp only [Act.put, al_dst48, List.setIfInBounds_toArray, List.set_cons_zero, List.set_cons_succ]
        refine wpAnyH_take (i := 49) (oi := alOp 49) (v := .bool true) al_hi49 al_sel (by kernel_rfl) (by kernel_rfl) (fun _ _ _ h => h) (Or.inl ⟨want_some al_g49 al_hi46 al_dst46 (by rfl), fun w hSw => run_eq al_op49 rfl rfl (eqg_int _ _ _ _ _ _ _) (eq_int _ _)⟩) (by assumption) ?_
        simp only [Act.put, al_dst49, List.setIfInBounds_toArray, List.set_cons_zero, List.set_cons_succ]
        refine wpAnyH_take (i := 50) (oi := alOp 50) (v := .bool true) al_hi50 al_sel (by kernel_rfl) (by kernel_rfl) (fun _ _ _ h => h) (Or.inl ⟨want_none al_g50, fun w hSw => run_pick al_op50 rfl rfl⟩) (by assumption) ?_
        simp only [Act.put, al_dst50, List.setIfInBounds_toArray, List.set_cons_zero, List.set_cons_succ]
        refine wpAnyH_take (i := 51) (oi := alOp 51) (v := .bool true) al_hi51 al_sel (by kernel_rfl) (by kernel_rfl) (fun _ _ _ h => h) (Or.inl ⟨want_none al_g51, fun w hSw => run_move al_op51 rfl⟩) (by assumption) ?_
        simp only [Act.put, al_dst51, List.setIfInBounds_toArray, List.set_cons_zero, List.set_cons_succ]
        refine wpAnyH_take (i := 52) (oi := alOp 52) (v := .slice (some ⟨G2, 0, none⟩) 28 c2) al_hi52 al_sel (by kernel_rfl) (by kernel_rfl) (fun _ _ _ h => h) (Or.inl ⟨want_some al_g52 al_hi51 al_dst51 (by rfl), fun w hSw => run_move al_op52 rfl⟩) (by assumption) ?_
        simp only [Act.put, al_dst52, List.setIfInBounds_toArray, List.set_cons_zero, List.set_cons_succ]
        refine wpAnyH_take (i := 53) (oi := alOp 53) (v := .pointer (some ⟨G2, 3, none⟩)) al_hi53 al_sel (by kernel_rfl) (by kernel_rfl) (fun _ _ _ h => h) (Or.inl ⟨want_some al_g53 al_hi51 al_dst51 (by rfl), fun w hSw => run_index al_op53 rfl (at_k G2 28 c2 3 _ (by decide))⟩) (by assumption) ?_
        simp only [Act.put, al_dst53, List.setIfInBounds_toArray, List.set_cons_zero, List.set_cons_succ]
        refine wpAnyH_take (i := 54) (oi := alOp 54) (v := .int .u8 1) al_hi54 al_sel (by kernel_rfl) (by kernel_rfl) (fun _ _ _ h => h) (Or.inl ⟨want_some al_g54 al_hi51 al_dst51 (by rfl), fun w hSw => run_cell al_op54 rfl (ld_u8 hSw.2.1)⟩) (by assumption) ?_
        simp only [Act.put, al_dst54, List.setIfInBounds_toArray, List.set_cons_zero, List.set_cons_succ]
        refine wpAnyH_take (i := 55) (oi := alOp 55) (v := .bool true) al_hi55 al_sel (by kernel_rfl) (by kernel_rfl) (fun _ _ _ h => h) (Or.inl ⟨want_some al_g55 al_hi51 al_dst51 (by rfl), fun w hSw => run_eq al_op55 rfl rfl (eqg_int _ _ _ _ _ _ _) (eq_u8 _ _)⟩) (by assumption) ?_
        simp only [Act.put, al_dst55, List.setIfInBounds_toArray, List.set_cons_zero, List.set_cons_succ]
        refine wpAnyH_take (i := 56) (oi := alOp 56) (v := .bool true) al_hi56 al_sel (by kernel_rfl) (by kernel_rfl) (fun _ _ _ h => h) (Or.inl ⟨want_none al_g56, fun w hSw => run_pick al_op56 rfl rfl⟩) (by assumption) ?_
        simp only [Act.put, al_dst56, List.setIfInBounds_toArray, List.set_cons_zero, List.set_cons_succ]
        refine wpAnyH_take (i := 57) (oi := alOp 57) (v := .bool true) al_hi57 al_sel (by kernel_rfl) (by kernel_rfl) (fun _ _ _ h => h) (Or.inl ⟨want_none al_g57, fun w hSw => run_move al_op57 rfl⟩) (by assumption) ?_
        simp only [Act.put, al_dst57, List.setIfInBounds_toArray, List.set_cons_zero, List.set_cons_succ]
        refine wpAnyH_take (i := 58) (oi := alOp 58) (v := .slice (some ⟨G2, 0, none⟩) 28 c2) al_hi58 al_sel (by kernel_rfl) (by kernel_rfl) (fun _ _ _ h => h) (Or.inl ⟨want_some al_g58 al_hi57 al_dst57 (by rfl), fun w hSw => run_move al_op58 rfl⟩) (by assumption) ?_
        simp only [Act.put, al_dst58, List.setIfInBounds_toArray, List.set_cons_zero, List.set_cons_succ]
        refine wpAnyH_take (i := 59) (oi := alOp 59) (v := .pointer (some ⟨G2, 7, none⟩)) al_hi59 al_sel (by kernel_rfl) (by kernel_rfl) (fun _ _ _ h => h) (Or.inl ⟨want_some al_g59 al_hi57 al_dst57 (by rfl), fun w hSw => run_index al_op59 rfl (at_k G2 28 c2 7 _ (by decide))⟩) (by assumption) ?_
        simp only [Act.put, al_dst59, List.setIfInBounds_toArray, List.set_cons_zero, List.set_cons_succ]
        as_aux_lemma =>
          refine wpAnyH_take (i := 60) (oi := alOp 60) (v := .int .u8 7) al_hi60 al_sel (by kernel_rfl) (by kernel_rfl) (fun _ _ _ h => h) (Or.inl ⟨want_some al_g60 al_hi57 al_dst57 (by rfl), fun w hSw => run_cell al_op60 rfl (ld_u8 hSw.2.2.1)⟩) (by assumption) ?_
          simp only [Act.put, al_dst60, List.setIfInBounds_toArray, List.set_cons_zero, List.set_cons_succ]
          refine wpAnyH_take (i := 61) (oi := alOp 61) (v := .bool true) al_hi61 al_sel (by kernel_rfl) (by kernel_rfl) (fun _ _ _ h => h) (Or.inl ⟨want_some al_g61 al_hi57 al_dst57 (by rfl), fun w hSw => run_eq al_op61 rfl rfl (eqg_int _ _ _ _ _ _ _) (eq_u8 _ _)⟩) (by assumption) ?_
          simp only [Act.put, al_dst61, List.setIfInBounds_toArray, List.set_cons_zero, List.set_cons_succ]
          refine wpAnyH_take (i := 62) (oi := alOp 62) (v := .bool true) al_hi62 al_sel (by kernel_rfl) (by kernel_rfl) (fun _ _ _ h => h) (Or.inl ⟨want_none al_g62, fun w hSw => run_pick al_op62 rfl rfl⟩) (by assumption) ?_
          simp only [Act.put, al_dst62, List.setIfInBounds_toArray, List.set_cons_zero, List.set_cons_succ]
          refine wpAnyH_take (i := 63) (oi := alOp 63) (v := .bool true) al_hi63 al_sel (by kernel_rfl) (by kernel_rfl) (fun _ _ _ h => h) (Or.inl ⟨want_none al_g63, fun w hSw => run_move al_op63 rfl⟩) (by assumption) ?_
          simp only [Act.put, al_dst63, List.setIfInBounds_toArray, List.set_cons_zero, List.set_cons_succ]
          refine wpAnyH_take (i := 64) (oi := alOp 64) (v := .slice (some ⟨G3, 0, none⟩) 32 c3) al_hi64 al_sel (by kernel_rfl) (by kernel_rfl) (fun _ _ _ h => h) (Or.inl ⟨want_some al_g64 al_hi63 al_dst63 (by rfl), fun w hSw => run_move al_op64 rfl⟩) (by assumption) ?_
          simp only [Act.put, al_dst64, List.setIfInBounds_toArray, List.set_cons_zero, List.set_cons_succ]
          refine wpAnyH_take (i := 65) (oi := alOp 65) (v := .int .i64 32) al_hi65 al_sel (by kernel_rfl) (by kernel_rfl) (fun _ _ _ h => h) (Or.inl ⟨want_some al_g65 al_hi63 al_dst63 (by rfl), fun w hSw => run_len al_op65 rfl (len_u _ _ _ _ _)⟩) (by assumption) ?_
          simp only [Act.put, al_dst65, List.setIfInBounds_toArray, List.set_cons_zero, List.set_cons_succ]
          refine wpAnyH_take (i := 66) (oi := alOp 66) (v := .bool true) al_hi66 al_sel (by kernel_rfl) (by kernel_rfl) (fun _ _ _ h => h) (Or.inl ⟨want_some al_g66 al_hi63 al_dst63 (by rfl), fun w hSw => run_eq al_op66 rfl rfl (eqg_int _ _ _ _ _ _ _) (eq_int _ _)⟩) (by assumption) ?_
          simp only [Act.put, al_dst66, List.setIfInBounds_toArray, List.set_cons_zero, List.set_cons_succ]
          refine wpAnyH_take (i := 67) (oi := alOp 67) (v := .bool true) al_hi67 al_sel (by kernel_rfl) (by kernel_rfl) (fun _ _ _ h => h) (Or.inl ⟨want_none al_g67, fun w hSw => run_pick al_op67 rfl rfl⟩) (by assumption) ?_
          simp only [Act.put, al_dst67, List.setIfInBounds_toArray, List.set_cons_zero, List.set_cons_succ]
          refine wpAnyH_take (i := 68) (oi := alOp 68) (v := .bool true) al_hi68 al_sel (by kernel_rfl) (by kernel_rfl) (fun _ _ _ h => h) (Or.inl ⟨want_none al_g68, fun w hSw => run_move al_op68 rfl⟩) (by assumption) ?_
          simp only [Act.put, al_dst68, List.setIfInBounds_toArray, List.set_cons_zero, List.set_cons_succ]
          refine wpAnyH_take (i := 69) (oi := alOp 69) (v := .slice (some ⟨G3, 0, none⟩) 32 c3) al_hi69 al_sel (by kernel_rfl) (by kernel_rfl) (fun _ _ _ h => h) (Or.inl ⟨want_some al_g69 al_hi68 al_dst68 (by rfl), fun w hSw => run_move al_op69 rfl⟩) (by assumption) ?_
          simp only [Act.put, al_dst69, List.setIfInBounds_toArray, List.set_cons_zero, List.set_cons_succ]
          refine wpAnyH_take (i := 70) (oi := alOp 70) (v := .pointer (some ⟨G3, 11, none⟩)) al_hi70 al_sel (by kernel_rfl) (by kernel_rfl) (fun _ _ _ h => h) (Or.inl ⟨want_some al_g70 al_hi68 al_dst68 (by rfl), fun w hSw => run_index al_op70 rfl (at_k G3 32 c3 11 _ (by decide))⟩) (by assumption) ?_
          simp only [Act.put, al_dst70, List.setIfInBounds_toArray, List.set_cons_zero, List.set_cons_succ]
          refine wpAnyH_take (i := 71) (oi := alOp 71) (v := .int .u8 5) al_hi71 al_sel (by kernel_rfl) (by kernel_rfl) (fun _ _ _ h => h) (Or.inl ⟨want_some al_g71 al_hi68 al_dst68 (by rfl), fun w hSw => run_cell al_op71 rfl (ld_u8 hSw.2.2.2.1)⟩) (by assumption) ?_
          simp only [Act.put, al_dst71, List.setIfInBounds_toArray, List.set_cons_zero, List.set_cons_succ]
          refine wpAnyH_take (i := 72) (oi := alOp 72) (v := .bool true) al_hi72 al_sel (by kernel_rfl) (by kernel_rfl) (fun _ _ _ h => h) (Or.inl ⟨want_some al_g72 al_hi68 al_dst68 (by rfl), fun w hSw => run_eq al_op72 rfl rfl (eqg_int _ _ _ _ _ _ _) (eq_u8 _ _)⟩) (by assumption) ?_
          simp only [Act.put, al_dst72, List.setIfInBounds_toArray, List.set_cons_zero, List.set_cons_succ]
          refine wpAnyH_take (i := 73) (oi := alOp 73) (v := .bool true) al_hi73 al_sel (by kernel_rfl) (by kernel_rfl) (fun _ _ _ h => h) (Or.inl ⟨want_none al_g73, fun w hSw => run_pick al_op73 rfl rfl⟩) (by assumption) ?_
          simp only [Act.put, al_dst73, List.setIfInBounds_toArray, List.set_cons_zero, List.set_cons_succ]
          refine wpAnyH_take (i := 74) (oi := alOp 74) (v := .bool true) al_hi74 al_sel (by kernel_rfl) (by kernel_rfl) (fun _ _ _ h => h) (Or.inl ⟨want_none al_g74, fun w hSw => run_assign al_op74 rfl⟩) (by assumption) ?_
          simp only [Act.put, al_dst74, List.setIfInBounds_toArray, List.set_cons_zero, List.set_cons_succ]
          refine wpAnyH_done (by kernel_rfl) ?_ _
          refine NoPanic.normal ?_
          go_wp2
          go_ret
          exact ⟨rfl, hB13⟩
end Go.Proofs.Ytecbhhfncklefac
