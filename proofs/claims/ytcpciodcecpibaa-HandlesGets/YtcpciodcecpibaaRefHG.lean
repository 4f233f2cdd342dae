/- The document's Get of a handle; nothing that was there turns. -/
import Derived.Test.YtcpciodcecpibaaRefHand
import Derived.Test.YtcpciodcecpibaaRef4
import Derived.Test.YtcpciodcecpibaaHGet16
import Derived.Test.YtcpciodcecpibaaTexts
namespace Go.Proofs.Ytcpciodcecpibaa
set_option linter.unusedVariables false
open Go.RowKit

set_option maxRecDepth 100000 in
set_option maxHeartbeats 2000000 in
theorem refhget_len (a : Option Addr) (len cap : Nat) (w : World) (h16 : len ≠ 16) :
    Calls Try.prog 11 #[.slice a len cap] w fun e w' => e = .returned (.tuple #[.agg #[.int .i64 0, .int .u32 0], .int .i64 5]) ∧ Below w.heap.size w w' := by
  have hB1 : Below w.heap.size w (w.alloc (.cells #[.int .i64 0, .int .u32 0] 27)) := (Below.refl _ _).alloc (Nat.le_refl _) _
  have hh1 := World.alloc_heap_new w (.cells #[.int .i64 0, .int .u32 0] 27)
  have hne : ((len : Int) != 16) = true := by simp; omega
  go_enter Try.func11, Try.ntmps11
  go_wp2
  refine bodyPost_ret (results_row_tmp (p := 2) (u := 3) (ty := 27) rfl _ _ w.heap.size 27 _ (0, 0) _ (by rfl) hh1 Try.underlying27 rfl (by kernel_rfl)) rfl ⟨rfl, ?_⟩
  exact hB1

set_option maxRecDepth 100000 in
set_option maxHeartbeats 2000000 in
theorem refhget_16 (a : Option Addr) (cap : Nat) (zs : List Int) (w : World) (hlc : 16 ≤ cap) (hm : cap ≤ 9223372036854775807) (hz : zs.length = 16) (hb : Byt zs) (hs : Seg w a zs) :
    Calls Try.prog 11 #[.slice a 16 cap] w fun e w' => e = .returned (.tuple #[.agg #[.int .i64 (hgN zs), .int .u32 (hgG zs)], .int .i64 (hgE zs)]) ∧ Below w.heap.size w w' := by
  obtain ⟨b, off, rfl⟩ : ∃ b off, a = some ⟨b, off, none⟩ := by
    rcases hs with h | ⟨b, o, e, _⟩
    · rw [h] at hz; simp at hz
    · exact ⟨b, o, e⟩
  have hB1 : Below w.heap.size w (w.alloc (.cells #[.int .i64 0, .int .u32 0] 27)) := (Below.refl _ _).alloc (Nat.le_refl _) _
  have hh1 := World.alloc_heap_new w (.cells #[.int .i64 0, .int .u32 0] 27)
  have hN := nodeOf_lt hb
  have hG := genOf_lt hb
  have g4 : getN (zs.drop 4) = nodeOf zs := by simp [getN, nodeOf, hz]
  have e4 : getE (zs.drop 4) = 0 := by simp [getE, hz]
  have g8 : getN (zs.drop 8) = genOf zs := by simp [getN, genOf, hz]
  have e8 : getE (zs.drop 8) = 0 := by simp [getE, hz]
  have hs1 := hs.below hB1
  have hget4 := refget_any (some ⟨b, off + 4, none⟩) 12 (cap - 4) (zs.drop 4) _ (by omega) (by omega) (by simp [hz]) (hb.drop' 4) (hs1.drop 4)
  have hget8 := refget_any (some ⟨b, off + 8, none⟩) 8 (cap - 8) (zs.drop 8) _ (by omega) (by omega) (by simp [hz]) (hb.drop' 8) (hs1.drop 8)
  rw [g4, e4] at hget4
  rw [g8, e8] at hget8
  have hgok2 : hgok zs = (okN (nodeOf zs) && decide (zs = hB (nodeOf zs) (genOf zs))) := by simp [hgok, hz, okN]
  have hin : Hid (hgok zs = true → hgE zs = 0 ∧ hgN zs = nodeOf zs ∧ hgG zs = genOf zs) := fun h => by simp [hgE, hgN, hgG, h]
  have hout : Hid (hgok zs = false → hgE zs = 5 ∧ hgN zs = 0 ∧ hgG zs = 0) := hg_bad
  generalize hE : hgE zs = E
  generalize hN' : hgN zs = N
  generalize hG' : hgG zs = G
  have hNN : Hid (hgN zs = N) := hN'
  have hGG : Hid (hgG zs = G) := hG'
  have hEE : Hid (hgE zs = E) := hE
  clear hE hN' hG' g4 e4 g8 e8
  go_enter Try.func11, Try.ntmps11
  go_wp2_with fail
  generalize w.alloc (.cells #[.int .i64 0, .int .u32 0] 27) = w1 at *
  refine hget4.mono ?_
  rintro e w' ⟨rfl, rfl⟩
  go_wp2_with fail
  refine hget8.mono ?_
  rintro e w'' ⟨rfl, rfl⟩
  clear hget4 hget8
  obtain ⟨w1, hw1⟩ : ∃ w1, w1 = w'' := ⟨_, rfl⟩
  subst hw1
  go_wp2_with fail
  rcases (show nodeOf zs < 1 ∨ 1024 < nodeOf zs ∨ (1 ≤ nodeOf zs ∧ nodeOf zs ≤ 1024) by omega) with hx | hx | hx
  · have hok : okN (nodeOf zs) = false := by simp [okN]; omega
    obtain ⟨r1, r2, r3⟩ := hout.out (by rw [hgok2, hok]; rfl)
    have hN1 := hNN.out.symm.trans r2
    have hG1 := hGG.out.symm.trans r3
    have hE1 := hEE.out.symm.trans r1
    subst hN1 hG1 hE1
    clear r1 r2 r3 hgok2 hNN hGG hEE hin hout hok
    have q1 : decide (nodeOf zs < 1) = true := by simp; omega
    generalize nodeOf zs = x at *
    generalize genOf zs = y at *
    go_quiet (fail)
    have hb4 : Below w1.heap.size w1 (w1.drewN nq) := below_drewN (Below.refl _ _) nq
    have hh4 := (hb4.block _ (Array.getElem?_eq_some_iff.1 hh1).1).trans hh1
    have hB4 := hB1.trans (hb4.mono hB1.size)
    generalize w1.drewN nq = W4 at *
    clear hb4 hh1 hB1 hs1
    have f0 : W4.frozen? ⟨w.heap.size, 0, none⟩ = false := by simp [World.frozen?, hh4]
    have f1 : W4.frozen? ⟨w.heap.size, 1, none⟩ = false := by simp [World.frozen?, hh4]
    have c0 : W4.cell? ⟨w.heap.size, 0, none⟩ = some (.int .i64 0) := by simp [World.cell?, hh4]
    have c1 : W4.cell? ⟨w.heap.size, 1, none⟩ = some (.int .u32 0) := by simp [World.cell?, hh4]
    go_wp2
    refine bodyPost_ret (results_row_tmp (p := 2) (u := 3) (ty := 27) rfl _ _ w.heap.size 27 _ (0, 0) _ (by rfl) (hand_set hh4 0 0) Try.underlying27 rfl (by kernel_rfl)) rfl ⟨rfl, ?_⟩
    exact (hB4.setCell (p := ⟨w.heap.size, 0, none⟩) (Nat.le_refl _) _).setCell (p := ⟨w.heap.size, 1, none⟩) (Nat.le_refl _) _
  · have hok : okN (nodeOf zs) = false := by simp [okN]; omega
    obtain ⟨r1, r2, r3⟩ := hout.out (by rw [hgok2, hok]; rfl)
    have hN1 := hNN.out.symm.trans r2
    have hG1 := hGG.out.symm.trans r3
    have hE1 := hEE.out.symm.trans r1
    subst hN1 hG1 hE1
    clear r1 r2 r3 hgok2 hNN hGG hEE hin hout hok
    have q1 : decide (nodeOf zs < 1) = false := by simp; omega
    have q2 : decide (1024 < nodeOf zs) = true := by simp; omega
    generalize nodeOf zs = x at *
    generalize genOf zs = y at *
    go_quiet (fail)
    have hb4 : Below w1.heap.size w1 (w1.drewN nq) := below_drewN (Below.refl _ _) nq
    have hh4 := (hb4.block _ (Array.getElem?_eq_some_iff.1 hh1).1).trans hh1
    have hB4 := hB1.trans (hb4.mono hB1.size)
    generalize w1.drewN nq = W4 at *
    clear hb4 hh1 hB1 hs1
    have f0 : W4.frozen? ⟨w.heap.size, 0, none⟩ = false := by simp [World.frozen?, hh4]
    have f1 : W4.frozen? ⟨w.heap.size, 1, none⟩ = false := by simp [World.frozen?, hh4]
    have c0 : W4.cell? ⟨w.heap.size, 0, none⟩ = some (.int .i64 0) := by simp [World.cell?, hh4]
    have c1 : W4.cell? ⟨w.heap.size, 1, none⟩ = some (.int .u32 0) := by simp [World.cell?, hh4]
    go_wp2
    refine bodyPost_ret (results_row_tmp (p := 2) (u := 3) (ty := 27) rfl _ _ w.heap.size 27 _ (0, 0) _ (by rfl) (hand_set hh4 0 0) Try.underlying27 rfl (by kernel_rfl)) rfl ⟨rfl, ?_⟩
    exact (hB4.setCell (p := ⟨w.heap.size, 0, none⟩) (Nat.le_refl _) _).setCell (p := ⟨w.heap.size, 1, none⟩) (Nat.le_refl _) _
  · have hok : okN (nodeOf zs) = true := by simp [okN, hx.1, hx.2]
    have hdd : Hid (hgok zs = decide (hB (nodeOf zs) (genOf zs) = zs)) := by
      show _ = _
      rw [hgok2, hok, Bool.true_and]
      exact decide_eq_decide.2 ⟨fun h => h.symm, fun h => h.symm⟩
    have hbt := fun w => refbytes_any (nodeOf zs) (genOf zs) w hN.1 hN.2 hG.1 hG.2
    have hlB := hB_length (nodeOf zs) (genOf zs)
    have hsi : ∀ h : strOfNums (hB (nodeOf zs) (genOf zs)) = strOfNums zs, hB (nodeOf zs) (genOf zs) = zs := fun h => str_inj (byt_hB _ _) hb h
    have D1 : Below w1.heap.size w1 w1.drew := ⟨rfl, rfl, rfl, Nat.le_refl _, fun _ _ => rfl⟩
    have hs2 := hs1.below D1
    have S2 := seg_text (cap := cap) hs2 hz (by decide)
    have hh2 := (D1.block _ (Array.getElem?_eq_some_iff.1 hh1).1).trans hh1
    have hB2 := hB1.trans (D1.mono hB1.size)
    clear hgok2 hok
    have q1 : decide (nodeOf zs < 1) = false := by simp; omega
    have q2 : decide (1024 < nodeOf zs) = false := by simp; omega
    generalize nodeOf zs = x at *
    generalize genOf zs = y at *
    refine wp_region_noPanic ?_
    refine wp_region_held_drew (S := fun w' => (convert 22 9 (.slice (some ⟨b, off, none⟩) 16 cap)).run Try.prog w' = .ok (.string (strOfNums zs)) w') (by kernel_rfl) (by assumption) (fun hHeld => ?_)
    refine wpAnyH_take (i := 0) (v := ?v0) rfl (by kernel_rfl) (by kernel_rfl) (by kernel_rfl) (fun _ _ _ h => h) (Or.inl ⟨by rfl, ?y0⟩) (by assumption) ?r0
    case y0 => intro w hSw; go_simp; first | done | with_reducible rfl
    simp only [Act.put, List.getElem_toArray, List.getElem_cons_zero, List.setIfInBounds_toArray, List.set_cons_zero, List.set_cons_succ]
    refine wpAnyH_take (i := 1) (v := ?v1) rfl (by kernel_rfl) (by kernel_rfl) (by kernel_rfl) (fun _ _ _ h => h) (Or.inl ⟨by rfl, ?y1⟩) (by assumption) ?r1
    case y1 => intro w hSw; go_simp; first | done | with_reducible rfl
    simp only [Act.put, List.getElem_toArray, List.getElem_cons_zero, List.getElem_cons_succ, List.setIfInBounds_toArray, List.set_cons_zero, List.set_cons_succ]
    refine wpAnyH_take (i := 2) (v := ?v2) rfl (by kernel_rfl) (by kernel_rfl) (by kernel_rfl) (fun _ _ _ h => h) (Or.inl ⟨by rfl, ?y2⟩) (by assumption) ?r2
    case y2 => intro w hSw; go_simp; first | done | with_reducible rfl
    simp only [Act.put, List.getElem_toArray, List.getElem_cons_zero, List.getElem_cons_succ, List.setIfInBounds_toArray, List.set_cons_zero, List.set_cons_succ]
    refine wpAnyH_take (i := 3) (v := ?v3) rfl (by kernel_rfl) (by kernel_rfl) (by kernel_rfl) (fun _ _ _ h => h) (Or.inl ⟨by rfl, ?y3⟩) (by assumption) ?r3
    case y3 => intro w hSw; go_simp; first | done | with_reducible rfl
    simp only [Act.put, List.getElem_toArray, List.getElem_cons_zero, List.getElem_cons_succ, List.setIfInBounds_toArray, List.set_cons_zero, List.set_cons_succ]
    refine wpAnyH_take (i := 4) (v := ?v4) rfl (by kernel_rfl) (by kernel_rfl) (by kernel_rfl) (fun _ _ _ h => h) (Or.inl ⟨by rfl, ?y4⟩) (by assumption) ?r4
    case y4 => intro w hSw; go_simp; first | done | with_reducible rfl
    simp only [Act.put, List.getElem_toArray, List.getElem_cons_zero, List.getElem_cons_succ, List.setIfInBounds_toArray, List.set_cons_zero, List.set_cons_succ]
    refine wpAnyH_take (i := 5) (v := ?v5) rfl (by kernel_rfl) (by kernel_rfl) (by kernel_rfl) (fun _ _ _ h => h) (Or.inl ⟨by rfl, ?y5⟩) (by assumption) ?r5
    case y5 => intro w hSw; go_simp; first | done | with_reducible rfl
    simp only [Act.put, List.getElem_toArray, List.getElem_cons_zero, List.getElem_cons_succ, List.setIfInBounds_toArray, List.set_cons_zero, List.set_cons_succ]
    refine wpAnyH_take (i := 6) (v := ?v6) rfl (by kernel_rfl) (by kernel_rfl) (by kernel_rfl) (fun _ _ _ h => h) (Or.inl ⟨by rfl, ?y6⟩) (by assumption) ?r6
    case y6 => intro w hSw; go_simp; first | done | with_reducible rfl
    simp only [Act.put, List.getElem_toArray, List.getElem_cons_zero, List.getElem_cons_succ, List.setIfInBounds_toArray, List.set_cons_zero, List.set_cons_succ]
    refine wpAnyH_take (i := 7) (v := ?v7) rfl (by kernel_rfl) (by kernel_rfl) (by kernel_rfl) (fun _ _ _ h => h) (Or.inl ⟨by rfl, ?y7⟩) (by assumption) ?r7
    case y7 => intro w hSw; go_simp; first | done | with_reducible rfl
    simp only [Act.put, List.getElem_toArray, List.getElem_cons_zero, List.getElem_cons_succ, List.setIfInBounds_toArray, List.set_cons_zero, List.set_cons_succ]
    refine wpAnyH_take (i := 8) (v := ?v8) rfl (by kernel_rfl) (by kernel_rfl) (by kernel_rfl) (fun _ _ _ h => h) (Or.inl ⟨by rfl, ?y8⟩) (by assumption) ?r8
    case y8 => intro w hSw; go_simp; first | done | with_reducible rfl
    simp only [Act.put, List.getElem_toArray, List.getElem_cons_zero, List.getElem_cons_succ, List.setIfInBounds_toArray, List.set_cons_zero, List.set_cons_succ]
    refine wpAnyH_take (i := 11) (v := ?v11) rfl (by kernel_rfl) (by kernel_rfl) (by kernel_rfl) (fun _ _ _ h => h) (Or.inl ⟨by rfl, ?y11⟩) (by assumption) ?r11
    case y11 => intro w hSw; go_simp; first | done | with_reducible rfl
    simp only [Act.put, List.getElem_toArray, List.getElem_cons_zero, List.getElem_cons_succ, List.setIfInBounds_toArray, List.set_cons_zero, List.set_cons_succ]
    refine wpAnyH_take (i := 12) (v := ?v12) rfl (by kernel_rfl) (by kernel_rfl) (by kernel_rfl) (fun _ _ _ h => h) (Or.inl ⟨by rfl, ?y12⟩) (by assumption) ?r12
    case y12 => intro w hSw; go_simp; first | done | with_reducible rfl
    simp only [Act.put, List.getElem_toArray, List.getElem_cons_zero, List.getElem_cons_succ, List.setIfInBounds_toArray, List.set_cons_zero, List.set_cons_succ]
    refine wpAnyH_ready (rs := [9]) (by kernel_rfl) (by simp) ?_
    refine AllReadyH.cons rfl (fun K hK => ?_) AllReadyH.nil
    go_simp
    refine (hbt _).mono ?_; rintro e W3 ⟨g3, c3, rfl, hc3, hown3, hb3⟩; have hs3 := hs2.below hb3; have S3 := seg_text (cap := cap) hs3 hz (by decide); have tx3 := seg_text (cap := c3) (seg_own hown3 hlB) hlB (by decide); have hh3 := (hb3.block _ (Array.getElem?_eq_some_iff.1 hh2).1).trans hh2; have hB3 := hB2.trans (hb3.mono hB2.size)
    go_wp2_with fail
    refine hK.out _ _ (by assumption) (fun hHeld => ?_)
    clear hK K
    try simp only [Act.put, List.getElem_toArray, List.getElem_cons_zero, List.getElem_cons_succ, List.setIfInBounds_toArray, List.set_cons_zero, List.set_cons_succ]
    refine wpAnyH_ready (rs := [10]) (by kernel_rfl) (by simp) ?_
    refine AllReadyH.cons rfl (fun K hK => ?_) AllReadyH.nil
    go_simp
    go_wp2_with fail
    refine hK.out _ _ (by assumption) (fun hHeld => ?_)
    clear hK K
    try simp only [Act.put, List.getElem_toArray, List.getElem_cons_zero, List.getElem_cons_succ, List.setIfInBounds_toArray, List.set_cons_zero, List.set_cons_succ]
    refine wpAnyH_take (i := 13) (v := ?v13) rfl (by kernel_rfl) (by kernel_rfl) (by kernel_rfl) (fun _ _ _ h => h) (Or.inl ⟨by rfl, ?y13⟩) (by assumption) ?r13
    case y13 => intro w hSw; go_simp; first | done | with_reducible rfl
    simp only [Act.put, List.getElem_toArray, List.getElem_cons_zero, List.getElem_cons_succ, List.setIfInBounds_toArray, List.set_cons_zero, List.set_cons_succ]
    refine wpAnyH_take (i := 14) (v := ?v14) rfl (by kernel_rfl) (by kernel_rfl) (by kernel_rfl) (fun _ _ _ h => h) (Or.inl ⟨by rfl, ?y14⟩) (by assumption) ?r14
    case y14 => intro w hSw; go_simp; first | done | with_reducible rfl
    simp only [Act.put, List.getElem_toArray, List.getElem_cons_zero, List.getElem_cons_succ, List.setIfInBounds_toArray, List.set_cons_zero, List.set_cons_succ]
    refine wpAnyH_done (by kernel_rfl) ?_ _
    refine NoPanic.normal ?_
    have hsq : ((strOfNums (hB x y)).toList == (strOfNums zs).toList) = decide (hB x y = zs) := by
      by_cases h : hB x y = zs
      · simp [h]
      · rw [decide_eq_false h, ← beq_toListBytes]
        show ((strOfNums (hB x y)).data == (strOfNums zs).data) = false
        exact beq_eq_false_iff_ne.2 fun e => h (hsi (ByteArray.ext e))
    rw [hsq]
    clear hsq hsi hs3 S3 tx3 hown3 hb3 hHeld hlB hbt hs2 S2 hh2 hB2 D1 hs1 hh1 hB1
    generalize decide (hB x y = zs) = q at *
    cases q with
    | false =>
      obtain ⟨r1, r2, r3⟩ := hout.out hdd.out
      have hN1 := hNN.out.symm.trans r2
      have hG1 := hGG.out.symm.trans r3
      have hE1 := hEE.out.symm.trans r1
      subst hN1 hG1 hE1
      clear r1 r2 r3 hNN hGG hEE hin hout hdd
      have f0 : W3.frozen? ⟨w.heap.size, 0, none⟩ = false := by simp [World.frozen?, hh3]
      have f1 : W3.frozen? ⟨w.heap.size, 1, none⟩ = false := by simp [World.frozen?, hh3]
      have c0 : W3.cell? ⟨w.heap.size, 0, none⟩ = some (.int .i64 0) := by simp [World.cell?, hh3]
      have c1 : W3.cell? ⟨w.heap.size, 1, none⟩ = some (.int .u32 0) := by simp [World.cell?, hh3]
      go_wp2
      refine bodyPost_ret (results_row_tmp (p := 2) (u := 3) (ty := 27) rfl _ _ w.heap.size 27 _ (0, 0) _ (by rfl) (hand_set hh3 0 0) Try.underlying27 rfl (by kernel_rfl)) rfl ⟨rfl, ?_⟩
      exact (hB3.setCell (p := ⟨w.heap.size, 0, none⟩) (Nat.le_refl _) _).setCell (p := ⟨w.heap.size, 1, none⟩) (Nat.le_refl _) _
    | true =>
      obtain ⟨r1, r2, r3⟩ := hin.out hdd.out
      have hN1 := hNN.out.symm.trans r2
      have hG1 := hGG.out.symm.trans r3
      have hE1 := hEE.out.symm.trans r1
      subst hN1 hG1 hE1
      clear r1 r2 r3 hNN hGG hEE hin hout hdd
      have f0 : W3.frozen? ⟨w.heap.size, 0, none⟩ = false := by simp [World.frozen?, hh3]
      have f1 : W3.frozen? ⟨w.heap.size, 1, none⟩ = false := by simp [World.frozen?, hh3]
      have c0 : W3.cell? ⟨w.heap.size, 0, none⟩ = some (.int .i64 0) := by simp [World.cell?, hh3]
      have c1 : W3.cell? ⟨w.heap.size, 1, none⟩ = some (.int .u32 0) := by simp [World.cell?, hh3]
      go_wp2
      refine bodyPost_ret (results_row_tmp (p := 2) (u := 3) (ty := 27) rfl _ _ w.heap.size 27 _ (0, 0) _ (by rfl) (hand_set hh3 N G) Try.underlying27 rfl (by kernel_rfl)) rfl ⟨rfl, ?_⟩
      exact (hB3.setCell (p := ⟨w.heap.size, 0, none⟩) (Nat.le_refl _) _).setCell (p := ⟨w.heap.size, 1, none⟩) (Nat.le_refl _) _

theorem refhget_any (a : Option Addr) (len cap : Nat) (zs : List Int) (w : World) (hlc : len ≤ cap) (hm : cap ≤ 9223372036854775807) (hz : zs.length = len) (hb : Byt zs) (hs : Seg w a zs) :
    Calls Try.prog 11 #[.slice a len cap] w fun e w' => e = .returned (.tuple #[.agg #[.int .i64 (hgN zs), .int .u32 (hgG zs)], .int .i64 (hgE zs)]) ∧ Below w.heap.size w w' := by
  by_cases h : len = 16
  · subst h
    exact refhget_16 a cap zs w hlc hm hz hb hs
  · obtain ⟨h1, h2, h3⟩ := hg_bad (hg_len (zs := zs) (by omega))
    rw [h1, h2, h3]
    exact refhget_len a len cap w h
end Go.Proofs.Ytcpciodcecpibaa
