/- 'alive' of calls: the answers that the document fixes are given. -/
import Derived.Test.YtciinabhelfnoaaCallPut2M
import Derived.Test.YtciinabhelfnoaaCallGetM
import Derived.Test.YtciinabhelfnoaaLitsSmall6M
import Derived.Test.YtciinabhelfnoaaSame
import Derived.Test.YtciinabhelfnoaaPxKitAppendEachM
import Derived.WalkSmall
namespace Go.Proofs.Ytciinabhelfnoaa
set_option linter.unusedVariables false
open Go.RowKit

theorem small_put : callZ 1 100003 3 0 0 0 ⟨#[]⟩ 0 0 [] [] = smallB := by decide
theorem small_got : clE (smallB ++ [97, 98]) = 0 ∧ clP (smallB ++ [97, 98]) = 100003 ∧ clV (smallB ++ [97, 98]) = 3 ∧ clB (smallB ++ [97, 98]) = [97, 98] := by decide
theorem small_less : clE (smallB.take 39) = 4 := by decide
theorem small_bad : clE (smallB.set 7 1) = 5 := by decide
theorem small_byt : Byt smallB := byt_of_all (by decide)

theorem ok_lit (x p v c f : Int) (w : World) (hx : 0 ≤ x ∧ x ≤ 4294967295) (hp : 0 ≤ p ∧ p ≤ 4294967295) (hv : 0 ≤ v ∧ v ≤ 4294967295) (hc : 0 ≤ c ∧ c ≤ 4294967295) (hf : 0 ≤ f ∧ f ≤ 4294967295) : CallOk x p v c f ⟨#[]⟩ 0 0 0 none 0 0 none 0 0 [] [] w :=
  ⟨hx, hp, hv, hc, hf, by decide, by decide, by decide, by decide, by decide, by decide, rfl, fun i => by simp, .inl rfl, by decide, by decide, rfl, fun i => by simp, .inl rfl, fun _ => ⟨rfl, rfl⟩⟩

theorem put_small (w : World) : Calls Try.prog 10 #[.agg #[.int .u32 1, .int .u32 100003, .int .u32 3, .int .u32 0, .int .u32 0, .string ⟨#[]⟩, .int .u32 0, .int .u32 0, .int .u32 0, .slice none 0 0, .slice none 0 0]] w fun e w' => ∃ vb, e = .returned (.tuple #[vb, .int .i64 0]) ∧ w'.ownsRow w.heap.size 5 1 vb 40 (smallB.map (Value.int .u8)) ∧ Below w.heap.size w w' := by
  refine (clput_any 1 100003 3 0 0 ⟨#[]⟩ 0 0 0 none 0 0 none 0 0 [] [] w (ok_lit 1 100003 3 0 0 w (by decide) (by decide) (by decide) (by decide) (by decide))).mono ?_
  rw [small_put]
  rintro e w' ⟨hB, ⟨hno, _⟩ | ⟨_, hbig, _⟩ | ⟨_, _, vb, rfl, ho⟩⟩
  · exact absurd (.inl ⟨rfl, rfl, rfl, rfl, rfl, rfl⟩) hno
  · exact absurd hbig (by decide)
  · exact ⟨vb, rfl, ho, hB⟩

theorem put_flavor (w : World) : Calls Try.prog 10 #[.agg #[.int .u32 0, .int .u32 0, .int .u32 0, .int .u32 0, .int .u32 2, .string ⟨#[]⟩, .int .u32 0, .int .u32 0, .int .u32 0, .slice none 0 0, .slice none 0 0]] w fun e w' => e = .returned (.tuple #[.slice none 0 0, .int .i64 1]) ∧ Below w.heap.size w w' := by
  refine (clput_any 0 0 0 0 2 ⟨#[]⟩ 0 0 0 none 0 0 none 0 0 [] [] w (ok_lit 0 0 0 0 2 w (by decide) (by decide) (by decide) (by decide) (by decide))).mono ?_
  have hm : ¬ MayWho 2 ⟨#[]⟩ 0 0 0 0 := by rintro (⟨h, _⟩ | ⟨h, _⟩) <;> exact absurd h (by decide)
  rintro e w' ⟨hB, ⟨_, rfl⟩ | ⟨hm', _⟩ | ⟨hm', _⟩⟩
  · exact ⟨rfl, hB⟩
  · exact absurd hm' hm
  · exact absurd hm' hm

theorem put_great (w : World) (g : Nat) (n : Nat) (hn : 65536 ≤ n) (hm : n ≤ 1000000) (ho : Seg w (some ⟨g, 0, none⟩) (List.replicate n 0)) : Calls Try.prog 10 #[.agg #[.int .u32 0, .int .u32 0, .int .u32 0, .int .u32 0, .int .u32 0, .string ⟨#[]⟩, .int .u32 0, .int .u32 0, .int .u32 0, .slice none 0 0, .slice (some ⟨g, 0, none⟩) n n]] w fun e w' => e = .returned (.tuple #[.slice none 0 0, .int .i64 3]) ∧ Below w.heap.size w w' := by
  refine (clput_any 0 0 0 0 0 ⟨#[]⟩ 0 0 0 none 0 0 (some ⟨g, 0, none⟩) n n [] (List.replicate n 0) w ⟨by decide, by decide, by decide, by decide, by decide, by decide, by decide, by decide, by decide, by decide, by decide, rfl, fun i => by simp, .inl rfl, Nat.le_refl _, by omega, List.length_replicate, byt_of_all (fun z hz => by rw [List.mem_replicate] at hz; omega), ho, fun h => by cases h⟩).mono ?_
  have hlen : (callZ 0 0 0 0 0 0 ⟨#[]⟩ 0 0 [] (List.replicate n 0)).length = 40 + n := by rw [callZ, callB_length, whoB, if_pos rfl, List.length_replicate]; rfl
  rw [hlen]
  rintro e w' ⟨hB, ⟨hno, _⟩ | ⟨_, _, rfl⟩ | ⟨_, hs, _⟩⟩
  · exact absurd (.inl ⟨rfl, rfl, rfl, rfl, rfl, rfl⟩) hno
  · exact ⟨rfl, hB⟩
  · omega

theorem replicate_made (k : Nat) : (madeCells (Value.int .u8 0).cells (k * 1)).toList = (List.replicate k (0 : Int)).map (Value.int .u8) := by
  rw [Nat.mul_one, show (Value.int .u8 0).cells = #[.int .u8 0] from rfl, toList_madeCells_one]
  simp

set_option maxRecDepth 100000 in
set_option maxHeartbeats 4000000 in
theorem alive_any (w : World) : Calls Try.prog 7 #[] w fun e w' => e = .returned (.bool true) ∧ Below w.heap.size w w' := by
  obtain ⟨i0, hi, hz0, hz1', hz2⟩ := info_parts infoB
  obtain ⟨t1, t2, t3, t4⟩ := small_got
  have hl40 : smallB.length = 40 := rfl
  have hsb := small_byt
  go_enter Try.func7, Try.ntmps7
  go_wp2_with fail
  refine (put_small _).mono ?_
  rintro e w1 ⟨vb, rfl, ob, hB1⟩
  obtain ⟨gb, kb, rfl, hkb, hkb', _⟩ := own_shape ob (by decide)
  go_wp2_with fail
  refine (small_any _).mono ?_
  rintro e w2 ⟨v2, rfl, o2, hb2⟩
  have P : Px w1 v2 smallB w2 := ⟨hb2, o2⟩
  obtain ⟨g2, k2, rfl, hk2, hk2', hg2⟩ := own_shape o2 (by decide)
  have hlit := seg_lit w2 5 [97, 98]
  have Q := P.next ((Below.refl _ _).alloc (Nat.le_refl _) (.cells (([97, 98] : List Int).map (Value.int .u8)).toArray 5))
  clear P o2 hb2
  go_wp2_with (at_builtin; refine wpList_append_own _ rfl _ _ 26 rfl w1.heap.size 5 i0 (.int .u8 0) 1 1 Try.underlying26 hi hz0 hz1' hz2 rfl (by decide) (.slice (some ⟨g2, 0, none⟩) 40 k2) 40 _ rfl Q.own ⟨w2.heap.size, 0, none⟩ 2 2 (([97, 98] : List Int).map (Value.int .u8)) rfl rfl (seg_news hlit) (news_one _) (by unfold maxLen; omega) (by omega) Q.below.size ?_; intro v3 w3 ho hg hx9; clear hx9; have P3 := Q.app (ys := [97, 98]) (n := 2) ho rfl hg; clear Q ho hg hlit)
  obtain ⟨a3, k3, rfl, s3, hlc3, hm3, hn3⟩ := own_val P3.own rfl
  have hb3 := P3.below
  clear P3
  refine (clget_any a3 42 k3 (smallB ++ [97, 98]) w3 hlc3 hm3 rfl (hsb.append (byt_of_all (by decide))) s3 hn3).mono ?_
  rintro e w4 ⟨hb4, ⟨hne, _⟩ | ⟨_, ga, gc, ba, bc, rfl, og, od⟩⟩
  · exact absurd t1 hne
  rw [t2, t3, t4]
  rw [t4, show ([97, 98] : List Int).length = 2 from rfl] at od
  clear og s3 hn3 t1 t2 t3 t4
  generalize clX (smallB ++ [97, 98]) = z1
  generalize clC (smallB ++ [97, 98]) = z2
  generalize clF (smallB ++ [97, 98]) = z3
  generalize clM (smallB ++ [97, 98]) = z4
  generalize clS (smallB ++ [97, 98]) = z5
  generalize clU (smallB ++ [97, 98]) = z6
  generalize clG (smallB ++ [97, 98]) = z7
  generalize clL (smallB ++ [97, 98]) = z8
  have hb14 := hb3.trans (hb4.mono hb3.size)
  clear hb3 hb4
  go_wp2_with fail
  have hb44 : Below w4.heap.size w4 (w4.alloc (.cells #[.int .u32 z1, .int .u32 100003, .int .u32 3, .int .u32 z2, .int .u32 z3, .string (strOfNums z4), .int .u32 z5, .int .u32 z6, .int .u32 z7, .slice ga z8.length gc, .slice ba 2 bc] 28)) := (Below.refl _ _).alloc (Nat.le_refl _) _
  have hc4 : (w4.alloc (.cells #[.int .u32 z1, .int .u32 100003, .int .u32 3, .int .u32 z2, .int .u32 z3, .string (strOfNums z4), .int .u32 z5, .int .u32 z6, .int .u32 z7, .slice ga z8.length gc, .slice ba 2 bc] 28)).heap[w4.heap.size]? = some (.cells #[.int .u32 z1, .int .u32 100003, .int .u32 3, .int .u32 z2, .int .u32 z3, .string (strOfNums z4), .int .u32 z5, .int .u32 z6, .int .u32 z7, .slice ga z8.length gc, .slice ba 2 bc] 28) := heap_alloc_new w4 _
  generalize w4.alloc (.cells #[.int .u32 z1, .int .u32 100003, .int .u32 3, .int .u32 z2, .int .u32 z3, .string (strOfNums z4), .int .u32 z5, .int .u32 z6, .int .u32 z7, .slice ga z8.length gc, .slice ba 2 bc] 28) = u4 at *
  generalize hH4 : w4.heap.size = H4 at *
  replace od := own_below od (by rw [hH4]; exact hb44)
  have hb1u := hb14.trans (hb44.mono (by rw [← hH4]; exact hb14.size))
  clear hb14 hb44 hH4 w4
  refine (small_any _).mono ?_
  rintro e w5 ⟨v5, rfl, o5, hb5⟩
  obtain ⟨g5, k5, rfl, hk5, hk5', hg5⟩ := own_shape o5 (by decide)
  have s5 := (seg_own o5 rfl).take 39
  clear o5
  go_wp2_with fail
  refine (clget_any (some ⟨g5, 0, none⟩) 39 k5 (smallB.take 39) w5 (by omega) hk5' rfl (hsb.take _) s5 (fun h => by cases h)).mono ?_
  rintro e w6 ⟨hb6, ⟨_, rfl⟩ | ⟨he, _⟩⟩
  case inr => rw [small_less] at he; exact absurd he (by decide)
  rw [small_less]
  have hb46 := hb5.trans (hb6.mono hb5.size)
  clear hb5 hb6 s5
  go_wp2_with fail
  have hb6u := hb46.alloc hb46.size (.cells #[.int .u32 0, .int .u32 0, .int .u32 0, .int .u32 0, .int .u32 0, .string ⟨#[]⟩, .int .u32 0, .int .u32 0, .int .u32 0, .slice none 0 0, .slice none 0 0] 28)
  generalize w6.alloc (.cells #[.int .u32 0, .int .u32 0, .int .u32 0, .int .u32 0, .int .u32 0, .string ⟨#[]⟩, .int .u32 0, .int .u32 0, .int .u32 0, .slice none 0 0, .slice none 0 0] 28) = u6 at *
  clear hb46
  refine (small_any _).mono ?_
  rintro e w7 ⟨v7, rfl, o7, hb7⟩
  obtain ⟨g7, k7, rfl, hk7, hk7', hg7⟩ := own_shape o7 (by decide)
  have c7 : w7.cell? ⟨g7, 7, none⟩ = some (.int .u8 0) := (o7.cellAt 7 (by omega)).trans rfl
  have f7 : w7.frozen? ⟨g7, 7, none⟩ = false := o7.frozenAt 7
  have o8 := (o7.stored 7 (.int .u8 1)).1
  rw [show (smallB.map (Value.int .u8)).set 7 (.int .u8 1) = (smallB.set 7 1).map (Value.int .u8) from by rw [List.map_set]] at o8
  have hb8 : Below u6.heap.size u6 (w7.setCell ⟨g7, 7, none⟩ (.int .u8 1)) := hb7.setCell hg7 _
  clear o7 hb7
  go_wp2_with fail
  generalize w7.setCell ⟨g7, 7, none⟩ (.int .u8 1) = w8 at *
  clear c7 f7
  refine (clget_any (some ⟨g7, 0, none⟩) 40 k7 (smallB.set 7 1) w8 hk7 hk7' (by simp [hl40]) (byt_of_all (by decide)) (seg_own o8 (by simp [hl40])) (fun h => by cases h)).mono ?_
  rintro e w9 ⟨hb9, ⟨_, rfl⟩ | ⟨he, _⟩⟩
  case inr => rw [small_bad] at he; exact absurd he (by decide)
  rw [small_bad]
  have hb69 := hb8.trans (hb9.mono hb8.size)
  have hb49 := hb6u.trans (hb69.mono hb6u.size)
  clear hb8 hb9 o8 hb69 hb6u
  go_wp2_with fail
  have hb4u := hb49.alloc hb49.size (.cells #[.int .u32 0, .int .u32 0, .int .u32 0, .int .u32 0, .int .u32 0, .string ⟨#[]⟩, .int .u32 0, .int .u32 0, .int .u32 0, .slice none 0 0, .slice none 0 0] 28)
  generalize w9.alloc (.cells #[.int .u32 0, .int .u32 0, .int .u32 0, .int .u32 0, .int .u32 0, .string ⟨#[]⟩, .int .u32 0, .int .u32 0, .int .u32 0, .slice none 0 0, .slice none 0 0] 28) = u9 at *
  clear hb49
  refine (put_flavor _).mono ?_
  rintro e w10 ⟨rfl, hb10⟩
  have hb4a := hb4u.trans (hb10.mono hb4u.size)
  clear hb4u hb10
  go_wp2_with (at_make; refine wpList_make_full _ rfl _ _ 26 rfl _ 5 i0 (.int .u8 0) 1 Try.underlying26 hi hz0 hz1' .i64 .i64 _ _ 65536 rfl rfl rfl rfl (by rw [hz2]; omega) (by unfold maxLen; omega) (Nat.le_refl _) ?_; intro w11 o11 hg11)
  rw [replicate_made] at o11
  have hb4b := hb4a.grown hg11 hb4a.size (by simp)
  refine (put_great w11 w10.heap.size 65536 (by omega) (by omega) (seg_own o11 List.length_replicate)).mono ?_
  rintro e w12 ⟨rfl, hb12⟩
  have hb4c := hb4b.trans (hb12.mono hb4b.size)
  clear hb4b hb12 o11 hg11 hb4a
  replace hc4 := (hb4c.block _ (Array.getElem?_eq_some_iff.1 hc4).1).trans hc4
  replace od := own_below od hb4c
  have hb1c := hb1u.trans (hb4c.mono hb1u.size)
  replace ob := own_below ob hb1c
  have hB := hB1.trans (hb1c.mono hB1.size)
  clear hb1u hb4c hb1c hB1
  obtain ⟨_, c1, c2, _, _, _, _, _, _, _, c10⟩ := call_at hc4
  have td := own_text od rfl
  clear td c1 c2 c10
  go_wp2_with fail
  refine (small_any w12).mono ?_
  rintro e w13 ⟨vs, rfl, os, hb13⟩
  obtain ⟨gs, ks, rfl, hks, hks', hgs⟩ := own_shape os (by decide)
  replace hc4 := (hb13.block _ (Array.getElem?_eq_some_iff.1 hc4).1).trans hc4
  replace od := own_below od hb13
  replace ob := own_below ob hb13
  replace hB := hB.trans (hb13.mono hB.size)
  clear hb13
  go_wp2_with fail
  refine (same_true (some ⟨gb, 0, none⟩) (some ⟨gs, 0, none⟩) 40 kb ks smallB w13 (by omega) rfl (seg_own ob rfl) (seg_own os rfl)).mono ?_
  rintro e w14 ⟨rfl, n14, hw14⟩
  have hb14 : Below w13.heap.size w13 w14 := by rw [hw14]; exact below_drewN (Below.refl _ _) n14
  replace hc4 := (hb14.block _ (Array.getElem?_eq_some_iff.1 hc4).1).trans hc4
  replace od := own_below od hb14
  replace hB := hB.trans (hb14.mono hB.size)
  clear hb14 hw14 ob os
  obtain ⟨_, c1, c2, _, _, _, _, _, _, _, c10⟩ := call_at hc4
  have td := own_text od rfl
  rw [show strOfNums [97, 98] = ⟨#[97, 98]⟩ from rfl] at td
  clear od hc4
  go_wp2
  go_ret
  exact ⟨rfl, hB⟩
end Go.Proofs.Ytciinabhelfnoaa
