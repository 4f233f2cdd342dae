/- The walk of 'MarksGreat': true for any two numbers; nothing that was there turns. -/
import Derived.Test.YtmjjoiljdcjhdabAliveMk
import Derived.Test.YtmjjoiljdcjhdabZerosOn
namespace Go.Proofs.Ytmjjoiljdcjhdab
set_option linter.unusedVariables false
open Go.RowKit

/-- What the document asks. -/
def greatE (k m : Nat) : Int :=
  if k = 0 then 5 else if 65536 < k ∨ (65536 < k + m % 2147483648 ∧ m ≠ 0) then 3 else if m = 0 then 5 else if m % 2147483648 = 0 then 0 else 4

theorem markN_bytes (n : Nat) (ys : List Int) (h : n ≤ 4294967295) : markN (bytesOf (n : Int) 4 ++ ys) = n := by
  unfold markN
  rw [List.take_left' (bytesOf_length _ 4), be_bytesOf 4 _ (by omega) (by omega)]
  omega

theorem great_tail (most m : Nat) (hm : m ≤ 4294967295) (hb : most < 2147483648) : (mg most (bytesOf (m : Int) 4)).1 = if m = 0 then 5 else if most < m % 2147483648 then 3 else if m % 2147483648 = 0 then 0 else 4 := by
  have hn : markN (bytesOf (m : Int) 4) = m := by
    have := markN_bytes m [] hm
    rwa [List.append_nil] at this
  have hk : markK (bytesOf (m : Int) 4) = m % 2147483648 := by unfold markK; rw [hn]
  have hl := bytesOf_length (m : Int) 4
  have hf : frE most (bytesOf (m : Int) 4) = if m = 0 then 5 else if most < m % 2147483648 then 3 else if m % 2147483648 = 0 then 0 else 4 := by
    unfold frE
    rw [hl, if_neg (by omega), hn, hk]
    by_cases h0 : m = 0
    · rw [if_pos h0, if_pos h0]
    · rw [if_neg h0, if_neg h0]
      by_cases h1 : most < m % 2147483648
      · rw [if_pos h1, if_pos h1]
      · rw [if_neg h1, if_neg h1]
        by_cases h2 : m % 2147483648 = 0
        · rw [if_pos h2, if_neg (by omega)]
        · rw [if_neg h2, if_pos (by omega)]
  by_cases hz : frE most (bytesOf (m : Int) 4) = 0
  · have hL : markL (bytesOf (m : Int) 4) = true := by
      unfold markL
      rw [hn, decide_eq_true_eq]
      rw [hf] at hz
      split at hz
      · cases hz
      · split at hz
        · cases hz
        · split at hz
          · omega
          · cases hz
    rw [mg_last hz hL, ← hf, hz]
  · rw [mg_bad hz, hf]

theorem great_math (k m : Nat) (hk : k < 70000) (hm : m ≤ 4294967295) : (mg 65536 (bytesOf (k : Int) 4 ++ List.replicate k 0 ++ bytesOf (m : Int) 4)).1 = greatE k m := by
  rw [List.append_assoc]
  have hn := markN_bytes k (List.replicate k 0 ++ bytesOf (m : Int) 4) (by omega)
  have hK : markK (bytesOf (k : Int) 4 ++ (List.replicate k 0 ++ bytesOf (m : Int) 4)) = k := by unfold markK; rw [hn]; omega
  have hl : (bytesOf (k : Int) 4 ++ (List.replicate k 0 ++ bytesOf (m : Int) 4)).length = 4 + (k + 4) := by simp only [List.length_append, bytesOf_length, List.length_replicate]
  have hf : frE 65536 (bytesOf (k : Int) 4 ++ (List.replicate k 0 ++ bytesOf (m : Int) 4)) = if k = 0 then 5 else if 65536 < k then 3 else 0 := by
    unfold frE
    rw [hl, if_neg (by omega), hn, hK]
    by_cases h0 : k = 0
    · rw [if_pos h0, if_pos h0]
    · rw [if_neg h0, if_neg h0]
      by_cases h1 : 65536 < k
      · rw [if_pos h1, if_pos h1]
      · rw [if_neg h1, if_neg h1, if_neg (by omega)]
  unfold greatE
  by_cases h0 : k = 0
  · rw [if_pos h0] at hf ⊢
    rw [mg_bad (by rw [hf]; decide), hf]
  · rw [if_neg h0] at hf ⊢
    by_cases h1 : 65536 < k
    · rw [if_pos h1] at hf
      rw [if_pos (.inl h1), mg_bad (by rw [hf]; decide), hf]
    · rw [if_neg h1] at hf
      have hL : markL (bytesOf (k : Int) 4 ++ (List.replicate k 0 ++ bytesOf (m : Int) 4)) = false := by
        unfold markL
        rw [hn, decide_eq_false_iff_not]
        omega
      have hd : (bytesOf (k : Int) 4 ++ (List.replicate k 0 ++ bytesOf (m : Int) 4)).drop (4 + k) = bytesOf (m : Int) 4 := by
        rw [← List.append_assoc]
        exact List.drop_left' (by simp only [List.length_append, bytesOf_length, List.length_replicate])
      rw [mg_more hf hL, hK, hd]
      have ht := great_tail (65536 - k) m hm (by omega)
      have hg : (glue (piece (bytesOf (k : Int) 4 ++ (List.replicate k 0 ++ bytesOf (m : Int) 4))) (4 + k) (mg (65536 - k) (bytesOf (m : Int) 4))).1 = (mg (65536 - k) (bytesOf (m : Int) 4)).1 := by
        unfold glue
        split
        · rename_i h
          rw [h]
        · rfl
      rw [hg, ht]
      by_cases hm0 : m = 0
      · rw [if_pos hm0, if_neg (by omega), if_pos hm0]
      · rw [if_neg hm0]
        by_cases h2 : 65536 - k < m % 2147483648
        · rw [if_pos h2, if_pos (.inr ⟨by omega, hm0⟩)]
        · have hc : ¬ (65536 < k ∨ (65536 < k + m % 2147483648 ∧ m ≠ 0)) := by omega
          rw [if_neg h2, if_neg hc, if_neg hm0]

theorem bytes4 (x : Int) : bytesOf x 4 = [x / 16777216 % 256, x / 65536 % 256, x / 256 % 256, x % 256] := by
  simp [bytesOf, byteAt, List.range_succ]

set_option maxRecDepth 100000 in
set_option maxHeartbeats 4000000 in
theorem great_walk (x m : Nat) (w : World) (hx : x ≤ 4294967295) (hm : m ≤ 4294967295) :
    Calls Try.prog 4 #[.int .u32 (x : Int), .int .u32 (m : Int)] w fun e w' => e = .returned (.bool true) ∧ Below w.heap.size w w' := by
  obtain ⟨i0, hi, hz0, hz1', hz2⟩ := info_parts infoB
  obtain ⟨k, hkx⟩ : ∃ k : Nat, x % 70000 = k := ⟨_, rfl⟩
  have hk : k < 70000 := by omega
  have hki : (x : Int) % 70000 = (k : Int) := by omega
  have hb4 : bytesOf (k : Int) 4 = [0, (k : Int) / 65536, (k : Int) / 256 % 256, (k : Int) % 256] := by
    rw [bytes4]
    congr 1
    · omega
    · congr 1
      omega
  have hb5 : bytesOf (m : Int) 4 = [(m : Int) / 16777216, (m : Int) / 65536 % 256, (m : Int) / 256 % 256, (m : Int) % 256] := by
    rw [bytes4]
    congr 1
    omega
  have hmath := great_math k m hk hm
  have HM : Hid ((mg 65536 (bytesOf (k : Int) 4 ++ List.replicate k 0 ++ bytesOf (m : Int) 4)).1 = greatE k m) := hmath
  have hsA := seg_lit w 5 (bytesOf (k : Int) 4)
  rw [hb4] at hsA
  simp only [List.map_cons, List.map_nil] at hsA
  have HB4 : Hid (bytesOf (k : Int) 4 = [0, (k : Int) / 65536, (k : Int) / 256 % 256, (k : Int) % 256]) := hb4
  have HB5 : Hid (bytesOf (m : Int) 4 = [(m : Int) / 16777216, (m : Int) / 65536 % 256, (m : Int) / 256 % 256, (m : Int) % 256]) := hb5
  have hsB := fun W => seg_lit W 5 (bytesOf (m : Int) 4)
  rw [hb5] at hsB
  simp only [List.map_cons, List.map_nil] at hsB
  have HSB : Hid (∀ W : World, Seg (W.alloc (.cells #[.int .u8 ((m : Int) / 16777216), .int .u8 ((m : Int) / 65536 % 256), .int .u8 ((m : Int) / 256 % 256), .int .u8 ((m : Int) % 256)] 5)) (some ⟨W.heap.size, 0, none⟩) [(m : Int) / 16777216, (m : Int) / 65536 % 256, (m : Int) / 256 % 256, (m : Int) % 256]) := hsB
  clear hsB hmath hb4 hb5
  have hB1 : Below w.heap.size w (w.alloc (.cells #[.int .u8 0, .int .u8 ((k : Int) / 65536), .int .u8 ((k : Int) / 256 % 256), .int .u8 ((k : Int) % 256)] 5)) := (Below.refl _ _).alloc (Nat.le_refl _) _
  go_enter Try.func4, Try.ntmps4
  go_wp2_with (first
    | (at_builtin; refine wpList_append_own _ rfl _ _ 22 rfl w.heap.size 5 i0 (.int .u8 0) 1 1 Try.underlying22 hi hz0 hz1' hz2 rfl (by decide) (.slice none 0 0) 0 [] rfl (own_empty _ _ _) ⟨w.heap.size, 0, none⟩ 4 4 ([0, (k : Int) / 65536, (k : Int) / 256 % 256, (k : Int) % 256].map (Value.int .u8)) rfl rfl (seg_news hsA) (news_one _) (by unfold maxLen; omega) (by omega) hB1.size ?_; intro v6 w6 hown6 hgrow6 _; rw [Nat.zero_add, List.nil_append] at hown6; have hB6 : Below w.heap.size w w6 := hB1.grown hgrow6 hB1.size (fun k e => by cases e); obtain ⟨g6, c6, rfl, hc6, hd6, he6⟩ := own_shape hown6 (by omega); clear hgrow6 hsA hB1)
    | (at_builtin; obtain ⟨v7, w7, hr7, hown7, hgrow7⟩ := zeros_own w6 22 w.heap.size g6 4 c6 _ k hown6 (by omega) hB6.size; refine Lib.wpList_append_run _ rfl _ _ _ _ rfl _ _ rfl rfl _ _ hr7 ?_; have hB7 : Below w.heap.size w w7 := hB6.grown hgrow7 hB6.size (fun k e => by cases e; exact he6); obtain ⟨g7, c7, rfl, hc7, hd7, he7⟩ := own_shape hown7 (by omega); have hB8 := hB7.alloc hB7.size (.cells #[.int .u8 ((m : Int) / 16777216), .int .u8 ((m : Int) / 65536 % 256), .int .u8 ((m : Int) / 256 % 256), .int .u8 ((m : Int) % 256)] 5); clear hr7 hgrow7 hown6 hB6)
    | (at_builtin; refine wpList_append_own _ rfl _ _ 22 rfl w.heap.size 5 i0 (.int .u8 0) 1 1 Try.underlying22 hi hz0 hz1' hz2 rfl (by decide) (.slice (some ⟨g7, 0, none⟩) (4 + k) c7) (4 + k) _ rfl (hown7.alloc _) ⟨w7.heap.size, 0, none⟩ 4 4 ([(m : Int) / 16777216, (m : Int) / 65536 % 256, (m : Int) / 256 % 256, (m : Int) % 256].map (Value.int .u8)) rfl rfl (seg_news (HSB.out w7)) (news_one _) (by unfold maxLen; omega) (by omega) hB8.size ?_; intro v9 w9 hown9 hgrow9 _))
  have hB9 : Below w.heap.size w w9 := hB8.grown hgrow9 hB8.size (fun k e => by cases e; exact he7)
  have hlz : (bytesOf (k : Int) 4 ++ List.replicate k 0 ++ bytesOf (m : Int) 4).length = 4 + k + 4 := by simp only [List.length_append, bytesOf_length, List.length_replicate]
  have hown : w9.ownsRow w.heap.size 5 1 v9 (4 + k + 4) ((bytesOf (k : Int) 4 ++ List.replicate k 0 ++ bytesOf (m : Int) 4).map (Value.int .u8)) := by
    rw [HB4.out, HB5.out, List.map_append, List.map_append, List.map_replicate]
    exact hown9
  have hbz : Byt (bytesOf (k : Int) 4 ++ List.replicate k 0 ++ bytesOf (m : Int) 4) := ((byt_bytesOf _ 4).append (byt_of_all fun z hz => by rw [List.mem_replicate] at hz; omega)).append (byt_bytesOf _ 4)
  obtain ⟨a9, c9, rfl, hs9, hc9, hd9, hn9⟩ := own_val hown hlz
  refine (mget_any a9 (4 + k + 4) c9 _ w9 hc9 hd9 hlz hbz hs9 hn9).mono ?_
  rintro e w10 ⟨v10, rfl, _, hb10⟩
  rw [HM.out]
  have hB10 := hB9.trans (hb10.mono hB9.size)
  clear hb10 hB9 hown hown9 hgrow9 hs9 hbz hlz hown7 HSB HB4 HB5 HM hB7 hB8
  generalize (mg 65536 (bytesOf (k : Int) 4 ++ List.replicate k 0 ++ bytesOf (m : Int) 4)).2.2 = N at *
  obtain ⟨M, hM⟩ : ∃ M : Nat, m % 2147483648 = M := ⟨_, rfl⟩
  have hMi : (m : Int) % 2147483648 = (M : Int) := by omega
  have hMb : M < 2147483648 := by omega
  by_cases h0 : k = 0
  · subst h0
    rw [show greatE 0 m = 5 from rfl]
    go_wp2_with fail
    refine (alive_any w10).mono ?_
    rintro e w11 ⟨rfl, hB11⟩
    go_wp2
    go_ret
    exact ⟨rfl, hB10.trans (hB11.mono hB10.size)⟩
  have q0 : ((k : Int) == 0) = false := by rw [beq_eq_false_iff_ne]; omega
  by_cases h1 : 65536 < k
  · have q1 : (65536 : Int) < (k : Int) := by omega
    have hE : greatE k m = 3 := by unfold greatE; rw [if_neg h0, if_pos (.inl h1)]
    rw [hE]
    clear hE
    go_wp2_with fail
    refine (alive_any w10).mono ?_
    rintro e w11 ⟨rfl, hB11⟩
    go_wp2
    go_ret
    exact ⟨rfl, hB10.trans (hB11.mono hB10.size)⟩
  have q1 : ¬ (65536 : Int) < (k : Int) := by omega
  by_cases hm0 : m = 0
  · subst hm0
    obtain rfl : M = 0 := by omega
    have hE : greatE k 0 = 5 := by
      have hc : ¬ (65536 < k ∨ (65536 < k + 0 % 2147483648 ∧ (0 : Nat) ≠ 0)) := by omega
      unfold greatE
      rw [if_neg h0, if_neg hc, if_pos rfl]
    rw [hE]
    clear hE
    go_wp2_with fail
    refine (alive_any w10).mono ?_
    rintro e w11 ⟨rfl, hB11⟩
    go_wp2
    go_ret
    exact ⟨rfl, hB10.trans (hB11.mono hB10.size)⟩
  have q2 : ((m : Int) == 0) = false := by rw [beq_eq_false_iff_ne]; omega
  have q3 : ((m : Int) != 0) = true := by simp; omega
  by_cases h2 : 65536 < k + M
  · have q4 : (65536 : Int) < (k : Int) + (M : Int) := by omega
    have hE : greatE k m = 3 := by unfold greatE; rw [hM, if_neg h0, if_pos (.inr ⟨h2, hm0⟩)]
    rw [hE]
    clear hE
    go_wp2_with fail
    refine (alive_any w10).mono ?_
    rintro e w11 ⟨rfl, hB11⟩
    go_wp2
    go_ret
    exact ⟨rfl, hB10.trans (hB11.mono hB10.size)⟩
  have q4 : ¬ (65536 : Int) < (k : Int) + (M : Int) := by omega
  have hc : ¬ (65536 < k ∨ (65536 < k + M ∧ m ≠ 0)) := by omega
  by_cases h3 : M = 0
  · have q5 : ((M : Int) == 0) = true := by simp [h3]
    have hE : greatE k m = 0 := by unfold greatE; rw [hM, if_neg h0, if_neg hc, if_neg hm0, if_pos h3]
    rw [hE]
    clear hE
    go_wp2_with fail
    refine (alive_any w10).mono ?_
    rintro e w11 ⟨rfl, hB11⟩
    go_wp2
    go_ret
    exact ⟨rfl, hB10.trans (hB11.mono hB10.size)⟩
  · have q5 : ((M : Int) == 0) = false := by rw [beq_eq_false_iff_ne]; omega
    have hE : greatE k m = 4 := by unfold greatE; rw [hM, if_neg h0, if_neg hc, if_neg hm0, if_neg h3]
    rw [hE]
    clear hE
    go_wp2_with fail
    refine (alive_any w10).mono ?_
    rintro e w11 ⟨rfl, hB11⟩
    go_wp2
    go_ret
    exact ⟨rfl, hB10.trans (hB11.mono hB10.size)⟩
end Go.Proofs.Ytmjjoiljdcjhdab
