/- The walk of RepliesRows. -/
import Derived.Test.YtmjhgpmeikpbkaaDoorAliveRp
import Derived.Test.YtmjhgpmeikpbkaaDoorAnyLaid
namespace Go.Proofs.YtmjhgpmeikpbkaaDoor
set_option linter.unusedVariables false
open Go.RowKit

theorem rp_auth_bad {x l : Int} (hx : U x) (hl : U l) (hb : l < 1 ∨ 7 < l) : rp (numsB [x, 1, 1, 1, l]) = ⟨5, 0, 0, 0, 0, []⟩ := by
  have hL : (numsB [x, 1, 1, 1, l]).length = 20 := by rw [numsB_len]; rfl
  have hr : ∀ i (hi : i < [x, 1, 1, 1, l].length), (0 ≤ [x, 1, 1, 1, l][i] ∧ [x, 1, 1, 1, l][i] ≤ 4294967295) → num (numsB [x, 1, 1, 1, l]) i = [x, 1, 1, 1, l][i] := fun i hi h1 => by
    have := num_at' [x, 1, 1, 1, l] [] i hi h1
    rwa [List.append_nil] at this
  have n1 : num (numsB [x, 1, 1, 1, l]) 1 = 1 := hr 1 (by simp) (by simp)
  have n2 : num (numsB [x, 1, 1, 1, l]) 2 = 1 := hr 2 (by simp) (by simp)
  have n3 : num (numsB [x, 1, 1, 1, l]) 3 = 1 := hr 3 (by simp) (by simp)
  have n4 : num (numsB [x, 1, 1, 1, l]) 4 = l := hr 4 (by simp) ⟨hl.lo, hl.hi⟩
  generalize numsB [x, 1, 1, 1, l] = zs at *
  rw [rp, if_neg (by omega), if_neg (by omega), if_neg (by simp [n1]), if_neg (by omega), if_pos n2, rpDenied, if_neg (by omega), if_neg (by omega), if_pos n3, if_neg (by omega), if_pos (by omega)]
  rfl

set_option maxRecDepth 100000 in
set_option maxHeartbeats 4000000 in
theorem rows_walk (x l g : Int) (w : World) (hx : U x) (hl : U l) (hg : U g) (hA : Any w) :
    Calls Tryd.prog 7 #[.int .u32 x, .int .u32 l, .int .u32 g] w fun e w' => e = .returned (.bool true) ∧ Below w.heap.size w w' := by
  have hx1 := hx.lo
  have hx2 := hx.hi
  have hl1 := hl.lo
  have hl2 := hl.hi
  have hg1 := hg.lo
  have hg2 := hg.hi
  have u0 : U 0 := ⟨by decide, by decide⟩
  have uu : ∀ n : Int, 0 ≤ n → n ≤ 4294967295 → U n := fun n a b => ⟨a, b⟩
  have eb0 : numsB [x, 1, 0, 0, 0, 0] = replyB x 0 0 0 [] := by simp [replyB, rowN, numsB]
  have er0 : rputE 0 0 0 0 = 0 := by simp [rputE, May, rowN]
  have eb1 : numsB [x, 1, 0, 0, 0, 1] = replyB x 1 0 0 [] := by simp [replyB, rowN, numsB]
  have er1 : rputE 1 0 0 0 = 0 := by simp [rputE, May, rowN]
  have eb2 : numsB [x, 1, 0, 0, 0, 3] = replyB x 3 0 0 [] := by simp [replyB, rowN, numsB]
  have er2 : rputE 3 0 0 0 = 0 := by simp [rputE, May, rowN]
  have eb3 : numsB [x, 1, 0, 0, 0, 4] = replyB x 4 0 0 [] := by simp [replyB, rowN, numsB]
  have er3 : rputE 4 0 0 0 = 0 := by simp [rputE, May, rowN]
  have eb4 : numsB [x, 1, 0, 0, 0, 2, l, g] = replyB x 2 l g [] := by simp [replyB, rowN, numsB]
  have er4 : rputE 2 l g 0 = 0 := by simp [rputE, May, rowN]
  have eb5 : numsB [x, 1, 1, 0, l, g] = replyB x 100 l g [] := by simp [replyB, rowN, numsB]
  have er5 : rputE 100 l g 0 = 0 := by simp [rputE, May, rowN]
  by_cases hmay : 1 ≤ l ∧ l ≤ 7
  · obtain ⟨hm1, hm7⟩ := hmay
    have eP : rputE 101 l 0 0 = 0 := by simp [rputE, May, rowN]; omega
    have hq : decide (l ≤ 7) = true := by simp; omega
    have eG : rp (numsB [x, 1, 1, 1, l]) = ⟨0, x, 101, l, 0, []⟩ := by
      have := rp_put (x := x) (h := 101) (l := l) (g := 0) (bs := []) hx hl u0 eP
      rw [← this]
      congr 1
    go_enter Tryd.func7, Tryd.ntmps7
    go_wp2_with fail
    refine (row_new [x, 1, 0, 0, 0, 0] 6 _ _ w (by simp) rfl (by decide) (hu_of (by intro q hq; simp at hq; omega))).mono ?_
    rintro e w1 ⟨a0, c0, rfl, _, hs0, hl0, hm0, hn0, bw1⟩
    have Bw1 := ((Below.refl w.heap.size w)).trans (bw1.mono ((Below.refl w.heap.size w)).size)
    rw [eb0] at hs0
    go_wp2_with fail
    refine (is_true x 0 0 0 none 0 0 [] a0 24 c0 w1 hx (uu 0 (by decide) (by decide)) u0 u0 (hA.below Bw1) rfl byt_nil (.inl rfl) (fun _ => ⟨rfl, rfl⟩) er0 hl0 hm0 (by rw [← eb0]; exact numsB_len _) hs0 hn0).mono ?_
    rintro e w2 ⟨rfl, bw2⟩
    have Bw2 := Bw1.trans (bw2.mono Bw1.size)
    clear hs0 hl0 hm0 hn0 bw1 bw2 eb0 er0
    go_wp2_with fail
    refine (row_new [x, 1, 0, 0, 0, 1] 6 _ _ w2 (by simp) rfl (by decide) (hu_of (by intro q hq; simp at hq; omega))).mono ?_
    rintro e w3 ⟨a1, c1, rfl, _, hs1, hl1, hm1, hn1, bw3⟩
    have Bw3 := (Bw2).trans (bw3.mono (Bw2).size)
    rw [eb1] at hs1
    go_wp2_with fail
    refine (is_true x 1 0 0 none 0 0 [] a1 24 c1 w3 hx (uu 1 (by decide) (by decide)) u0 u0 (hA.below Bw3) rfl byt_nil (.inl rfl) (fun _ => ⟨rfl, rfl⟩) er1 hl1 hm1 (by rw [← eb1]; exact numsB_len _) hs1 hn1).mono ?_
    rintro e w4 ⟨rfl, bw4⟩
    have Bw4 := Bw3.trans (bw4.mono Bw3.size)
    clear hs1 hl1 hm1 hn1 bw3 bw4 eb1 er1
    go_wp2_with fail
    refine (row_new [x, 1, 0, 0, 0, 3] 6 _ _ w4 (by simp) rfl (by decide) (hu_of (by intro q hq; simp at hq; omega))).mono ?_
    rintro e w5 ⟨a2, c2, rfl, _, hs2, hl2, hm2, hn2, bw5⟩
    have Bw5 := (Bw4).trans (bw5.mono (Bw4).size)
    rw [eb2] at hs2
    go_wp2_with fail
    refine (is_true x 3 0 0 none 0 0 [] a2 24 c2 w5 hx (uu 3 (by decide) (by decide)) u0 u0 (hA.below Bw5) rfl byt_nil (.inl rfl) (fun _ => ⟨rfl, rfl⟩) er2 hl2 hm2 (by rw [← eb2]; exact numsB_len _) hs2 hn2).mono ?_
    rintro e w6 ⟨rfl, bw6⟩
    have Bw6 := Bw5.trans (bw6.mono Bw5.size)
    clear hs2 hl2 hm2 hn2 bw5 bw6 eb2 er2
    go_wp2_with fail
    refine (row_new [x, 1, 0, 0, 0, 4] 6 _ _ w6 (by simp) rfl (by decide) (hu_of (by intro q hq; simp at hq; omega))).mono ?_
    rintro e w7 ⟨a3, c3, rfl, _, hs3, hl3, hm3, hn3, bw7⟩
    have Bw7 := (Bw6).trans (bw7.mono (Bw6).size)
    rw [eb3] at hs3
    go_wp2_with fail
    refine (is_true x 4 0 0 none 0 0 [] a3 24 c3 w7 hx (uu 4 (by decide) (by decide)) u0 u0 (hA.below Bw7) rfl byt_nil (.inl rfl) (fun _ => ⟨rfl, rfl⟩) er3 hl3 hm3 (by rw [← eb3]; exact numsB_len _) hs3 hn3).mono ?_
    rintro e w8 ⟨rfl, bw8⟩
    have Bw8 := Bw7.trans (bw8.mono Bw7.size)
    clear hs3 hl3 hm3 hn3 bw7 bw8 eb3 er3
    go_wp2_with fail
    refine (row_new [x, 1, 0, 0, 0, 2, l, g] 8 _ _ w8 (by simp) rfl (by decide) (hu_of (by intro q hq; simp at hq; omega))).mono ?_
    rintro e w9 ⟨a4, c4, rfl, _, hs4, hl4, hm4, hn4, bw9⟩
    have Bw9 := (Bw8).trans (bw9.mono (Bw8).size)
    rw [eb4] at hs4
    go_wp2_with fail
    refine (is_true x 2 l g none 0 0 [] a4 32 c4 w9 hx (uu 2 (by decide) (by decide)) hl hg (hA.below Bw9) rfl byt_nil (.inl rfl) (fun _ => ⟨rfl, rfl⟩) er4 hl4 hm4 (by rw [← eb4]; exact numsB_len _) hs4 hn4).mono ?_
    rintro e w10 ⟨rfl, bw10⟩
    have Bw10 := Bw9.trans (bw10.mono Bw9.size)
    clear hs4 hl4 hm4 hn4 bw9 bw10 eb4 er4
    go_wp2_with fail
    refine (row_new [x, 1, 1, 0, l, g] 6 _ _ w10 (by simp) rfl (by decide) (hu_of (by intro q hq; simp at hq; omega))).mono ?_
    rintro e w11 ⟨a5, c5, rfl, _, hs5, hl5, hm5, hn5, bw11⟩
    have Bw11 := (Bw10).trans (bw11.mono (Bw10).size)
    rw [eb5] at hs5
    go_wp2_with fail
    refine (is_true x 100 l g none 0 0 [] a5 24 c5 w11 hx (uu 100 (by decide) (by decide)) hl hg (hA.below Bw11) rfl byt_nil (.inl rfl) (fun _ => ⟨rfl, rfl⟩) er5 hl5 hm5 (by rw [← eb5]; exact numsB_len _) hs5 hn5).mono ?_
    rintro e w12 ⟨rfl, bw12⟩
    have Bw12 := Bw11.trans (bw12.mono Bw11.size)
    clear hs5 hl5 hm5 hn5 bw11 bw12 eb5 er5
    go_wp2_with fail
    refine (rput_eq x 101 l 0 none 0 0 [] w12 hx (uu 101 (by decide) (by decide)) hl u0 (hA.below Bw12) rfl byt_nil (.inl rfl) (fun _ => ⟨rfl, rfl⟩) (by decide) 0 eP).mono ?_
    rintro e w13 ⟨v13, rfl, _, b13⟩
    have Bw13 := Bw12.trans (b13.mono Bw12.size)
    go_wp2_with fail
    refine (row_new [x, 1, 1, 1, l] 5 _ _ w13 (by simp) rfl (by decide) (hu_of (by intro q hq; simp at hq; omega))).mono ?_
    rintro e w14 ⟨a9, c9, rfl, _, hs9, hl9, hm9, hn9, b14⟩
    have Bw14 := Bw13.trans (b14.mono Bw13.size)
    go_wp2_with fail
    refine (rget_eq a9 20 c9 (numsB [x, 1, 1, 1, l]) w14 hl9 hm9 (numsB_len _) (byt_numsB _) hs9 hn9 (hA.below Bw14) _ eG).mono ?_
    rintro e w15 ⟨b15, va, vn, vc, rfl, _⟩
    have Bw15 := Bw14.trans (b15.mono Bw14.size)
    dsimp only
    go_wp2_with fail
    refine (alive_any (w15.alloc _) (hA.below (Bw15.alloc Bw15.size _))).mono ?_
    rintro e w16 ⟨rfl, b16⟩
    have Bw16 := (Bw15.alloc Bw15.size _).trans (b16.mono (Bw15.alloc Bw15.size _).size)
    go_wp2
    go_ret
    refine ⟨?_, Bw16⟩
    first | rfl | simp [hq]
  · have eP : rputE 101 l 0 0 = 1 := by simp [rputE, May]; omega
    have eG := rp_auth_bad hx hl (by omega)
    have hmm : l < 1 ∨ 7 < l := by omega
    go_enter Tryd.func7, Tryd.ntmps7
    go_wp2_with fail
    refine (row_new [x, 1, 0, 0, 0, 0] 6 _ _ w (by simp) rfl (by decide) (hu_of (by intro q hq; simp at hq; omega))).mono ?_
    rintro e w1 ⟨a0, c0, rfl, _, hs0, hl0, hm0, hn0, bw1⟩
    have Bw1 := ((Below.refl w.heap.size w)).trans (bw1.mono ((Below.refl w.heap.size w)).size)
    rw [eb0] at hs0
    go_wp2_with fail
    refine (is_true x 0 0 0 none 0 0 [] a0 24 c0 w1 hx (uu 0 (by decide) (by decide)) u0 u0 (hA.below Bw1) rfl byt_nil (.inl rfl) (fun _ => ⟨rfl, rfl⟩) er0 hl0 hm0 (by rw [← eb0]; exact numsB_len _) hs0 hn0).mono ?_
    rintro e w2 ⟨rfl, bw2⟩
    have Bw2 := Bw1.trans (bw2.mono Bw1.size)
    clear hs0 hl0 hm0 hn0 bw1 bw2 eb0 er0
    go_wp2_with fail
    refine (row_new [x, 1, 0, 0, 0, 1] 6 _ _ w2 (by simp) rfl (by decide) (hu_of (by intro q hq; simp at hq; omega))).mono ?_
    rintro e w3 ⟨a1, c1, rfl, _, hs1, hl1, hm1, hn1, bw3⟩
    have Bw3 := (Bw2).trans (bw3.mono (Bw2).size)
    rw [eb1] at hs1
    go_wp2_with fail
    refine (is_true x 1 0 0 none 0 0 [] a1 24 c1 w3 hx (uu 1 (by decide) (by decide)) u0 u0 (hA.below Bw3) rfl byt_nil (.inl rfl) (fun _ => ⟨rfl, rfl⟩) er1 hl1 hm1 (by rw [← eb1]; exact numsB_len _) hs1 hn1).mono ?_
    rintro e w4 ⟨rfl, bw4⟩
    have Bw4 := Bw3.trans (bw4.mono Bw3.size)
    clear hs1 hl1 hm1 hn1 bw3 bw4 eb1 er1
    go_wp2_with fail
    refine (row_new [x, 1, 0, 0, 0, 3] 6 _ _ w4 (by simp) rfl (by decide) (hu_of (by intro q hq; simp at hq; omega))).mono ?_
    rintro e w5 ⟨a2, c2, rfl, _, hs2, hl2, hm2, hn2, bw5⟩
    have Bw5 := (Bw4).trans (bw5.mono (Bw4).size)
    rw [eb2] at hs2
    go_wp2_with fail
    refine (is_true x 3 0 0 none 0 0 [] a2 24 c2 w5 hx (uu 3 (by decide) (by decide)) u0 u0 (hA.below Bw5) rfl byt_nil (.inl rfl) (fun _ => ⟨rfl, rfl⟩) er2 hl2 hm2 (by rw [← eb2]; exact numsB_len _) hs2 hn2).mono ?_
    rintro e w6 ⟨rfl, bw6⟩
    have Bw6 := Bw5.trans (bw6.mono Bw5.size)
    clear hs2 hl2 hm2 hn2 bw5 bw6 eb2 er2
    go_wp2_with fail
    refine (row_new [x, 1, 0, 0, 0, 4] 6 _ _ w6 (by simp) rfl (by decide) (hu_of (by intro q hq; simp at hq; omega))).mono ?_
    rintro e w7 ⟨a3, c3, rfl, _, hs3, hl3, hm3, hn3, bw7⟩
    have Bw7 := (Bw6).trans (bw7.mono (Bw6).size)
    rw [eb3] at hs3
    go_wp2_with fail
    refine (is_true x 4 0 0 none 0 0 [] a3 24 c3 w7 hx (uu 4 (by decide) (by decide)) u0 u0 (hA.below Bw7) rfl byt_nil (.inl rfl) (fun _ => ⟨rfl, rfl⟩) er3 hl3 hm3 (by rw [← eb3]; exact numsB_len _) hs3 hn3).mono ?_
    rintro e w8 ⟨rfl, bw8⟩
    have Bw8 := Bw7.trans (bw8.mono Bw7.size)
    clear hs3 hl3 hm3 hn3 bw7 bw8 eb3 er3
    go_wp2_with fail
    refine (row_new [x, 1, 0, 0, 0, 2, l, g] 8 _ _ w8 (by simp) rfl (by decide) (hu_of (by intro q hq; simp at hq; omega))).mono ?_
    rintro e w9 ⟨a4, c4, rfl, _, hs4, hl4, hm4, hn4, bw9⟩
    have Bw9 := (Bw8).trans (bw9.mono (Bw8).size)
    rw [eb4] at hs4
    go_wp2_with fail
    refine (is_true x 2 l g none 0 0 [] a4 32 c4 w9 hx (uu 2 (by decide) (by decide)) hl hg (hA.below Bw9) rfl byt_nil (.inl rfl) (fun _ => ⟨rfl, rfl⟩) er4 hl4 hm4 (by rw [← eb4]; exact numsB_len _) hs4 hn4).mono ?_
    rintro e w10 ⟨rfl, bw10⟩
    have Bw10 := Bw9.trans (bw10.mono Bw9.size)
    clear hs4 hl4 hm4 hn4 bw9 bw10 eb4 er4
    go_wp2_with fail
    refine (row_new [x, 1, 1, 0, l, g] 6 _ _ w10 (by simp) rfl (by decide) (hu_of (by intro q hq; simp at hq; omega))).mono ?_
    rintro e w11 ⟨a5, c5, rfl, _, hs5, hl5, hm5, hn5, bw11⟩
    have Bw11 := (Bw10).trans (bw11.mono (Bw10).size)
    rw [eb5] at hs5
    go_wp2_with fail
    refine (is_true x 100 l g none 0 0 [] a5 24 c5 w11 hx (uu 100 (by decide) (by decide)) hl hg (hA.below Bw11) rfl byt_nil (.inl rfl) (fun _ => ⟨rfl, rfl⟩) er5 hl5 hm5 (by rw [← eb5]; exact numsB_len _) hs5 hn5).mono ?_
    rintro e w12 ⟨rfl, bw12⟩
    have Bw12 := Bw11.trans (bw12.mono Bw11.size)
    clear hs5 hl5 hm5 hn5 bw11 bw12 eb5 er5
    rcases hmm with hm1 | hm7
    · have hq : decide (l ≤ 7) = true := by simp; omega
      go_wp2_with fail
      refine (rput_eq x 101 l 0 none 0 0 [] w12 hx (uu 101 (by decide) (by decide)) hl u0 (hA.below Bw12) rfl byt_nil (.inl rfl) (fun _ => ⟨rfl, rfl⟩) (by decide) 1 eP).mono ?_
      rintro e w13 ⟨v13, rfl, _, b13⟩
      have Bw13 := Bw12.trans (b13.mono Bw12.size)
      go_wp2_with fail
      refine (row_new [x, 1, 1, 1, l] 5 _ _ w13 (by simp) rfl (by decide) (hu_of (by intro q hq; simp at hq; omega))).mono ?_
      rintro e w14 ⟨a9, c9, rfl, _, hs9, hl9, hm9, hn9, b14⟩
      have Bw14 := Bw13.trans (b14.mono Bw13.size)
      go_wp2_with fail
      refine (rget_eq a9 20 c9 (numsB [x, 1, 1, 1, l]) w14 hl9 hm9 (numsB_len _) (byt_numsB _) hs9 hn9 (hA.below Bw14) _ eG).mono ?_
      rintro e w15 ⟨b15, va, vn, vc, rfl, _⟩
      have Bw15 := Bw14.trans (b15.mono Bw14.size)
      dsimp only
      go_wp2_with fail
      refine (alive_any (w15.alloc _) (hA.below (Bw15.alloc Bw15.size _))).mono ?_
      rintro e w16 ⟨rfl, b16⟩
      have Bw16 := (Bw15.alloc Bw15.size _).trans (b16.mono (Bw15.alloc Bw15.size _).size)
      go_wp2
      go_ret
      refine ⟨?_, Bw16⟩
      first | rfl | simp [hq]
    · have hq : decide (l ≤ 7) = false := by simp; omega
      go_wp2_with fail
      refine (rput_eq x 101 l 0 none 0 0 [] w12 hx (uu 101 (by decide) (by decide)) hl u0 (hA.below Bw12) rfl byt_nil (.inl rfl) (fun _ => ⟨rfl, rfl⟩) (by decide) 1 eP).mono ?_
      rintro e w13 ⟨v13, rfl, _, b13⟩
      have Bw13 := Bw12.trans (b13.mono Bw12.size)
      go_wp2_with fail
      refine (row_new [x, 1, 1, 1, l] 5 _ _ w13 (by simp) rfl (by decide) (hu_of (by intro q hq; simp at hq; omega))).mono ?_
      rintro e w14 ⟨a9, c9, rfl, _, hs9, hl9, hm9, hn9, b14⟩
      have Bw14 := Bw13.trans (b14.mono Bw13.size)
      go_wp2_with fail
      refine (rget_eq a9 20 c9 (numsB [x, 1, 1, 1, l]) w14 hl9 hm9 (numsB_len _) (byt_numsB _) hs9 hn9 (hA.below Bw14) _ eG).mono ?_
      rintro e w15 ⟨b15, va, vn, vc, rfl, _⟩
      have Bw15 := Bw14.trans (b15.mono Bw14.size)
      dsimp only
      go_wp2_with fail
      refine (alive_any (w15.alloc _) (hA.below (Bw15.alloc Bw15.size _))).mono ?_
      rintro e w16 ⟨rfl, b16⟩
      have Bw16 := (Bw15.alloc Bw15.size _).trans (b16.mono (Bw15.alloc Bw15.size _).size)
      go_wp2
      go_ret
      refine ⟨?_, Bw16⟩
      first | rfl | simp [hq]
end Go.Proofs.YtmjhgpmeikpbkaaDoor
