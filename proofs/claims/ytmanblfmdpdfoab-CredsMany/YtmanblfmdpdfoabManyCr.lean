/- The walk of 'CredsMany': true for any two numbers; nothing that was there turns. -/
import Derived.Test.YtmanblfmdpdfoabAliveCr
import Derived.Test.YtmanblfmdpdfoabSame
import Derived.Test.YtmanblfmdpdfoabPxKit
import Derived.Test.YtmanblfmdpdfoabOwnVal4
import Derived.Maps.AppendAt
import Derived.Deep.AppendLies
import Derived.Deep.RegionHeld3
import Derived.WalkSmall
namespace Go.Proofs.Ytmanblfmdpdfoab
set_option linter.unusedVariables false
open Go.RowKit

/-- More Groups than may be: refused. -/
theorem cr_many (s : Int) (m : List Int) (u g : Int) (gs : List Int) (hm : m.length ≤ 255) (h : 16 < gs.length) (h2 : gs.length ≤ 1000000) : crE (credB s m u g gs) = 3 := by
  have e : credB s m u g gs = bytesOf s 4 ++ (opBytes m ++ (bytesOf u 4 ++ (bytesOf g 4 ++ (bytesOf (gs.length : Int) 4 ++ numsB gs)))) := by
    rw [credB, numsB_one, numsB_three]
    simp only [List.append_assoc]
  have h1 : (credB s m u g gs).drop 4 = opBytes m ++ (bytesOf u 4 ++ (bytesOf g 4 ++ (bytesOf (gs.length : Int) 4 ++ numsB gs))) := by rw [e]; exact List.drop_left' (bytesOf_length _ 4)
  obtain ⟨o1, o2, o3⟩ := op_more m (bytesOf u 4 ++ (bytesOf g 4 ++ (bytesOf (gs.length : Int) 4 ++ numsB gs))) 255 (by omega) (by omega)
  have hR : crR (credB s m u g gs) = bytesOf u 4 ++ (bytesOf g 4 ++ (bytesOf (gs.length : Int) 4 ++ numsB gs)) := by
    rw [crR, h1, o3]
    exact List.drop_left' (opBytes_length _)
  have hN : crN (credB s m u g gs) = gs.length := by
    rw [crN, hR, show (8 : Nat) = 4 + 4 from rfl, ← List.drop_drop, List.drop_left' (bytesOf_length _ 4), List.drop_left' (bytesOf_length _ 4), List.take_left' (bytesOf_length _ 4)]
    exact be4 (by omega)
  refine crE_4 (by rw [e, List.length_append, bytesOf_length]; omega) (by rw [h1]; exact o1) ?_ (by omega)
  rw [hR]
  simp only [List.length_append, bytesOf_length]
  omega

/-- Who calls in a box, with Groups of its own, and bytes of their own. -/
structure Mn (w : World) (vb : Value) (bs : List Int) (vg : Value) (gs : List Int) (W : World) : Prop where
  below : Below w.heap.size w W
  cred : W.heap[w.heap.size]? = some (.cells #[.int .u32 1, .int .u32 2, vg] 25)
  ownB : W.ownsRow (w.heap.size + 1) 5 1 vb bs.length (bs.map (Value.int .u8))
  ownG : W.ownsRow (w.heap.size + 1) 22 1 vg gs.length (gs.map (Value.int .u32))

section
variable {w : World} {vb : Value} {bs : List Int} {vg : Value} {gs : List Int} {W : World}
theorem Mn.next {W' : World} (h : Mn w vb bs vg gs W) (hb : Below W.heap.size W W') : Mn w vb bs vg gs W' :=
  ⟨h.below.trans (hb.mono h.below.size), (hb.block _ (Array.getElem?_eq_some_iff.1 h.cred).1).trans h.cred, own_below h.ownB hb, own_below h.ownG hb⟩
theorem Mn.lt (h : Mn w vb bs vg gs W) : w.heap.size < W.heap.size := (Array.getElem?_eq_some_iff.1 h.cred).1
/-- The Groups grow. -/
theorem Mn.mid {W1 : World} (h : Mn w vb bs vg gs W) (o : Obj) (hg : (W.alloc o).grownBy W1 vg.ownBlock) : W1.heap[w.heap.size]? = some (.cells #[.int .u32 1, .int .u32 2, vg] 25) ∧ Below w.heap.size w W1 ∧ W1.ownsRow (w.heap.size + 1) 5 1 vb bs.length (bs.map (Value.int .u8)) := by
  have h1 := h.next ((Below.refl W.heap.size W).alloc (Nat.le_refl _) o)
  have hk : Kept (fun k => vg.ownBlock = some k) (W.alloc o) W1 := (Kept.refl _ _).grown hg (fun k e => .inl e)
  exact ⟨(hk.block _ h1.lt (fun e => by have := own_lt h1.ownG e; omega)).trans h1.cred, h1.below.trans (hk.below (fun k e => by have := own_lt h1.ownG e; omega) h1.below.size), own_kept h1.ownB hk (fun g hg e => own_sep h1.ownB h1.ownG (by decide) hg e)⟩
theorem Mn.num {W1 : World} {v' : Value} {x : Int} (h1 : W1.heap[w.heap.size]? = some (.cells #[.int .u32 1, .int .u32 2, vg] 25)) (h2 : Below w.heap.size w W1) (h3 : W1.ownsRow (w.heap.size + 1) 5 1 vb bs.length (bs.map (Value.int .u8)))
    (ho : W1.ownsRow (w.heap.size + 1) 22 1 v' (gs.length + 1) (gs.map (Value.int .u32) ++ [.int .u32 x])) : Mn w vb bs v' (gs ++ [x]) (W1.setCell ⟨w.heap.size, 2, none⟩ v') := by
  have hk : Kept (fun k => k = w.heap.size) W1 (W1.setCell ⟨w.heap.size, 2, none⟩ v') := kept_one v'
  refine ⟨h2.trans (hk.below (fun k e => by omega) h2.size), setCell_same h1 v', own_kept h3 hk (fun g hg e => by have := own_lt h3 hg; omega), ?_⟩
  rw [List.length_append, List.map_append]
  exact own_kept ho hk (fun g hg e => by have := own_lt ho hg; omega)
/-- The bytes grow. -/
theorem Mn.app {W1 : World} {v' : Value} {ys : List Int} {n : Nat} (h : Mn w vb bs vg gs W) (ho : W1.ownsRow (w.heap.size + 1) 5 1 v' (bs.length + n) (bs.map (Value.int .u8) ++ ys.map (Value.int .u8))) (hn : ys.length = n) (hg : W.grownBy W1 vb.ownBlock) : Mn w v' (bs ++ ys) vg gs W1 := by
  have hk : Kept (fun k => vb.ownBlock = some k) W W1 := (Kept.refl _ _).grown hg (fun k e => .inl e)
  exact ⟨h.below.trans (hk.below (fun k e => by have := own_lt h.ownB e; omega) h.below.size), (hk.block _ h.lt (fun e => by have := own_lt h.ownB e; omega)).trans h.cred, by rw [List.length_append, hn, List.map_append]; exact ho, own_kept h.ownG hk (fun g hg e => own_sep h.ownG h.ownB (by decide) hg e)⟩
end

theorem infoN : (Try.prog.info? 22).map (fun i => (i.zero, i.size, i.bytes)) = some (some (.int .u32 0), 1, 4) := by kernel_rfl

theorem numsB_rep (k : Nat) (x : Int) : numsB (List.replicate (k + 1) x) = numsB (List.replicate k x) ++ bytesOf x 4 := by
  rw [List.replicate_succ', numsB_append, numsB_one]

set_option maxRecDepth 100000 in
set_option maxHeartbeats 4000000 in
theorem cmany_walk (n x : Int) (w : World) (hn : 0 ≤ n ∧ n ≤ 255) (hx : 0 ≤ x ∧ x ≤ 4294967295) :
    Calls Try.prog 4 #[.int .u8 n, .int .u32 x] w fun e w' => e = .returned (.bool true) ∧ Below w.heap.size w w' := by
  obtain ⟨i0, hi, hz0, hz1', hz2⟩ := info_parts infoB
  obtain ⟨j0, ji, jz0, jz1, jz2⟩ := info_parts infoN
  obtain ⟨k, hk, hk2⟩ : ∃ k : Nat, n % 40 = (k : Int) ∧ k < 40 := ⟨(n % 40).toNat, by omega, by omega⟩
  have hB0 : Below w.heap.size w (w.alloc (.cells #[.int .u32 1, .int .u32 2, .slice none 0 0] 25)) := (Below.refl _ _).alloc (Nat.le_refl _) _
  have hd0 := heap_alloc_new w (.cells #[.int .u32 1, .int .u32 2, .slice none 0 0] 25)
  have hopl : (opBytes (tz ⟨#[]⟩)).length = 4 := by decide
  have hwr : (k : Int) % 4294967296 = k := by omega
  have H6 : Hid (∀ gs : List Int, gs.length = k → credB 0 (tz ⟨#[]⟩) 1 2 gs = bytesOf 0 4 ++ opBytes (tz ⟨#[]⟩) ++ bytesOf 1 4 ++ bytesOf 2 4 ++ bytesOf (k : Int) 4 ++ numsB gs) := by intro gs h; rw [← h]; exact credB_six _ _ _ _ _
  go_enter Try.func4, Try.ntmps4
  go_wp2_with fail
  generalize w.alloc (.cells #[.int .u32 1, .int .u32 2, .slice none 0 0] 25) = w0 at *
  refine (Put_any 0 (by omega) (by omega) w0).mono ?_
  rintro e w4 ⟨rfl, ho4, hb4⟩
  have P4 : Px w0 (.slice (some ⟨w0.heap.size, 0, none⟩) 4 4) (bytesOf 0 4) w4 := ⟨hb4, by rw [bytesOf_length]; exact ho4⟩
  clear ho4 hb4
  have hl4 : (bytesOf 0 4).length ≤ 4 := by rw [bytesOf_length]; omega
  generalize bytesOf 0 4 = x4 at P4 hl4 H6
  generalize (Value.slice (some ⟨w0.heap.size, 0, none⟩) 4 4) = v4 at *
  go_wp2_with fail
  refine (strput_any ⟨#[]⟩ w4 (by decide)).mono ?_
  rintro e y4 ⟨q4, rfl, hoq, hq4⟩
  have hoq : y4.ownsRow w4.heap.size 5 1 q4 4 ((opBytes (tz ⟨#[]⟩)).map (Value.int .u8)) := hoq
  obtain ⟨gq, cq, rfl, _, _, _⟩ := own_shape hoq (by omega)
  have ns4 := seg_own hoq hopl
  have Q4 := P4.next hq4
  clear P4 hq4 hoq
  generalize opBytes (tz ⟨#[]⟩) = om at *
  go_wp2_with (at_builtin; refine wpList_append_own _ rfl _ _ 30 rfl w0.heap.size 5 i0 (.int .u8 0) 1 1 Try.underlying30 hi hz0 hz1' hz2 rfl (by decide) v4 x4.length _ rfl Q4.own ⟨gq, 0, none⟩ 4 cq ((om).map (Value.int .u8)) rfl (by simp [hopl]) (seg_news ns4) (news_one _) (by unfold maxLen; omega) (by omega) Q4.below.size ?_; intro v5 w5 ho5 hg5 _; have P5 := Q4.app ho5 (hopl) hg5)
  clear ho5 hg5 Q4 ns4
  have hl5 : (x4 ++ om).length ≤ 8 := by rw [List.length_append, hopl]; omega
  generalize x4 ++ om = x5 at P5 hl5 H6
  refine (Put_any 1 (by omega) (by omega) w5).mono ?_
  rintro e y5 ⟨rfl, hoq, hq5⟩
  have ns5 := seg_own hoq (bytesOf_length _ 4)
  have Q5 := P5.next hq5
  clear P5 hq5 hoq
  go_wp2_with (at_builtin; refine wpList_append_own _ rfl _ _ 30 rfl w0.heap.size 5 i0 (.int .u8 0) 1 1 Try.underlying30 hi hz0 hz1' hz2 rfl (by decide) v5 x5.length _ rfl Q5.own ⟨w5.heap.size, 0, none⟩ 4 4 ((bytesOf 1 4).map (Value.int .u8)) rfl (by simp [bytesOf_length]) (seg_news ns5) (news_one _) (by unfold maxLen; omega) (by omega) Q5.below.size ?_; intro v6 w6 ho6 hg6 _; have P6 := Q5.app ho6 (bytesOf_length _ 4) hg6)
  clear ho6 hg6 Q5 ns5
  have hl6 : (x5 ++ bytesOf 1 4).length ≤ 12 := by rw [List.length_append, bytesOf_length]; omega
  generalize x5 ++ bytesOf 1 4 = x6 at P6 hl6 H6
  refine (Put_any 2 (by omega) (by omega) w6).mono ?_
  rintro e y6 ⟨rfl, hoq, hq6⟩
  have ns6 := seg_own hoq (bytesOf_length _ 4)
  have Q6 := P6.next hq6
  clear P6 hq6 hoq
  go_wp2_with (at_builtin; refine wpList_append_own _ rfl _ _ 30 rfl w0.heap.size 5 i0 (.int .u8 0) 1 1 Try.underlying30 hi hz0 hz1' hz2 rfl (by decide) v6 x6.length _ rfl Q6.own ⟨w6.heap.size, 0, none⟩ 4 4 ((bytesOf 2 4).map (Value.int .u8)) rfl (by simp [bytesOf_length]) (seg_news ns6) (news_one _) (by unfold maxLen; omega) (by omega) Q6.below.size ?_; intro v7 w7 ho7 hg7 _; have P7 := Q6.app ho7 (bytesOf_length _ 4) hg7)
  clear ho7 hg7 Q6 ns6
  have hl7 : (x6 ++ bytesOf 2 4).length ≤ 16 := by rw [List.length_append, bytesOf_length]; omega
  generalize x6 ++ bytesOf 2 4 = x7 at P7 hl7 H6
  refine (Put_any (k : Int) (by omega) (by omega) w7).mono ?_
  rintro e y7 ⟨rfl, hoq, hq7⟩
  have ns7 := seg_own hoq (bytesOf_length _ 4)
  have Q7 := P7.next hq7
  clear P7 hq7 hoq
  go_wp2_with (at_builtin; refine wpList_append_own _ rfl _ _ 30 rfl w0.heap.size 5 i0 (.int .u8 0) 1 1 Try.underlying30 hi hz0 hz1' hz2 rfl (by decide) v7 x7.length _ rfl Q7.own ⟨w7.heap.size, 0, none⟩ 4 4 ((bytesOf (k : Int) 4).map (Value.int .u8)) rfl (by simp [bytesOf_length]) (seg_news ns7) (news_one _) (by unfold maxLen; omega) (by omega) Q7.below.size ?_; intro v8 w8 ho8 hg8 _; have P8 := Q7.app ho8 (bytesOf_length _ 4) hg8)
  clear ho8 hg8 Q7 ns7
  have hl8 : (x7 ++ bytesOf (k : Int) 4).length ≤ 20 := by rw [List.length_append, bytesOf_length]; omega
  generalize x7 ++ bytesOf (k : Int) 4 = x8 at P8 hl8 H6
  have M8 : Mn w v8 x8 (.slice none 0 0) [] w8 := ⟨hB0.trans (P8.below.mono hB0.size), (P8.below.block _ (Array.getElem?_eq_some_iff.1 hd0).1).trans hd0, own_base P8.own (Array.getElem?_eq_some_iff.1 hd0).1, own_empty _ _ _⟩
  clear P8 hd0 hB0 hoq
  go_loopw [7, 8] (fun vb i wr => ∃ j : Nat, j ≤ k ∧ i = .int .i64 j ∧ ∃ vg, Mn w vb (x8 ++ numsB (List.replicate j x)) vg (List.replicate j x) wr) (fun _ i _ => k - (intOf i).toNat)
  case atStart => exact ⟨0, by omega, rfl, _, by simpa [numsB] using M8⟩
  case round =>
    obtain ⟨j, hj, rfl, vg, M⟩ := hrel
    clear M8
    obtain ⟨c0, c1, c2, f0, f1, f2⟩ := cred_at M.cred
    by_cases hlt : j < k
    · have hki : (j : Int) < (k : Int) := by omega
      have hlr : (List.replicate j x).length ≤ 40 := by rw [List.length_replicate]; omega
      have hlk : (x8 ++ numsB (List.replicate j x)).length ≤ 300 := by rw [List.length_append, numsB_len, List.length_replicate]; omega
      have HT : Hid (x8 ++ numsB (List.replicate (j + 1) x) = (x8 ++ numsB (List.replicate j x)) ++ bytesOf x 4) := by show _ = _; rw [numsB_rep, List.append_assoc]
      have HR : Hid (List.replicate (j + 1) x = List.replicate j x ++ [x]) := List.replicate_succ'
      generalize x8 ++ numsB (List.replicate j x) = X at M hlk HT
      generalize List.replicate j x = G at M hlr HR
      have hsz := M.below.size
      have hM := M.lt
      go_wp2_with (at_builtin; refine wpList_append_own _ rfl _ _ 23 rfl (w.heap.size + 1) 22 j0 (.int .u32 0) 1 4 Try.underlying23 ji jz0 jz1 jz2 rfl (by decide) vg G.length _ rfl (M.ownG.alloc _) ⟨wr.heap.size, 0, none⟩ 1 1 [.int .u32 x] rfl rfl (World.news_of_block (fr := (0, 0)) (heap_alloc_new wr _)) (by simp [Value.oneCell']) (by unfold maxLen; omega) (by omega) (by simp; omega) ?_; intro v1 w1 ho1 hg1 _; obtain ⟨m1, m2, m3⟩ := M.mid _ hg1; obtain ⟨e0, e1, e2, g0, g1, g2⟩ := cred_at m1; obtain ⟨gg, cg, rfl, _, _, _⟩ := own_shape ho1 (by omega))
      have M1 := Mn.num m1 m2 m3 ho1
      clear M c0 c1 c2 f0 f1 f2 ho1 hg1 m1 m2 m3 e0 e1 e2 g0 g1 g2 hsz hM
      generalize w1.setCell ⟨w.heap.size, 2, none⟩ (.slice (some ⟨gg, 0, none⟩) (G.length + 1) cg) = w2 at *
      rw [← HR.out] at M1
      clear HR
      refine (Put_any x hx.1 hx.2 w2).mono ?_
      rintro e yk ⟨rfl, hoq, hq⟩
      have ns := seg_own hoq (bytesOf_length _ 4)
      have Q := M1.next hq
      clear M1 hq hoq
      go_wp2_with (at_builtin; refine wpList_append_own _ rfl _ _ 30 rfl (w.heap.size + 1) 5 i0 (.int .u8 0) 1 1 Try.underlying30 hi hz0 hz1' hz2 rfl (by decide) _ X.length _ rfl Q.ownB ⟨w2.heap.size, 0, none⟩ 4 4 ((bytesOf x 4).map (Value.int .u8)) rfl (by simp [bytesOf_length]) (seg_news ns) (news_one _) (by unfold maxLen; omega) (by omega) Q.lt ?_; intro v9 w9 ho9 hg9 _)
      have M9 := Q.app ho9 (bytesOf_length _ 4) hg9
      rw [← HT.out] at M9
      clear ho9 hg9 Q ns
      go_roundw
      case rel => exact ⟨j + 1, by omega, by go_num, _, M9⟩
      case measure => simp [intOf]; omega
    · obtain rfl : j = k := by omega
      obtain ⟨G, hG⟩ : ∃ G, List.replicate j x = G := ⟨_, rfl⟩
      have hGl : G.length = j := by rw [← hG, List.length_replicate]
      have hGu : U32s G := u32s_of_all (by rw [← hG]; intro z hz; rw [List.eq_of_mem_replicate hz]; exact hx)
      have hGm : ∀ z ∈ G, 0 ≤ z ∧ z ≤ 4294967295 := by rw [← hG]; intro z hz; rw [List.eq_of_mem_replicate hz]; exact hx
      rw [hG, ← H6.out G hGl] at M
      clear hG H6
      obtain ⟨ga, gc, rfl, hsG, hgc, _, _⟩ := own_val4 M.ownG rfl
      obtain ⟨ba, bc, rfl, hsB, hbc, hbm, _⟩ := own_val M.ownB rfl
      have hbyt : Byt (credB 0 (tz ⟨#[]⟩) 1 2 G) := byt_credB 0 (tz_byt _) 1 2 G
      have hlen : (credB 0 (tz ⟨#[]⟩) 1 2 G).length ≤ 400 := by rw [credB_length, hGl, tz_len, show (⟨#[]⟩ : ByteArray).size = 0 from rfl]; have := padN_lt 0; omega
      obtain ⟨c0, c1, c2, _, _, _⟩ := cred_at M.cred
      by_cases hno : 16 < j
      · have hE := cr_many 0 (tz ⟨#[]⟩) 1 2 G (by rw [tz_len]; decide) (by omega) (by omega)
        generalize credB 0 (tz ⟨#[]⟩) 1 2 G = B at *
        rw [hGl] at M c2
        go_wp2_with fail
        refine (cput_no 0 ⟨#[]⟩ 1 2 ga j gc wr (by decide) (by omega) (.inr hno)).mono ?_
        rintro e y1 ⟨rfl, hq1⟩
        have M1 := M.next hq1
        have hgt := cget_any ba B.length bc B y1 hbc hbm rfl hbyt (hsB.below hq1)
        unfold cgPost at hgt
        rw [hE] at hgt
        clear M hq1 c0 c1 c2 hE
        go_wp2_with fail
        refine hgt.mono ?_
        rintro e y2 ⟨v2, rfl, ho2, hq2⟩
        obtain ⟨a2, k2, rfl, _, _, _, _⟩ := own_val4 ho2 rfl
        have M2 := M1.next hq2
        have hb3 : Below y2.heap.size y2 (y2.alloc (.cells #[.int .u32 (cgU B), .int .u32 (cgG B), .slice a2 (cgL B).length k2] 25)) := (Below.refl _ _).alloc (Nat.le_refl _) _
        have hfin := (M2.next hb3).below
        clear hgt ho2 hq2 M1 M2
        go_wp2_with fail
        generalize y2.alloc (.cells #[.int .u32 (cgU B), .int .u32 (cgG B), .slice a2 (cgL B).length k2] 25) = y3 at *
        refine (alive_any y3).mono ?_
        rintro e y4 ⟨rfl, hq4⟩
        have hfin4 := hfin.trans (hq4.mono hfin.size)
        go_wp2
        go_ret
        exact ⟨rfl, hfin4⟩
      · have hok : CrOk 0 (tz ⟨#[]⟩) 1 2 G := ⟨by omega, by omega, by omega, hGm, by rw [tz_len]; decide, by omega⟩
        obtain ⟨q0, q1, q2, q3, q4, q5⟩ := cr_put 0 (tz ⟨#[]⟩) 1 2 G [] hok
        rw [List.append_nil] at q0 q1 q2 q3 q4 q5
        rw [if_pos rfl] at q0
        have hput := fun W hs => cput_yes 0 ⟨#[]⟩ 1 2 ga j gc G W (by decide) (by omega) (by omega) (by omega) (by omega) hGl hGu hs
        generalize credB 0 (tz ⟨#[]⟩) 1 2 G = B at *
        have hsG0 := hsG
        rw [hGl] at M c2
        go_wp2_with fail
        refine (hput wr hsG).mono ?_
        rintro e y1 ⟨v1, rfl, ho1, hq1⟩
        have M1 := M.next hq1
        obtain ⟨a1, k1, rfl, hs1, _, _, _⟩ := own_val ho1 rfl
        have hgt := cget_any ba B.length bc B y1 hbc hbm rfl hbyt (hsB.below hq1)
        unfold cgPost at hgt
        rw [cgS, cgM, cgU, cgG, cgL, if_pos q0, if_pos q0, if_pos q0, if_pos q0, if_pos q0, q0, q1, q2, q3, q4, q5, str_tz, hGl] at hgt
        have hsG1 := hsG.below hq1
        have hsB1 := hsB.below hq1
        clear M hq1 c0 c1 c2 q0 q1 q2 q3 q4 q5 hput ho1 hsG hsB hsG0
        go_wp2_with fail
        refine hgt.mono ?_
        rintro e y2 ⟨v2, rfl, ho2, hq2⟩
        obtain ⟨a2, k2, rfl, hs2, _, _, _⟩ := own_val4 ho2 hGl
        have hb3 : Below y2.heap.size y2 (y2.alloc (.cells #[.int .u32 1, .int .u32 2, .slice a2 j k2] 25)) := (Below.refl _ _).alloc (Nat.le_refl _) _
        have hd3 := heap_alloc_new y2 (.cells #[.int .u32 1, .int .u32 2, .slice a2 j k2] 25)
        have M3 := (M1.next hq2).next hb3
        have hs23 := hs2.below hb3
        have hs13 := (hs1.below hq2).below hb3
        have hsG3 := (hsG1.below hq2).below hb3
        have hsB3 := (hsB1.below hq2).below hb3
        clear hgt ho2 hq2 M1 hs2 hs1 hsG1 hsB1 hb3
        go_wp2_with fail
        generalize y2.alloc (.cells #[.int .u32 1, .int .u32 2, .slice a2 j k2] 25) = y3 at *
        generalize y2.heap.size = H2 at *
        refine (alive_any y3).mono ?_
        rintro e y4 ⟨rfl, hq4⟩
        have M4 := M3.next hq4
        have hd4 := (hq4.block _ (Array.getElem?_eq_some_iff.1 hd3).1).trans hd3
        have hs24 := hs23.below hq4
        have hs14 := hs13.below hq4
        have hsG4 := hsG3.below hq4
        have hsB4 := hsB3.below hq4
        clear M3 hd3 hs23 hs13 hsG3 hsB3 hq4
        go_wp2_with fail
        refine (same_true a1 ba B.length k1 bc B y4 (by omega) rfl hs14 hsB4).mono ?_
        rintro e w' ⟨rfl, n5, rfl⟩
        have hq5 := below_drewN (Below.refl y4.heap.size y4) n5
        have M5 := M4.next hq5
        have hd5 := (hq5.block _ (Array.getElem?_eq_some_iff.1 hd4).1).trans hd4
        have hs25 := hs24.below hq5
        have hsG5 := hsG4.below hq5
        clear M4 hd4 hs24 hs14 hsG4 hsB4 hq5
        generalize y4.drewN n5 = y5 at *
        obtain ⟨c0, c1, c2, _, _, _⟩ := cred_at M5.cred
        obtain ⟨d0, d1, d2, _, _, _⟩ := cred_at hd5
        go_wp2_with fail
        refine (samecred_true 1 2 a2 ga j k2 gc G y5 (by omega) hGl hs25 hsG5).mono ?_
        rintro e y6 ⟨rfl, hq6⟩
        have hfin := (M5.next hq6).below
        clear c0 c1 c2 d0 d1 d2
        go_wp2
        go_ret
        exact ⟨rfl, hfin⟩
end Go.Proofs.Ytmanblfmdpdfoab
