/- The walk of 'MarksPuts': true for any message and any size; nothing that was there turns. -/
import Derived.Test.YtmjjoiljdcjhdaaDoorLeft
import Derived.Test.YtmjjoiljdcjhdaaDoorSame
import Derived.Test.YtmjjoiljdcjhdaaDoorRefMk
import Derived.Test.YtmjjoiljdcjhdaaDoorTwinOwn
import Derived.WalkSmall
namespace Go.Proofs.YtmjjoiljdcjhdaaDoor
set_option linter.unusedVariables false
open Go.RowKit

theorem lists4 {base : Nat} {W : World} {e1 e2 e3 e4 : Ent} (o1 : W.ownsRow base 5 1 e1.v e1.len (e1.xs.map (Value.int .u8))) (o2 : W.ownsRow base 5 1 e2.v e2.len (e2.xs.map (Value.int .u8))) (o3 : W.ownsRow base 5 1 e3.v e3.len (e3.xs.map (Value.int .u8))) (o4 : W.ownsRow base 5 1 e4.v e4.len (e4.xs.map (Value.int .u8))) : Lists base W [e1, e2, e3, e4] 0 := by
  intro j hj
  rw [if_neg (by omega)]
  match j, hj with
  | 0, _ => exact o1
  | 1, _ => exact o2
  | 2, _ => exact o3
  | 3, _ => exact o4

theorem apt_of {es : List Ent} (h : es.Pairwise fun p q => ∀ g, p.v.ownBlock = some g → q.v.ownBlock ≠ some g) : Apt es := by
  intro i j hi hj hij g hg hg2
  rcases Nat.lt_or_gt_of_ne hij with h1 | h1
  · exact List.pairwise_iff_getElem.1 h i j hi hj h1 g hg hg2
  · exact List.pairwise_iff_getElem.1 h j i hj hi h1 g hg2 hg

theorem small4 {e1 e2 e3 e4 : Ent} (h1 : e1.len ≤ 1073741824) (h2 : e2.len ≤ 1073741824) (h3 : e3.len ≤ 1073741824) (h4 : e4.len ≤ 1073741824) (n1 : e1.num = 1) (n2 : e2.num = 2) (n3 : e3.num = 3) (n4 : e4.num = 4) : Small [e1, e2, e3, e4] := by
  refine ⟨by simp, fun j hj => ?_⟩
  match j, hj with
  | 0, _ => exact ⟨h1, by show 0 ≤ e1.num; omega, by show e1.num ≤ 1000000; omega⟩
  | 1, _ => exact ⟨h2, by show 0 ≤ e2.num; omega, by show e2.num ≤ 1000000; omega⟩
  | 2, _ => exact ⟨h3, by show 0 ≤ e3.num; omega, by show e3.num ≤ 1000000; omega⟩
  | 3, _ => exact ⟨h4, by show 0 ≤ e4.num; omega, by show e4.num ≤ 1000000; omega⟩

theorem cutZs_le (size : Int) (zs : List Int) : (cutZs size zs).length ≤ 400000 := by
  unfold cutZs
  split
  · rename_i h
    unfold cutE at h
    split at h
    · cases h
    · split at h
      · cases h
      · have := (cut_length size.toNat zs (by omega)).2
        omega
  · simp

theorem putZs_le (zs : List Int) : (putZs zs).length ≤ 400000 := by
  unfold putZs
  split
  · rw [frag_length]; omega
  · simp

set_option maxRecDepth 100000 in
set_option maxHeartbeats 2000000 in
theorem mputs_walk (a : Option Addr) (len cap : Nat) (n : Int) (zs : List Int) (w : World) (hlc : len ≤ cap) (hm : cap ≤ 9223372036854775807) (hz : zs.length = len) (hb : Byt zs) (hs : Seg w a zs) (hnil : a = none → len = 0 ∧ cap = 0) (hn : -9223372036854775808 ≤ n) (hn2 : n ≤ 9223372036854775807) :
    Calls Tryd.prog 3 #[.slice a len cap, .int .i64 n] w fun e w' => e = .returned (.bool true) ∧ Below w.heap.size w w' := by
  by_cases hl : 200000 < len
  · go_enter Tryd.func3, Tryd.ntmps3
    go_wp2
    go_ret
    exact ⟨rfl, Below.refl _ _⟩
  · go_enter Tryd.func3, Tryd.ntmps3
    go_wp2_with fail
    refine (twin_any a len cap zs w (by omega) hz hs).mono ?_
    rintro e w2 ⟨rfl, hb2, ho2⟩
    have T2 : Twinned w w.heap.size zs w2 := ⟨hb2, by rw [hz]; exact ho2⟩
    have hg2 : w.heap.size < w2.heap.size := (own_lt ho2 rfl).2
    obtain ⟨g, hg⟩ : ∃ g, w.heap.size = g := ⟨_, rfl⟩
    have T2 : Twinned w g zs w2 := by rw [← hg]; exact T2
    rw [hg] at hg2
    have Hg : Hid (w.heap.size = g) := hg
    simp only [hg]
    clear ho2 hb2 hg
    go_wp2_with fail
    refine (mput_any (some ⟨g, 0, none⟩) len (len + 1) zs w2 (by omega) (by omega) hz T2.seg (by simp)).mono ?_
    rintro e w3 ⟨vx, rfl, ox, hb3⟩
    have T3 := T2.next hb3
    have h23 := hb3.size
    have hxl : ∀ k, vx.ownBlock = some k → w2.heap.size ≤ k ∧ k < w3.heap.size := fun k hk => own_lt ox hk
    replace ox := own_base ox T2.below.size
    clear hb3 T2
    go_wp2_with fail
    refine (cut_any (some ⟨g, 0, none⟩) len (len + 1) n zs w3 (by omega) (by omega) hz T3.seg (by simp) hn hn2).mono ?_
    rintro e w4 ⟨vy, rfl, oy, hb4⟩
    have T4 := T3.next hb4
    have h34 := hb4.size
    have hyl : ∀ k, vy.ownBlock = some k → w3.heap.size ≤ k ∧ k < w4.heap.size := fun k hk => own_lt oy hk
    replace oy := own_base oy T3.below.size
    replace ox := own_below ox hb4
    clear hb4 T3
    go_wp2_with fail
    refine (cut_any (some ⟨g, 0, none⟩) len (len + 1) n zs w4 (by omega) (by omega) hz T4.seg (by simp) hn hn2).mono ?_
    rintro e w5 ⟨vu, rfl, ou, hb5⟩
    have T5 := T4.next hb5
    have hul : ∀ k, vu.ownBlock = some k → w4.heap.size ≤ k := fun k hk => (own_lt ou hk).1
    replace ou := own_base ou T4.below.size
    replace oy := own_below oy hb5
    replace ox := own_below ox hb5
    clear hb5 T4
    go_wp2_with fail
    refine (refmput_any a len cap zs w5 hlc hm hz (hs.below T5.below) hnil).mono ?_
    rintro e w6 ⟨vp, rfl, op, hb6⟩
    have T6 := T5.next hb6
    replace ou := own_below ou hb6
    replace oy := own_below oy hb6
    replace ox := own_below ox hb6
    replace op := own_base op T5.below.size
    clear hb6 T5
    go_wp2_with fail
    refine (refcut_any a len cap n zs w6 hlc hm hz (hs.below T6.below) hnil hn hn2).mono ?_
    rintro e w7 ⟨vq, rfl, oq, hb7⟩
    have T7 := T6.next hb7
    replace ou := own_below ou hb7
    replace oy := own_below oy hb7
    replace ox := own_below ox hb7
    replace op := own_below op hb7
    clear hb7 T6
    have hZ1 := putZs_le zs
    have hZ2 := cutZs_le n zs
    generalize putZs zs = xs at *
    generalize cutZs n zs = ys at *
    generalize putE len = E1 at *
    generalize cutE n len = E2 at *
    obtain ⟨q, hq⟩ : ∃ q, xs.length = q := ⟨_, rfl⟩
    obtain ⟨r, hr⟩ : ∃ r, ys.length = r := ⟨_, rfl⟩
    rw [hq] at ox op hZ1
    rw [hr] at oy ou oq hZ2
    obtain ⟨ax, cx, rfl, sx, _⟩ := got_val ox hq
    obtain ⟨ay, cy, rfl, sy, _⟩ := got_val oy hr
    obtain ⟨au, cu, rfl, su, _⟩ := got_val ou hr
    obtain ⟨ap, cp, rfl, sp, _⟩ := got_val op hq
    obtain ⟨aq, cq, rfl, sq, _⟩ := got_val oq hr
    clear op oq
    have hE1 : ((E1 : Int) != E1) = false := by simp
    have hE2 : ((E2 : Int) != E2) = false := by simp
    have hsa := hs.below T7.below
    have K7 : Kp w [⟨some ⟨g, 0, none⟩, len, len + 1, 1, zs⟩, ⟨ax, q, cx, 2, xs⟩, ⟨ay, r, cy, 3, ys⟩, ⟨au, r, cu, 4, ys⟩] w7 := ⟨T7.below, lists4 (T7.own hz) ox oy ou⟩
    have hA : Apt [⟨some ⟨g, 0, none⟩, len, len + 1, 1, zs⟩, ⟨ax, q, cx, 2, xs⟩, ⟨ay, r, cy, 3, ys⟩, ⟨au, r, cu, 4, ys⟩] := apt_of (by
      have e1 : ∀ k, (Ent.v ⟨some ⟨g, 0, none⟩, len, len + 1, 1, zs⟩).ownBlock = some k → g = k := fun k hk => Option.some.inj hk
      refine List.Pairwise.cons ?_ (List.Pairwise.cons ?_ (List.Pairwise.cons ?_ (List.pairwise_singleton _ _)))
      · intro p hp k hk hk2
        have := e1 k hk
        simp only [List.mem_cons, List.not_mem_nil, or_false] at hp
        rcases hp with rfl | rfl | rfl
        · have := hxl k hk2; omega
        · have := hyl k hk2; omega
        · have := hul k hk2; omega
      · intro p hp k hk hk2
        have := hxl k hk
        simp only [List.mem_cons, List.not_mem_nil, or_false] at hp
        rcases hp with rfl | rfl
        · have := hyl k hk2; omega
        · have := hul k hk2; omega
      · intro p hp k hk hk2
        have := hyl k hk
        simp only [List.mem_cons, List.not_mem_nil, or_false] at hp
        subst hp
        have := hul k hk2
        omega)
    clear ox oy ou hxl hyl hul hg2 h23 h34
    go_wp2_with fail
    refine (same_true _ _ q cx cp xs w7 (by omega) hq sx sp).mono ?_
    rintro e w' ⟨rfl, j7, rfl⟩
    have hd := below_drewN (Below.refl w7.heap.size w7) j7
    have K8 := K7.next hd
    have T8 := T7.next hd
    have sy8 := sy.below hd
    have sq8 := sq.below hd
    have sa8 := hsa.below hd
    generalize w7.drewN j7 = w8 at *
    clear K7 T7 sx sy sp sq su hsa hd
    go_wp2_with fail
    refine (same_true _ _ r cy cq ys w8 (by omega) hr sy8 sq8).mono ?_
    rintro e w' ⟨rfl, j8, rfl⟩
    have hd := below_drewN (Below.refl w8.heap.size w8) j8
    have K9 := K8.next hd
    have T9 := T8.next hd
    have sa9 := sa8.below hd
    generalize w8.drewN j8 = w9 at *
    clear K8 T8 sy8 sq8 sa8 hd
    go_wp2_with fail
    refine (left g len a cap zs w9 (by omega) hz sa9 T9.twin).mono ?_
    rintro e w' ⟨rfl, j9, rfl⟩
    have K10 := K9.drewN j9
    generalize w9.drewN j9 = w10 at *
    clear K9 T9 sa9
    go_wp2_with fail
    have H0 := Hd.start K10
    generalize w10.alloc (.cells #[.int .i64 0, .slice none 0 0, .slice none 0 0, .slice none 0 0, .slice none 0 0, .slice none 0 0, .slice none 0 0, .slice none 0 0] 37) = v0 at *
    generalize w10.heap.size = B at *
    clear K10
    refine (H0.bytes (some ⟨g, 0, none⟩) len (len + 1) (by omega) (by omega) (by simp)).mono ?_
    rintro e v1 ⟨rfl, vb1, H1⟩
    clear H0
    go_wp2_with fail
    refine (H1.bytes ax q cx (by omega) (by omega) (by simp)).mono ?_
    rintro e v2 ⟨rfl, vb2, H2⟩
    clear H1
    go_wp2_with fail
    refine (H2.bytes ay r cy (by omega) (by omega) (by simp)).mono ?_
    rintro e v3 ⟨rfl, vb3, H3⟩
    clear H2
    go_wp2_with fail
    refine (H3.bytes au r cu (by omega) (by omega) (by simp)).mono ?_
    rintro e v4 ⟨rfl, vb4, H4⟩
    clear H3
    go_wp2_with fail
    refine (H4.apart rfl hA (small4 (by show len ≤ _; omega) (by show q ≤ _; omega) (by show r ≤ _; omega) (by show r ≤ _; omega) rfl rfl rfl rfl)).mono ?_
    rintro e v5 ⟨rfl, hfin⟩
    clear H4
    go_wp2
    go_ret
    exact ⟨rfl, hfin⟩
end Go.Proofs.YtmjjoiljdcjhdaaDoor
