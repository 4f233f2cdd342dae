/- The walk of RepliesBody. -/
import Derived.Test.YtmjhgpmeikpbkabDoorAliveRp
import Derived.Test.YtmjhgpmeikpbkabDoorAnyLaid
namespace Go.Proofs.YtmjhgpmeikpbkabDoor
set_option linter.unusedVariables false
open Go.RowKit

theorem body_bytes (x : Int) (bs : List Int) : (bytesOf x 4 ++ numsB [1, 0, 0, 0, 0]) ++ bs = replyB x 0 0 0 bs := by
  simp [replyB, rowN, numsB]

set_option maxRecDepth 100000 in
set_option maxHeartbeats 4000000 in
theorem body_any (x : Int) (ba : Option Addr) (bl bc : Nat) (bs : List Int) (w : World) (hx : U x) (hA : Any w) (hz : bs.length = bl) (hb : Byt bs) (hs : Seg w ba bs) (hn : ba = none → bl = 0 ∧ bc = 0) :
    Calls Tryd.prog 3 #[.int .u32 x, .slice ba bl bc] w fun e w' => e = .returned (.bool true) ∧ Below w.heap.size w w' := by
  obtain ⟨i0, hi, hz0, hz1, hz2⟩ := info_parts infoL
  have u0 : U 0 := ⟨by decide, by decide⟩
  by_cases hbig : 200000 < bl
  · go_enter Tryd.func3, Tryd.ntmps3
    go_wp2_with fail
    refine (alive_any w hA).mono ?_
    rintro e w1 ⟨rfl, B1⟩
    go_wp2_with fail
    refine (alive_any w1 (hA.below B1)).mono ?_
    rintro e w2 ⟨rfl, b2⟩
    have B2 := B1.trans (b2.mono B1.size)
    go_wp2
    go_ret
    exact ⟨rfl, B2⟩
  · have hL : (replyB x 0 0 0 bs).length = 24 + bl := by rw [replyB_length, hz]; rfl
    have hby : Byt (replyB x 0 0 0 bs) := byt_replyB hb
    have hput := fun W hW => rput_any x 0 0 0 ba bl bc bs W hx u0 u0 u0 (hA.below hW) hz hb (hs.below hW) hn (by omega)
    have hbb := body_bytes x bs
    have hx1 := hx.lo
    have hx2 := hx.hi
    have hb0 : ∀ W, Below w.heap.size w W → ∀ bb, ba = some bb → ∀ j u, (bs.map (Value.int .u8))[j]? = some u → W.cell? (bb.add j) = some u := fun W hW bb e => seg_news (e ▸ hs.below hW)
    have hE : rputE 0 0 0 bl = if 65536 < 24 + bl then 3 else 0 := by
      rw [rputE, if_pos (by unfold May; omega)]
      rfl
    go_enter Tryd.func3, Tryd.ntmps3
    go_wp2_with fail
    refine (alive_any w hA).mono ?_
    rintro e w1 ⟨rfl, B1⟩
    go_wp2_with fail
    refine (Put_any x hx1 hx2 w1).mono ?_
    rintro e w2 ⟨rfl, ho2, b2⟩
    have B2 := B1.trans (b2.mono B1.size)
    go_wp2_with (at_builtin; refine wpList_append_own _ rfl _ _ 23 rfl w.heap.size 5 i0 (.int .u8 0) 1 1 Tryd.underlying23 hi hz0 hz1 hz2 rfl (by decide) (.slice none 0 0) 0 [] rfl ⟨rfl, .inl ⟨rfl, rfl⟩⟩ ⟨w1.heap.size, 0, none⟩ 4 4 ((bytesOf x 4).map (Value.int .u8)) rfl (by simp [bytesOf_length]) (seg_news (seg_own ho2 (bytesOf_length x 4))) (news_one _) (by unfold maxLen; omega) (by omega) B2.size ?_; intro v3 w3 ho3 hg3 _; rw [Nat.zero_add, List.nil_append] at ho3; have B3 := B2.grown hg3 B2.size (by simp [Value.ownBlock]); obtain ⟨a3, c3, rfl, _⟩ := own_val ho3 (bytesOf_length x 4))
    refine (row_new [1, 0, 0, 0, 0] 5 _ _ w3 (by simp) rfl (by decide) (hu_of (by decide))).mono ?_
    rintro e w4 ⟨ar, cr, rfl, hor, hsr, hrl, hrm, hrn, b4⟩
    have B4 := B3.trans (b4.mono B3.size)
    have ho4 := own_below ho3 b4
    go_wp2_with (first
      | (at_builtin; refine wpList_append_each _ rfl _ _ 23 rfl w.heap.size 5 i0 (.int .u8 0) 1 1 Tryd.underlying23 hi hz0 hz1 hz2 rfl (by decide) (.slice a5 24 c5) 24 _ rfl ho5 ba bl bc (bs.map (Value.int .u8)) rfl hn (by simp [hz]) (hb0 _ B5) (news_one bs) (by unfold maxLen; omega) (by omega) B5.size ?_; intro v6 w6 ho6 hg6; have ho6' : w6.ownsRow w.heap.size 5 1 v6 (24 + bl) ((replyB x 0 0 0 bs).map (Value.int .u8)) := (by rw [← hbb, List.map_append]; exact ho6); have B6 := B5.grown hg6 B5.size (fun k e => own_low ho5 e); obtain ⟨a6, c6, rfl, hs6, hl6, hm6, hn6⟩ := own_val ho6' hL)
      | (at_builtin; refine wpList_append_each _ rfl _ _ 23 rfl w.heap.size 5 i0 (.int .u8 0) 1 1 Tryd.underlying23 hi hz0 hz1 hz2 rfl (by decide) (.slice a3 4 c3) 4 _ rfl ho4 ar 20 cr ((numsB [1, 0, 0, 0, 0]).map (Value.int .u8)) rfl hrn (by rw [List.length_map, numsB_len]; rfl) (fun bb e => seg_news (e ▸ hsr)) (news_one _) (by unfold maxLen; omega) (by omega) B4.size ?_; intro v5 w5 ho5 hg5; rw [← List.map_append] at ho5; have B5 := B4.grown hg5 B4.size (fun k e => own_low ho4 e); obtain ⟨a5, c5, rfl, _⟩ := own_val (n := 24) ho5 (by rw [List.length_append, bytesOf_length, numsB_len]; rfl)))
    have hget := rget_any a6 (24 + bl) c6 _ w6 hl6 hm6 hL hby hs6 hn6 (hA.below B6)
    by_cases hgr : 65536 < 24 + bl
    · have hrp : rp (replyB x 0 0 0 bs) = ⟨3, 0, 0, 0, 0, []⟩ := by rw [rp, if_pos (by omega)]; rfl
      rw [if_pos hgr] at hE
      have hZ : rputZ x 0 0 0 bs = [] := by rw [rputZ, hz, hE]; rfl
      rw [hrp] at hget
      rw [hE, hZ] at hput
      refine hget.mono ?_
      rintro e w7 ⟨b7, va, vn, vc, rfl, _⟩
      have B7 := B6.trans (b7.mono B6.size)
      dsimp only
      go_wp2_with fail
      refine (hput (w7.alloc _) (B7.alloc B7.size _)).mono ?_
      rintro e w8 ⟨v8, rfl, ho8, b8⟩
      have B8 := (B7.alloc B7.size _).trans (b8.mono (B7.alloc B7.size _).size)
      obtain ⟨a8, c8, rfl, _⟩ := own_val (zs := []) ho8 rfl
      go_wp2
      go_ret
      exact ⟨rfl, B8⟩
    · rw [if_neg hgr] at hE
      have hE' : rputE 0 0 0 bs.length = 0 := by rw [hz]; exact hE
      have hrp := rp_put (x := x) (bs := bs) hx u0 u0 hE'
      have hZ := rr_put (x := x) (bs := bs) hE'
      rw [hrp] at hget
      rw [hE, hZ, hL] at hput
      refine hget.mono ?_
      rintro e w7 ⟨b7, va, vn, vc, rfl, hog⟩
      have B7 := B6.trans (b7.mono B6.size)
      dsimp only at hog ⊢
      obtain ⟨va', vc', ev, hsv, _⟩ := own_val hog rfl
      cases ev
      rw [hz]
      go_wp2_with fail
      refine (hput (w7.alloc _) (B7.alloc B7.size _)).mono ?_
      rintro e w8 ⟨v8, rfl, ho8, b8⟩
      have B8 := (B7.alloc B7.size _).trans (b8.mono (B7.alloc B7.size _).size)
      have b78 := ((Below.refl _ w7).alloc (Nat.le_refl _) _).trans (b8.mono (by simp))
      have k8 := box_next (heap_alloc_last w7 _) b8
      obtain ⟨q0, q1, q2, q3, q4⟩ := five_at k8
      obtain ⟨a8, c8, rfl, hs8, _⟩ := own_val ho8 hL
      have hs6' := (hs6.below b7).below b78
      have hx0 : (x == x) = true := by simp
      clear hput hget hrp hZ
      generalize replyB x 0 0 0 bs = zs at *
      go_wp2_with fail
      refine (same_below va ba bl vc bc bs w8 (by omega) hz (hsv.below b78) (hs.below B8)).mono ?_
      rintro e w9 ⟨rfl, b9⟩
      have B9 := B8.trans (b9.mono B8.size)
      go_wp2_with fail
      refine (same_below a8 a6 (24 + bl) c8 c6 zs w9 (by omega) hL (hs8.below b9) (hs6'.below b9)).mono ?_
      rintro e w10 ⟨rfl, b10⟩
      have B10 := B9.trans (b10.mono B9.size)
      go_wp2
      go_ret
      exact ⟨rfl, B10⟩
end Go.Proofs.YtmjhgpmeikpbkabDoor
