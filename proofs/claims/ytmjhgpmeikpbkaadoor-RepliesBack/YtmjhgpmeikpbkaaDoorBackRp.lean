/- The walk of RepliesBack. -/
import Derived.Test.YtmjhgpmeikpbkaaDoorOddRp
namespace Go.Proofs.YtmjhgpmeikpbkaaDoor
set_option linter.unusedVariables false
open Go.RowKit

theorem rowN_len (h l g : Int) : 3 ≤ (rowN h l g).length ∧ (rowN h l g).length ≤ 6 := by
  unfold rowN
  repeat' split
  all_goals simp

set_option maxRecDepth 100000 in
set_option maxHeartbeats 4000000 in
theorem back_any (x h l g : Int) (ba : Option Addr) (bl bc : Nat) (bs : List Int) (w : World) (hx : U x) (hh : U h) (hl : U l) (hg : U g) (hA : Any w) (hz : bs.length = bl) (hb : Byt bs) (hs : Seg w ba bs) (hn : ba = none → bl = 0 ∧ bc = 0) :
    Calls Tryd.prog 5 #[.agg #[.int .u32 x, .int .u32 h, .int .u32 l, .int .u32 g, .slice ba bl bc]] w fun e w' => e = .returned (.bool true) ∧ Below w.heap.size w w' := by
  have hB0 : ∀ o, Below w.heap.size w (w.alloc o) := fun o => (Below.refl _ _).alloc (Nat.le_refl _) o
  by_cases hbig : 200000 < bl
  · go_enter Tryd.func5, Tryd.ntmps5
    go_wp2_with fail
    refine (alive_any _ (hA.below (hB0 _))).mono ?_
    rintro e w1 ⟨rfl, b1⟩
    obtain ⟨k1, B1⟩ := box_alive b1
    obtain ⟨c0, c1, c2, c3, c4⟩ := five_at k1
    go_wp2_with fail
    refine (alive_any w1 (hA.below B1)).mono ?_
    rintro e w2 ⟨rfl, b2⟩
    have B2 := B1.trans (b2.mono B1.size)
    go_wp2
    go_ret
    exact ⟨rfl, B2⟩
  · have hput := fun W hW => rput_any x h l g ba bl bc bs W hx hh hl hg (hA.below hW) hz hb (hs.below hW) hn (by omega)
    by_cases he : rputE h l g bl = 0
    · have hpz := rr_put (x := x) (bs := bs) (by rw [hz]; exact he)
      have hrp := rp_put (x := x) (bs := bs) hx hl hg (by rw [hz]; exact he)
      have hsh := rp_short (x := x) (bs := bs) hx hl hg (by rw [hz]; exact he)
      have hL := replyB_length x h l g bs
      obtain ⟨_, hmax⟩ := rputE_zero he
      have hr := rowN_len h l g
      have hby : Byt (replyB x h l g bs) := byt_replyB hb
      rw [he, hpz] at hput
      obtain ⟨n, hnn⟩ : ∃ n, 4 * (2 + (rowN h l g).length) = n := ⟨_, rfl⟩
      rw [hnn, hz] at hL
      rw [hnn] at hsh hmax
      have hn1 : 20 ≤ n := by omega
      have hn2 : n ≤ 32 := by omega
      generalize replyB x h l g bs = zs at *
      rw [hL] at hput
      have hsub : ((n + bl : Nat) : Int) - (bl : Int) = (n : Int) := by omega
      have hsub' : ((n : Int) + (bl : Int)) - (bl : Int) = (n : Int) := by omega
      clear hpz hnn hr
      go_enter Tryd.func5, Tryd.ntmps5
      go_wp2_with fail
      refine (alive_any _ (hA.below (hB0 _))).mono ?_
      rintro e w1 ⟨rfl, b1⟩
      obtain ⟨k1, B1⟩ := box_alive b1
      obtain ⟨c0, c1, c2, c3, c4⟩ := five_at k1
      go_wp2_with fail
      refine (hput w1 B1).mono ?_
      rintro e w2 ⟨v, rfl, ho, b2⟩
      have B2 := B1.trans (b2.mono B1.size)
      have k2 := box_next k1 b2
      obtain ⟨pa, pc, rfl, hsp, hpl, hpm, hpn⟩ := own_val ho hL
      clear c0 c1 c2 c3 c4 hput
      obtain ⟨c0, c1, c2, c3, c4⟩ := five_at k2
      go_wp2_with fail
      go_loopw [6] (fun i wr => ∃ k : Nat, k ≤ n ∧ i = .int .i64 k ∧ Below w2.heap.size w2 wr) (fun i _ => n - (intOf i).toNat)
      case atStart => exact ⟨0, by omega, rfl, Below.refl _ _⟩
      case round =>
        obtain ⟨k, hk, rfl, hbr⟩ := hrel
        have hBr := B2.trans (hbr.mono B2.size)
        by_cases hlt : k < n
        · have hrk := hsh k hlt
          have hzk : (zs.take k).length = k := by rw [List.length_take]; omega
          have hgk := rget_any pa k pc (zs.take k) wr (by omega) hpm hzk (hby.take k) ((hsp.take k).below hbr) (fun e => by have := hpn e; omega) (hA.below hBr)
          have hno := (rp_err (zs := zs.take k) (by omega)).1
          rw [hrk] at hno
          rw [hno] at hgk
          clear hno hrk
          go_wp2_with fail
          refine hgk.mono ?_
          rintro e w3 ⟨b3, va, vn, vc, rfl, _⟩
          dsimp only [rpNo]
          have hb4 := fun o => (hbr.trans (b3.mono hbr.size)).alloc (hbr.trans (b3.mono hbr.size)).size o
          go_wp2
          go_roundw
          case rel => exact ⟨k + 1, by omega, by go_num, hb4 _⟩
          case measure => simp [intOf]; omega
        · obtain rfl : k = n := by omega
          have hgk := rget_eq pa (k + bl) pc zs wr hpl hpm hL hby (hsp.below hbr) hpn (hA.below hBr) _ hrp
          have k3 := box_next k2 hbr
          clear c0 c1 c2 c3 c4
          go_wp2_with fail
          refine hgk.mono ?_
          rintro e w3 ⟨b3, va, vn, vc, rfl, hog⟩
          dsimp only at hog ⊢
          obtain ⟨va', vc', ev, hsv, _⟩ := own_val hog rfl
          cases ev
          have B3 := hBr.trans (b3.mono hBr.size)
          have k4 := box_next k3 b3
          have k5 := fun o => box_next k4 ((Below.refl _ w3).alloc (Nat.le_refl _) o)
          have q := fun o => five_at (k5 o)
          have q0 := fun o => (q o).1
          have q1 := fun o => (q o).2.1
          have q2 := fun o => (q o).2.2.1
          have q3 := fun o => (q o).2.2.2.1
          have q4 := fun o => (q o).2.2.2.2
          clear q
          rw [hz]
          go_wp2_with fail
          refine (samereply_true x h l g va ba bl vc bc bs (w3.alloc _) (by omega) hz (hsv.below ((Below.refl _ _).alloc (Nat.le_refl _) _)) (hs.below (B3.alloc B3.size _))).mono ?_
          rintro e w5 ⟨rfl, b5⟩
          have B5 := (B3.alloc B3.size _).trans (b5.mono (B3.alloc B3.size _).size)
          go_wp2
          go_ret
          exact ⟨rfl, B5⟩
    · have hZ : rputZ x h l g bs = [] := by rw [rputZ, hz, if_neg he]
      rw [hZ] at hput
      have hcs := rputE_cases h l g bl
      generalize rputE h l g bl = ee at *
      have hb0 := bne_true he
      go_enter Tryd.func5, Tryd.ntmps5
      go_wp2_with fail
      refine (alive_any _ (hA.below (hB0 _))).mono ?_
      rintro e w1 ⟨rfl, b1⟩
      obtain ⟨k1, B1⟩ := box_alive b1
      obtain ⟨c0, c1, c2, c3, c4⟩ := five_at k1
      go_wp2_with fail
      refine (hput w1 B1).mono ?_
      rintro e w2 ⟨v, rfl, ho, b2⟩
      have B2 := B1.trans (b2.mono B1.size)
      obtain ⟨pa, pc, rfl, _⟩ := own_val (zs := []) ho rfl
      rcases hcs with h0 | rfl | rfl
      · exact absurd h0 he
      · go_wp2
        go_ret
        exact ⟨rfl, B2⟩
      · go_wp2
        go_ret
        exact ⟨rfl, B2⟩
end Go.Proofs.YtmjhgpmeikpbkaaDoor
