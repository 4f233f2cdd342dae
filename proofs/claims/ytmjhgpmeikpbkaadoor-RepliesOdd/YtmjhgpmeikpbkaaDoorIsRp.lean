/- 'is' of a reply and its bytes: true; nothing that was there turns. -/
import Derived.Test.YtmjhgpmeikpbkaaDoorSameRp
import Derived.Test.YtmjhgpmeikpbkaaDoorRepGet
import Derived.Test.YtmjhgpmeikpbkaaDoorRepPut
namespace Go.Proofs.YtmjhgpmeikpbkaaDoor
set_option linter.unusedVariables false
open Go.RowKit

theorem rr_put {x h l g : Int} {bs : List Int} (he : rputE h l g bs.length = 0) : rputZ x h l g bs = replyB x h l g bs := by rw [rputZ, if_pos he]

set_option maxRecDepth 100000 in
set_option maxHeartbeats 2000000 in
theorem is_true (x h l g : Int) (ba : Option Addr) (bl bc : Nat) (bs : List Int) (a : Option Addr) (len cap : Nat) (w : World) (hx : U x) (hh : U h) (hl : U l) (hg : U g) (hA : Any w) (hz : bs.length = bl) (hb : Byt bs) (hs : Seg w ba bs) (hn : ba = none → bl = 0 ∧ bc = 0)
    (he : rputE h l g bl = 0) (hlc : len ≤ cap) (hm : cap ≤ 9223372036854775807) (hz2 : (replyB x h l g bs).length = len) (hs2 : Seg w a (replyB x h l g bs)) (hn2 : a = none → len = 0 ∧ cap = 0) :
    Calls Tryd.prog 23 #[.agg #[.int .u32 x, .int .u32 h, .int .u32 l, .int .u32 g, .slice ba bl bc], .slice a len cap] w fun e w' => e = .returned (.bool true) ∧ Below w.heap.size w w' := by
  have hbl : bl ≤ 65536 := by
    obtain ⟨_, h1⟩ := rputE_zero he
    omega
  have hlen : len ≤ 65536 := by
    obtain ⟨_, h1⟩ := rputE_zero he
    rw [replyB_length, hz] at hz2
    omega
  have hby : Byt (replyB x h l g bs) := byt_replyB hb
  have hrp := rp_put (x := x) (bs := bs) hx hl hg (by rw [hz]; exact he)
  have hpz := rr_put (x := x) (bs := bs) (by rw [hz]; exact he)
  have hput := fun W hW => rput_any x h l g ba bl bc bs W hx hh hl hg (hA.below hW) hz hb (hs.below hW) hn (by omega)
  rw [he, hpz, hz2] at hput
  have hget := fun W hW => rget_any a len cap (replyB x h l g bs) W hlc hm hz2 hby (hs2.below hW) hn2 (hA.below hW)
  rw [hrp] at hget
  subst hz
  clear hrp hpz
  generalize replyB x h l g bs = zs at *
  have hB0 : ∀ o, Below w.heap.size w (w.alloc o) := fun o => (Below.refl _ _).alloc (Nat.le_refl _) o
  have k0 := fun o => heap_alloc_last w o
  go_enter Tryd.func23, Tryd.ntmps23
  go_wp2_with (first
    | (go_at_call 20; refine (samereply_true x h l g ga ba bs.length gc bc bs _ (by omega) rfl (hsg.below hb34) (hs.below hB4)).mono ?_; rintro e w5 ⟨rfl, hb5⟩; have hB5 := hB4.trans (hb5.mono hB4.size))
    | (go_at_call 12; refine (same_below pa a len pc cap zs _ (by omega) hz2 ((hsp.below hb3).below ((Below.refl _ _).alloc (Nat.le_refl _) _)) (hs2.below (hB3.alloc hB3.size _))).mono ?_; rintro e w4 ⟨rfl, hb4⟩; have hb34 : Below w3.heap.size w3 w4 := ((Below.refl _ w3).alloc (Nat.le_refl _) _).trans (hb4.mono (by simp)); have hB4 := hB3.trans (hb34.mono hB3.size); have k4 := box_next k3 hb34; have l4 := box_next (heap_alloc_last w3 _) hb4; obtain ⟨c0, c1, c2, c3, c4⟩ := five_at k4; obtain ⟨d0, d1, d2, d3, d4⟩ := five_at l4)
    | (go_at_call 18; refine (hget w2 hB2).mono ?_; rintro e w3 ⟨hb3, ga, gn, gc, rfl, hog⟩; have hB3 := hB2.trans (hb3.mono hB2.size); have k3 := box_next k2 hb3; obtain ⟨ga', gc', eg, hsg, _⟩ := own_val hog rfl; cases eg)
    | (go_at_call 10; refine (hput _ (hB0 _)).mono ?_; rintro e w2 ⟨v, rfl, hop, hb2⟩; have hB2 := (hB0 _).trans (hb2.mono (hB0 _).size); obtain ⟨pa, pc, rfl, hsp, _⟩ := own_val hop hz2; have k2 := box_next (k0 _) hb2))
  go_ret
  exact ⟨rfl, hB5⟩
end Go.Proofs.YtmjhgpmeikpbkaaDoor
