/- The walk of RepliesAgain. -/
import Derived.Test.YtmjhgpmeikpbkaaDoorAliveRp
import Derived.Test.YtmjhgpmeikpbkaaDoorAnyLaid
namespace Go.Proofs.YtmjhgpmeikpbkaaDoor
set_option linter.unusedVariables false
open Go.RowKit

set_option maxRecDepth 100000 in
set_option maxHeartbeats 2000000 in
theorem again_any (a : Option Addr) (len cap : Nat) (zs : List Int) (w : World) (hlc : len ≤ cap) (hm : cap ≤ 9223372036854775807) (hz : zs.length = len) (hb : Byt zs) (hs : Seg w a zs) (hn : a = none → len = 0 ∧ cap = 0) (hA : Any w) :
    Calls Tryd.prog 6 #[.slice a len cap] w fun e w' => e = .returned (.bool true) ∧ Below w.heap.size w w' := by
  by_cases hbig : 200000 < len
  · go_enter Tryd.func6, Tryd.ntmps6
    go_wp2_with fail
    refine (alive_any w hA).mono ?_
    rintro e w1 ⟨rfl, B1⟩
    go_wp2_with fail
    refine (alive_any w1 (hA.below B1)).mono ?_
    rintro e w2 ⟨rfl, b2⟩
    have B2 := B1.trans (b2.mono B1.size)
    go_wp2
    go_ret
    exact ⟨rfl, B2⟩
  · have hg := fun W hW => rget_any a len cap zs W hlc hm hz hb (hs.below hW) hn (hA.below hW)
    by_cases he : (rp zs).e = 0
    · obtain ⟨hE, hB, ux, ul, ug, hbb⟩ := rp_again hb he
      have uh : U (rp zs).h := by
        obtain ⟨hm1, _⟩ := rputE_zero hE
        unfold May at hm1
        exact ⟨by omega, by omega⟩
      have hlb : (rp zs).b.length ≤ 1000000 := by
        obtain ⟨_, h1⟩ := rputE_zero hE
        omega
      have hpz := rr_put (x := (rp zs).x) hE
      rw [hB] at hpz
      generalize rp zs = y at *
      obtain ⟨ye, yx, yh, yl, yg, yb⟩ := y
      dsimp only at he hE hB ux ul ug hbb uh hlb hpz hg
      subst he
      go_enter Tryd.func6, Tryd.ntmps6
      go_wp2_with fail
      refine (alive_any w hA).mono ?_
      rintro e w1 ⟨rfl, B1⟩
      go_wp2_with fail
      refine (hg w1 B1).mono ?_
      rintro e w2 ⟨b2, va, vn, vc, rfl, ho⟩
      have B2 := B1.trans (b2.mono B1.size)
      obtain ⟨va', vc', ev, hsv, hvl, hvm, hvn⟩ := own_val ho rfl
      cases ev
      dsimp only
      go_wp2_with fail
      refine (rput_eq yx yh yl yg va yb.length vc yb (w2.alloc _) ux uh ul ug (hA.below (B2.alloc B2.size _)) rfl hbb (hsv.below ((Below.refl _ _).alloc (Nat.le_refl _) _)) hvn hlb 0 hE).mono ?_
      rintro e w3 ⟨v, rfl, ho3, b3⟩
      rw [hpz, hz] at ho3
      obtain ⟨pa, pc, rfl, hsp, _⟩ := own_val ho3 hz
      have B3 := (B2.alloc B2.size _).trans (b3.mono (B2.alloc B2.size _).size)
      go_wp2_with fail
      refine (same_below pa a len pc cap zs w3 (by omega) hz hsp (hs.below B3)).mono ?_
      rintro e w4 ⟨rfl, b4⟩
      have B4 := B3.trans (b4.mono B3.size)
      go_wp2
      go_ret
      exact ⟨rfl, B4⟩
    · obtain ⟨hno, hcs⟩ := rp_err he
      generalize (rp zs).e = ee at *
      rw [hno] at hg
      have hb0 := bne_true he
      have hb1 : (ee != 1) = true := by rcases hcs with rfl | rfl | rfl <;> rfl
      clear hno
      go_enter Tryd.func6, Tryd.ntmps6
      go_wp2_with fail
      refine (alive_any w hA).mono ?_
      rintro e w1 ⟨rfl, B1⟩
      go_wp2_with fail
      refine (hg w1 B1).mono ?_
      rintro e w2 ⟨b2, va, vn, vc, rfl, ho⟩
      have B2 := B1.trans (b2.mono B1.size)
      obtain ⟨va', vc', ev, hsv, hvl, hvm, hvn⟩ := own_val ho rfl
      cases ev
      dsimp only [rpNo]
      have B3 := fun o => B2.alloc B2.size o
      go_wp2
      go_ret
      exact ⟨rfl, B3 _⟩
end Go.Proofs.YtmjhgpmeikpbkaaDoor
