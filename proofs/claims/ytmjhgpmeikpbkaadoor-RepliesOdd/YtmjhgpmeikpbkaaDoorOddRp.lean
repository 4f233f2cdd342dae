/- The walk of RepliesOdd. -/
import Derived.Test.YtmjhgpmeikpbkaaDoorAliveRp
import Derived.Test.YtmjhgpmeikpbkaaDoorAnyLaid
namespace Go.Proofs.YtmjhgpmeikpbkaaDoor
set_option linter.unusedVariables false
open Go.RowKit

theorem box_alive {w W1 : World} {A : Obj} (hb : Below (w.alloc A).heap.size (w.alloc A) W1) : W1.heap[w.heap.size]? = some A ∧ Below w.heap.size w W1 :=
  ⟨box_next (heap_alloc_last w A) hb, ((Below.refl _ w).alloc (Nat.le_refl _) A).trans (hb.mono (by simp))⟩

set_option maxRecDepth 100000 in
set_option maxHeartbeats 4000000 in
theorem odd_any (x h l g : Int) (ba : Option Addr) (bl bc : Nat) (bs : List Int) (w : World) (hx : U x) (hh : U h) (hl : U l) (hg : U g) (hA : Any w) (hz : bs.length = bl) (hb : Byt bs) (hs : Seg w ba bs) (hn : ba = none → bl = 0 ∧ bc = 0) :
    Calls Tryd.prog 8 #[.agg #[.int .u32 x, .int .u32 h, .int .u32 l, .int .u32 g, .slice ba bl bc]] w fun e w' => e = .returned (.bool true) ∧ Below w.heap.size w w' := by
  have hB0 : ∀ o, Below w.heap.size w (w.alloc o) := fun o => (Below.refl _ _).alloc (Nat.le_refl _) o
  by_cases hbig : 60000 < bl
  · go_enter Tryd.func8, Tryd.ntmps8
    go_wp2_with fail
    refine (alive_any _ (hA.below (hB0 _))).mono ?_
    rintro e w1 ⟨rfl, b1⟩
    obtain ⟨k1, B1⟩ := box_alive b1
    obtain ⟨c0, c1, c2, c3, c4⟩ := five_at k1
    go_wp2_with fail
    refine (alive_any w1 (hA.below B1)).mono ?_
    rintro e w2 ⟨rfl, b2⟩
    have B2 := B1.trans (b2.mono B1.size)
    go_wp2
    go_ret
    exact ⟨rfl, B2⟩
  · have hl0 := hl.lo
    have hg0 := hg.lo
    have hh0 := hh.lo
    have hrl : (rowN h l g).length ≤ 6 := by unfold rowN; repeat' split
                                             all_goals simp
    obtain ⟨ee, hE⟩ : ∃ ee, rputE h l g bl = ee := ⟨_, rfl⟩
    have hput := fun W hW => rput_eq x h l g ba bl bc bs W hx hh hl hg (hA.below hW) hz hb (hs.below hW) hn (by omega) ee hE
    have hcs : (May h l g bl ∧ ee = 0) ∨ (¬ May h l g bl ∧ ee = 1) := by
      rw [← hE]
      by_cases hm : May h l g bl
      · exact .inl ⟨hm, by rw [rputE, if_pos hm, if_neg (by omega)]⟩
      · exact .inr ⟨hm, by rw [rputE, if_neg hm]⟩
    clear hE hrl
    have hhs : h = 0 ∨ h = 1 ∨ h = 2 ∨ h = 3 ∨ h = 4 ∨ h = 100 ∨ h = 101 ∨ (¬ h = 0 ∧ ¬ h = 2 ∧ ¬ h = 100 ∧ ¬ h = 101 ∧ ¬ h ≤ 4) := by omega
    go_enter Tryd.func8, Tryd.ntmps8
    go_wp2_with fail
    refine (alive_any _ (hA.below (hB0 _))).mono ?_
    rintro e w1 ⟨rfl, b1⟩
    obtain ⟨k1, B1⟩ := box_alive b1
    obtain ⟨c0, c1, c2, c3, c4⟩ := five_at k1
    go_wp2_with fail
    refine (hput w1 B1).mono ?_
    rintro e w2 ⟨v, rfl, _, b2⟩
    have B2 := B1.trans (b2.mono B1.size)
    have k2 := box_next k1 b2
    clear c0 c1 c2 c3 c4 hput
    obtain ⟨c0, c1, c2, c3, c4⟩ := five_at k2
    rcases hhs with rfl | rfl | rfl | rfl | rfl | rfl | rfl | ⟨n0, n2, n100, n101, n4⟩
    all_goals rcases hcs with ⟨hm, rfl⟩ | ⟨hM, rfl⟩
    all_goals try (unfold May at hm; exfalso; omega)
    all_goals try unfold May at hm
    all_goals go_wp2
    all_goals first
      | (go_ret; exact ⟨rfl, B2⟩)
      | (exfalso; omega)
      | (exfalso; refine hM ?_; unfold May; omega)
      | (exfalso; have e0 : (l != 0) = false := by assumption
         have e1 : l = 0 := by simpa using e0
         refine hM ?_; unfold May; omega)
      | skip
    all_goals go_ret
    all_goals refine ⟨?_, B2⟩
    all_goals simp
    · rename_i q
      rcases q with q | q
      · have : l = 0 := by simpa using q
        omega
      · omega
    · omega
end Go.Proofs.YtmjhgpmeikpbkaaDoor
