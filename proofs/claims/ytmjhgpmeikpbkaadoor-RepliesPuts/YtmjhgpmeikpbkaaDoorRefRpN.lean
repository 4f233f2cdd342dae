/- The document's 'Put' of a reply; nothing that was there turns. -/
import Derived.Test.YtmjhgpmeikpbkaaDoorRefNm
import Derived.Test.YtmjhgpmeikpbkaaDoorRepMath
import Derived.Test.YtmjhgpmeikpbkaaDoorRepSmall
import Derived.Test.YtmjhgpmeikpbkaaDoorNums
import Derived.Test.YtmjhgpmeikpbkaaDoorOwnVal4
import Derived.Test.YtmjhgpmeikpbkaaDoorBookBase
import Derived.Deep.WholeRow
import Derived.Deep.RegionLaw
namespace Go.Proofs.YtmjhgpmeikpbkaaDoor
set_option linter.unusedVariables false
open Go.RowKit

set_option maxRecDepth 100000 in
set_option maxHeartbeats 4000000 in
theorem refrput_no (x h l g : Int) (ba : Option Addr) (bl bc : Nat) (bs : List Int) (w : World) (hx : U x) (hh : U h) (hl : U l) (hg : U g) (hz : bs.length = bl) (hb : Byt bs) (hs : Seg w ba bs) (hn : ba = none → bl = 0 ∧ bc = 0) (hm : bl ≤ 1000000) (hM : ¬ May h l g bl) :
    Calls Tryd.prog 11 #[.agg #[.int .u32 x, .int .u32 h, .int .u32 l, .int .u32 g, .slice ba bl bc]] w fun e w' => ∃ v, e = .returned (.tuple #[v, .int .i64 (rputE h l g bl)]) ∧ w'.ownsRow w.heap.size 5 1 v (rputZ x h l g bs).length ((rputZ x h l g bs).map (Value.int .u8)) ∧ Below w.heap.size w w' := by
  obtain ⟨k1, k2, hB, hsz⟩ := two_boxes w (.cells #[.int .u32 x, .int .u32 h, .int .u32 l, .int .u32 g, .slice ba bl bc] 26) (.cells #[.int .u32 x, .int .u32 1] 22)
  have hl0 := hl.lo
  have hl1 := hl.hi
  have hg0 := hg.lo
  have hg1 := hg.hi
  have hh0 := hh.lo
  have hx0 := hx.lo
  have hx1 := hx.hi
  have hhs : h = 0 ∨ h = 1 ∨ h = 2 ∨ h = 3 ∨ h = 4 ∨ h = 100 ∨ h = 101 ∨ (¬ h = 0 ∧ ¬ h = 1 ∧ ¬ h = 2 ∧ ¬ h = 3 ∧ ¬ h = 4 ∧ ¬ h = 100 ∧ ¬ h = 101) := by omega
  have hE : rputE h l g bl = 1 := by rw [rputE, if_neg hM]
  have hZ : rputZ x h l g bs = [] := by rw [rputZ, hz, hE]; rfl
  rw [hE, hZ]
  go_enter Tryd.func11, Tryd.ntmps11
  clear hE hZ hsz
  rcases hhs with rfl | rfl | rfl | rfl | rfl | rfl | rfl | ⟨n0, n1, n2, n3, n4, n100, n101⟩
  all_goals go_wp2_with fail
  all_goals first
    | (go_ret2; exact ⟨_, rfl, ⟨rfl, .inl ⟨rfl, rfl⟩⟩, hB⟩)
    | (have eg : g = 0 := by assumption
       subst eg; go_ret2; exact ⟨_, rfl, ⟨rfl, .inl ⟨rfl, rfl⟩⟩, hB⟩)
    | (exfalso; omega)
    | (exfalso; refine hM ?_; unfold May; omega)
    | (exfalso; have e0 : (l != 0) = false := by assumption
       have e1 : l = 0 := by simpa using e0
       refine hM ?_; unfold May; omega)
    | (exfalso; have e0 : (g != 0) = false := by assumption
       have e1 : g = 0 := by simpa using e0
       refine hM ?_; unfold May; omega)
end Go.Proofs.YtmjhgpmeikpbkaaDoor
