/- The document's 'Put' of a text; nothing that was there turns. -/
import Derived.Test.YtmanblfmdpdfoaaDoorTextsStrPut
import Derived.Test.YtmanblfmdpdfoaaDoorRefPutFx
namespace Go.Proofs.YtmanblfmdpdfoaaDoor
set_option linter.unusedVariables false
open Go.RowKit

set_option maxRecDepth 100000 in
set_option maxHeartbeats 400000 in
theorem refstrput_any (s : ByteArray) (w : World) (hm : s.size ≤ 1048576) :
    Calls Tryd.prog 24 #[.string s] w fun e w' => ∃ v, e = .returned v ∧ w'.ownsRow w.heap.size 5 1 v (4 + (s.size + padN s.size)) ((opBytes (tz s)).map (Value.int .u8)) ∧ Below w.heap.size w w' := by
  obtain ⟨c, hc1, hc2, hrun⟩ := conv_bytes w s (by omega)
  have hB := conv_below w s
  have hs := conv_seg w s
  generalize Lib.bytesWorld w 5 s = w1 at *
  go_enter Tryd.func24, Tryd.ntmps24
  go_wp2_with fail
  refine (refputopq_any _ s.size c (tz s) w1 hc1 hm (tz_len s) hs (by simp)).mono ?_
  rintro e w2 ⟨v, rfl, hown, hb⟩
  go_wp2
  go_ret
  exact ⟨_, rfl, own_base hown hB.size, hB.trans (hb.mono hB.size)⟩
end Go.Proofs.YtmanblfmdpdfoaaDoor
