/- The walk of 'AttrsGetsSet', from what GetSet of the program and of the document answer (hypotheses): true for any bytes; nothing that was there turns. -/
import Derived.Test.YtecbhhfncklefaaAForms
import Derived.Test.YtecbhhfncklefaaSCell
import Derived.Test.YtecbhhfncklefaaBeyond
import Derived.Test.YtecbhhfncklefaaTwin
import Derived.Test.YtecbhhfncklefaaLeft
import Derived.WalkSmall
namespace Go.Proofs.Ytecbhhfncklefaa
set_option linter.unusedVariables false
open Go.RowKit

set_option maxRecDepth 100000 in
set_option maxHeartbeats 2000000 in
theorem sgets_walk (hget : SGet 11) (href : SGet 12) (a : Option Addr) (len cap : Nat) (zs : List Int) (w : World) (hlc : len ≤ cap) (hm : cap ≤ 9223372036854775807) (hz : zs.length = len) (hb : Byt zs) (hs : Seg w a zs) :
    Calls Try.prog 4 #[.slice a len cap] w fun e w' => e = .returned (.bool true) ∧ Below w.heap.size w w' := by
  have hB1 : Below w.heap.size w (w.alloc (.cells #[.int .i64 (len : Int)] 3)) := (Below.refl _ _).alloc (Nat.le_refl _) _
  by_cases hl : 1048576 < len
  · go_enter Try.func4, Try.ntmps4
    go_wp2_with (go_at_call 6; refine (beyond_yes (len : Int) _ _ (by omega) (by omega) (by simp)).mono ?_; rintro e w' ⟨rfl, hw'⟩; subst hw')
    go_ret
    exact ⟨rfl, hB1⟩
  · have hg := fun g W hS => hget (some ⟨g, 0, none⟩) len (len + 1) zs W (by omega) (by omega) hz hb hS
    have hr := fun W hS => href a len cap zs W hlc hm hz hb hS
    generalize setC.gE zs = E at *
    generalize setC.gV zs = V at *
    generalize setC.gN zs = N at *
    have hE : (E == E) = true := by simp
    have hN : ((N : Int) == (N : Int)) = true := by simp
    have heq := fun W => s_self V W
    go_enter Try.func4, Try.ntmps4
    go_wp2_with fail
    refine (beyond_no (len : Int) _ _ (by omega) (by omega) (by simp)).mono ?_
    rintro e w' ⟨rfl, rfl⟩
    generalize (w.alloc (.cells #[.int .i64 (len : Int)] 3)) = w2 at *
    go_wp2_with fail
    refine (twin a len cap zs w2 (by omega) hz (hs.below hB1)).mono ?_
    rintro e w3 ⟨g, rfl, hb3, -, T3⟩
    have hB3 := hB1.trans (hb3.mono hB1.size)
    have s3 := hs.below hB3
    clear hB1 hb3 hs
    go_wp2_with fail
    refine (hg g w3 T3.seg).mono ?_
    rintro e w4 ⟨v, rfl, rfl, hb4⟩
    have hb5 : Below w3.heap.size w3 (w4.alloc (.cells #[.bool v.hm, .int .u32 v.mode, .bool v.hu, .int .u32 v.user, .bool v.hg, .int .u32 v.group, .bool v.hs, .int .u64 v.size, .int .u32 v.rh, .int .u32 v.rs, .int .u32 v.rn, .int .u32 v.wh, .int .u32 v.ws, .int .u32 v.wn] 39)) := hb4.alloc hb4.size _
    have hB5 := hB3.trans (hb5.mono hB3.size)
    have T5 := T3.below hb5
    have s5 := s3.below hb5
    have p5 := Sp.new w4 v
    clear hg hB3 hb4 hb5 T3 s3
    go_wp2_with fail
    generalize (w4.alloc (.cells #[.bool v.hm, .int .u32 v.mode, .bool v.hu, .int .u32 v.user, .bool v.hg, .int .u32 v.group, .bool v.hs, .int .u64 v.size, .int .u32 v.rh, .int .u32 v.rs, .int .u32 v.rn, .int .u32 v.wh, .int .u32 v.ws, .int .u32 v.wn] 39)) = w5 at *
    generalize w4.heap.size = h at *
    refine (hr w5 s5).mono ?_
    rintro e w6 ⟨v', rfl, rfl, hb6⟩
    have hb7 : Below w5.heap.size w5 (w6.alloc (.cells #[.bool v'.hm, .int .u32 v'.mode, .bool v'.hu, .int .u32 v'.user, .bool v'.hg, .int .u32 v'.group, .bool v'.hs, .int .u64 v'.size, .int .u32 v'.rh, .int .u32 v'.rs, .int .u32 v'.rn, .int .u32 v'.wh, .int .u32 v'.ws, .int .u32 v'.wn] 39)) := hb6.alloc hb6.size _
    have hB7 := hB5.trans (hb7.mono hB5.size)
    have T7 := T5.below hb7
    have s7 := s5.below hb7
    have p7 := p5.next hb7
    have q7 := Sp.new w6 v'
    obtain ⟨c0, c1, c2, c3, c4, c5, c6, c7, c8, c9, c10, c11, c12, c13⟩ := p7.c
    obtain ⟨d0, d1, d2, d3, d4, d5, d6, d7, d8, d9, d10, d11, d12, d13⟩ := q7.c
    clear hr hB5 hb6 hb7 T5 s5 p5 p7 q7
    go_wp2_with fail
    refine (left g len a cap zs _ (by omega) hz s7 T7).mono ?_
    rintro e w' ⟨rfl, j, rfl⟩
    have hfin := hB7.trans ((below_drewN (Below.refl _ _) j).mono hB7.size)
    clear c0 d0 c1 d1 c2 d2 c3 d3 c4 d4 c5 d5 c6 d6 c7 d7 c8 d8 c9 d9 c10 d10 c11 d11 c12 d12 c13 d13 T7 s7 hB7
    go_wp2
    go_ret
    exact ⟨rfl, hfin⟩
end Go.Proofs.Ytecbhhfncklefaa
