/- The walk of 'AttrsGetsWeak', from what GetWeak of the program and of the document answer (hypotheses): true for any bytes; nothing that was there turns. -/
import Derived.Test.YtecbhhfncklefaaAForms
import Derived.Test.YtecbhhfncklefaaWCell
import Derived.Test.YtecbhhfncklefaaStoreWhole
import Derived.Test.YtecbhhfncklefaaBeyond
import Derived.Test.YtecbhhfncklefaaTwin
import Derived.Test.YtecbhhfncklefaaLeft
import Derived.WalkSmall
namespace Go.Proofs.Ytecbhhfncklefaa
set_option linter.unusedVariables false
open Go.RowKit

set_option maxRecDepth 100000 in
set_option maxHeartbeats 2000000 in
theorem wgets_walk (hget : WGet 13) (href : WGet 14) (a : Option Addr) (len cap : Nat) (zs : List Int) (w : World) (hlc : len ≤ cap) (hm : cap ≤ 9223372036854775807) (hz : zs.length = len) (hb : Byt zs) (hs : Seg w a zs) :
    Calls Try.prog 5 #[.slice a len cap] w fun e w' => e = .returned (.bool true) ∧ Below w.heap.size w w' := by
  have hB1 : Below w.heap.size w (w.alloc (.cells #[.int .i64 (len : Int)] 3)) := (Below.refl _ _).alloc (Nat.le_refl _) _
  by_cases hl : 1048576 < len
  · go_enter Try.func5, Try.ntmps5
    go_wp2_with (go_at_call 6; refine (beyond_yes (len : Int) _ _ (by omega) (by omega) (by simp)).mono ?_; rintro e w' ⟨rfl, hw'⟩; subst hw')
    go_ret
    exact ⟨rfl, hB1⟩
  · have hg := fun g W hS => hget (some ⟨g, 0, none⟩) len (len + 1) zs W (by omega) (by omega) hz hb hS
    have hr := fun W hS => href a len cap zs W hlc hm hz hb hS
    generalize weakC.gE zs = E at *
    generalize weakC.gV zs = V at *
    generalize weakC.gN zs = N at *
    have hE : (E == E) = true := by simp
    have hN : ((N : Int) == (N : Int)) = true := by simp
    have heq := fun W => w_self V W
    obtain ⟨cs, hcs⟩ : ∃ cs : Array Value, (#[.bool V.hb, .int .u64 V.size, .int .u32 V.ws, .int .u32 V.wn, .int .u32 V.ts, .int .u32 V.tn, .bool V.ha, .int .u32 V.af.kind, .int .u32 V.af.mode, .int .u32 V.af.links, .int .u32 V.af.user, .int .u32 V.af.group, .int .u64 V.af.size, .int .u64 V.af.used, .int .u64 V.af.id, .int .u32 V.af.rs, .int .u32 V.af.rn, .int .u32 V.af.ws, .int .u32 V.af.wn, .int .u32 V.af.ts, .int .u32 V.af.tn] : Array Value) = cs := ⟨_, rfl⟩
    have hsz : cs.size = 21 := by rw [← hcs]; rfl
    have hone : cs.all (·.oneCell') = true := by rw [← hcs]; simp [Value.oneCell']
    have hinf : (Try.prog.info? 43).map (·.size) = some cs.size := by rw [hsz]; exact w_info
    rw [hcs] at heq
    go_enter Try.func5, Try.ntmps5
    go_wp2_with fail
    refine (beyond_no (len : Int) _ _ (by omega) (by omega) (by simp)).mono ?_
    rintro e w' ⟨rfl, rfl⟩
    generalize (w.alloc (.cells #[.int .i64 (len : Int)] 3)) = w2 at *
    go_wp2_with fail
    refine (twin a len cap zs w2 (by omega) hz (hs.below hB1)).mono ?_
    rintro e w3 ⟨g, rfl, hb3, -, T3⟩
    have hB3 := hB1.trans (hb3.mono hB1.size)
    have s3 := hs.below hB3
    clear hB1 hb3 hs
    go_wp2_with fail
    refine (hg g w3 T3.seg).mono ?_
    rintro e w4 ⟨v, hew4, rfl, hb4⟩
    rw [hew4, hcs]
    have hzw4 := World.alloc_heap_new w4 (.cells #[.bool false, .int .u64 0, .int .u32 0, .int .u32 0, .int .u32 0, .int .u32 0, .bool false, .int .u32 0, .int .u32 0, .int .u32 0, .int .u32 0, .int .u32 0, .int .u64 0, .int .u64 0, .int .u64 0, .int .u32 0, .int .u32 0, .int .u32 0, .int .u32 0, .int .u32 0, .int .u32 0] 43)
    go_wp2_with ((refine wpList_store_whole rfl _ _ _ rfl w4.heap.size cs rfl rfl 43 _ hzw4 hinf (by rw [hsz]; rfl) hone ?_; intro w5 hrw5 hgw5 hsw5; have hbw5 : Below w3.heap.size w3 w5 := (hb4.alloc hb4.size _).grown hgw5 (by have := hb4.size; simp; omega) (fun k e => by cases e; exact hb4.size)))
    have hB5 := hB3.trans (hbw5.mono hB3.size)
    have T5 := T3.below hbw5
    have s5 := s3.below hbw5
    clear hg hB3 hb4 hbw5 T3 s3 hzw4 hgw5 hsw5 hew4
    refine (hr w5 s5).mono ?_
    rintro e w6 ⟨v', hew6, rfl, hb6⟩
    rw [hew6, hcs]
    have hzw6 := World.alloc_heap_new w6 (.cells #[.bool false, .int .u64 0, .int .u32 0, .int .u32 0, .int .u32 0, .int .u32 0, .bool false, .int .u32 0, .int .u32 0, .int .u32 0, .int .u32 0, .int .u32 0, .int .u64 0, .int .u64 0, .int .u64 0, .int .u32 0, .int .u32 0, .int .u32 0, .int .u32 0, .int .u32 0, .int .u32 0] 43)
    go_wp2_with (first | (refine wpList_store_whole rfl _ _ _ rfl w6.heap.size cs rfl rfl 43 _ hzw6 hinf (by rw [hsz]; rfl) hone ?_; intro w7 hrw7 hgw7 hsw7; have hbw7 : Below w5.heap.size w5 w7 := (hb6.alloc hb6.size _).grown hgw7 (by have := hb6.size; simp; omega) (fun k e => by cases e; exact hb6.size); have p7 := (hbw7.block _ (Array.getElem?_eq_some_iff.1 hrw5).1).trans hrw5) | (refine wpList_load_row rfl _ _ rfl w4.heap.size rfl 43 _ (0, 0) _ p7 Try.underlying43 rfl hinf ?_) | (refine wpList_load_row rfl _ _ rfl w6.heap.size rfl 43 _ (0, 0) _ hrw7 Try.underlying43 rfl hinf ?_))
    have hB7 := hB5.trans (hbw7.mono hB5.size)
    have T7 := T5.below hbw7
    have s7 := s5.below hbw7
    clear hr hB5 hb6 hbw7 T5 s5 hzw6 hgw7 hsw7 hew6 hcs
    refine (left g len a cap zs _ (by omega) hz s7 T7).mono ?_
    rintro e w' ⟨rfl, j, rfl⟩
    have hfin := hB7.trans ((below_drewN (Below.refl _ _) j).mono hB7.size)
    clear T7 s7 hB7 p7 hrw5 hrw7
    go_wp2
    go_ret
    exact ⟨rfl, hfin⟩
end Go.Proofs.Ytecbhhfncklefaa
