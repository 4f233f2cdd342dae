/- The walk of 'HandlesGets': true for any bytes; nothing that was there turns. -/
import Derived.Test.YtcpciodcecpibaaRefHG
import Derived.Test.YtcpciodcecpibaaBeyond
import Derived.Test.YtcpciodcecpibaaLeft
namespace Go.Proofs.Ytcpciodcecpibaa
set_option linter.unusedVariables false
open Go.RowKit

set_option maxRecDepth 100000 in
set_option maxHeartbeats 2000000 in
theorem hgets_walk (a : Option Addr) (len cap : Nat) (zs : List Int) (w : World) (hlc : len ≤ cap) (hm : cap ≤ 140737488351232) (hz : zs.length = len) (hb : Byt zs) (hs : Seg w a zs) (hnil : a = none → len = 0 ∧ cap = 0) :
    Calls Try.prog 3 #[.slice a len cap] w fun e w' => e = .returned (.bool true) ∧ Below w.heap.size w w' := by
  by_cases hbey : 1048576 < len
  · go_enter Try.func3, Try.ntmps3
    go_wp2_with fail
    refine (beyond_yes (len : Int) _ _ (by omega) (by omega) (by simp)).mono ?_
    rintro e w' ⟨rfl, rfl⟩
    have hB2 : Below w.heap.size w (w.alloc (.cells #[.int .i64 (len : Int)] 3)) := (Below.refl _ _).alloc (Nat.le_refl _) _
    go_wp2
    go_ret
    exact ⟨rfl, hB2⟩
  · have hg := fun g w hs => hget_any (some ⟨g, 0, none⟩) len (len + 1) zs w (by omega) (by omega) hz hb hs (by simp)
    have hr := fun w hs => refhget_any a len cap zs w hlc (by omega) hz hb hs
    have hq : ∀ w, (binOp .eql 27 (.agg #[.int .i64 (hgN zs), .int .u32 (hgG zs)]) (.agg #[.int .i64 (hgN zs), .int .u32 (hgG zs)])).run Try.prog w = .ok (.bool true) w := fun w => by rw [hand_eql]; simp
    have hlen : len ≤ 1048576 := by omega
    generalize hgN zs = N at *
    generalize hgG zs = G at *
    generalize hgE zs = E at *
    go_enter Try.func3, Try.ntmps3
    go_wp2_with fail
    refine (beyond_no (len : Int) _ _ (by omega) (by omega) (by simp)).mono ?_
    rintro e w' ⟨rfl, rfl⟩
    have hB2 : Below w.heap.size w (w.alloc (.cells #[.int .i64 (len : Int)] 3)) := (Below.refl _ _).alloc (Nat.le_refl _) _
    generalize w.alloc (.cells #[.int .i64 (len : Int)] 3) = w2 at *
    go_wp2_with fail
    refine (twin a len cap zs w2 hlen hz (hs.below hB2)).mono ?_
    rintro e w3 ⟨g, rfl, hb3, hg3, ht3⟩
    have hB3 := hB2.trans (hb3.mono hB2.size)
    clear hb3 hg3 hB2
    go_wp2_with fail
    refine (hg g w3 ht3.seg).mono ?_
    rintro e w4 ⟨rfl, hb4⟩
    have hh5 := World.alloc_heap_new w4 (.cells #[.int .i64 N, .int .u32 G] 27)
    have hb5 : Below w3.heap.size w3 (w4.alloc (.cells #[.int .i64 N, .int .u32 G] 27)) := hb4.alloc hb4.size _
    have ht5 := ht3.below hb5
    have hB5 := hB3.trans (hb5.mono hB3.size)
    clear hg hb4 hb5 ht3 hB3
    go_wp2_with fail
    generalize w4.alloc (.cells #[.int .i64 N, .int .u32 G] 27) = w5 at *
    generalize w4.heap.size = h at *
    refine (hr w5 (hs.below hB5)).mono ?_
    rintro e w6 ⟨rfl, hb6⟩
    have hh7 := World.alloc_heap_new w6 (.cells #[.int .i64 N, .int .u32 G] 27)
    have hb7 : Below w5.heap.size w5 (w6.alloc (.cells #[.int .i64 N, .int .u32 G] 27)) := hb6.alloc hb6.size _
    have ht7 := ht5.below hb7
    have hk7 := (hb7.block _ (Array.getElem?_eq_some_iff.1 hh5).1).trans hh5
    have hB7 := hB5.trans (hb7.mono hB5.size)
    clear hr hb6 hb7 ht5 hh5 hB5
    have c0 : (w6.alloc (.cells #[.int .i64 N, .int .u32 G] 27)).cell? ⟨h, 0, none⟩ = some (.int .i64 N) := by simp only [World.cell?, hk7]; rfl
    have c1 : (w6.alloc (.cells #[.int .i64 N, .int .u32 G] 27)).cell? ⟨h, 1, none⟩ = some (.int .u32 G) := by simp only [World.cell?, hk7]; rfl
    have d0 : (w6.alloc (.cells #[.int .i64 N, .int .u32 G] 27)).cell? ⟨w6.heap.size, 0, none⟩ = some (.int .i64 N) := by simp only [World.cell?, hh7]; rfl
    have d1 : (w6.alloc (.cells #[.int .i64 N, .int .u32 G] 27)).cell? ⟨w6.heap.size, 1, none⟩ = some (.int .u32 G) := by simp only [World.cell?, hh7]; rfl
    clear hk7 hh7
    go_wp2_with fail
    generalize w6.alloc (.cells #[.int .i64 N, .int .u32 G] 27) = w7 at *
    refine (left g len a cap zs w7 hlen hz (hs.below hB7) ht7).mono ?_
    rintro e w' ⟨rfl, n, rfl⟩
    have hB8 := below_drewN hB7 n
    clear c0 c1 d0 d1
    go_wp2
    go_ret
    exact ⟨rfl, hB8⟩
end Go.Proofs.Ytcpciodcecpibaa
