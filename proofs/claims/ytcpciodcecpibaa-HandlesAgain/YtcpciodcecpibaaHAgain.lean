/- The walk of 'HandlesAgain': true for any bytes; nothing that was there turns. -/
import Derived.Test.YtcpciodcecpibaaHAlive
import Derived.Test.YtcpciodcecpibaaBeyond
import Derived.Test.YtcpciodcecpibaaSame
namespace Go.Proofs.Ytcpciodcecpibaa
set_option linter.unusedVariables false
open Go.RowKit

set_option maxRecDepth 100000 in
set_option maxHeartbeats 2000000 in
theorem hagain_walk (a : Option Addr) (len cap : Nat) (zs : List Int) (w : World) (hlc : len ≤ cap) (hm : cap ≤ 140737488351232) (hz : zs.length = len) (hb : Byt zs) (hs : Seg w a zs) (hnil : a = none → len = 0 ∧ cap = 0) :
    Calls Try.prog 6 #[.slice a len cap] w fun e w' => e = .returned (.bool true) ∧ Below w.heap.size w w' := by
  by_cases hbey : 1048576 < len
  · go_enter Try.func6, Try.ntmps6
    go_wp2_with fail
    refine (alive_any w).mono ?_
    rintro e w1 ⟨rfl, hB1⟩
    go_wp2_with fail
    refine (beyond_yes (len : Int) _ _ (by omega) (by omega) (by simp)).mono ?_
    rintro e w' ⟨rfl, rfl⟩
    have hB2 := hB1.alloc hB1.size (.cells #[.int .i64 (len : Int)] 3)
    generalize w1.alloc (.cells #[.int .i64 (len : Int)] 3) = w2 at *
    go_wp2_with fail
    refine (alive_any w2).mono ?_
    rintro e w3 ⟨rfl, hB3⟩
    go_wp2
    go_ret
    exact ⟨rfl, hB2.trans (hB3.mono hB2.size)⟩
  · have hg := fun w hs => hget_any a len cap zs w hlc (by omega) hz hb hs hnil
    have hag := hg_again hb
    have hz0 : ∀ w, (binOp .eql 27 (.agg #[.int .i64 0, .int .u32 0]) (.agg #[.int .i64 0, .int .u32 0])).run Try.prog w = .ok (.bool true) w := fun w => by rw [hand_eql]; rfl
    go_enter Try.func6, Try.ntmps6
    go_wp2_with fail
    refine (alive_any w).mono ?_
    rintro e w1 ⟨rfl, hB1⟩
    go_wp2_with fail
    refine (beyond_no (len : Int) _ _ (by omega) (by omega) (by simp)).mono ?_
    rintro e w' ⟨rfl, rfl⟩
    have hB2 := hB1.alloc hB1.size (.cells #[.int .i64 (len : Int)] 3)
    generalize w1.alloc (.cells #[.int .i64 (len : Int)] 3) = w2 at *
    clear hB1
    go_wp2_with fail
    refine (hg w2 (hs.below hB2)).mono ?_
    rintro e w3 ⟨rfl, hb3⟩
    have hB3 := hB2.trans (hb3.mono hB2.size)
    clear hb3 hg
    rcases hag with ⟨r1, r2, r3, r4, r5, r6⟩ | ⟨r1, r2, r3⟩
    · rw [r1]
      generalize hgN zs = N at *
      generalize hgG zs = G at *
      have hp := fun w => hput_yes N G w r3 r4 r5 r6
      have hl16 : len = 16 := by rw [← hz, r2, hB_length]
      subst hl16
      have hB4 := hB3.alloc hB3.size (.cells #[.int .i64 N, .int .u32 G] 27)
      have hh4 := World.alloc_heap_new w3 (.cells #[.int .i64 N, .int .u32 G] 27)
      have c0 : (w3.alloc (.cells #[.int .i64 N, .int .u32 G] 27)).cell? ⟨w3.heap.size, 0, none⟩ = some (.int .i64 N) := by simp only [World.cell?, hh4]; rfl
      have c1 : (w3.alloc (.cells #[.int .i64 N, .int .u32 G] 27)).cell? ⟨w3.heap.size, 1, none⟩ = some (.int .u32 G) := by simp only [World.cell?, hh4]; rfl
      have hG3 := fun g (hh : w3.heap.size + 1 ≤ g) => hh
      clear r1 hB3 hB2
      go_wp2_with fail
      generalize w3.alloc (.cells #[.int .i64 N, .int .u32 G] 27) = w4 at *
      generalize w3.heap.size = h at *
      refine (hp w4).mono ?_
      rintro e w5 ⟨g, rfl, hown, hb5⟩
      have hh5 := (hb5.block _ (Array.getElem?_eq_some_iff.1 hh4).1).trans hh4
      have hB5 := hB4.trans (hb5.mono hB4.size)
      have hsx := seg_own hown (hB_length N G)
      rw [← r2] at hsx
      have hsy := hs.below hB5
      clear hp hh4 hb5 hB4 c0 c1 hown hG3
      go_wp2_with fail
      refine (same_true _ _ 16 16 cap zs w5 (by omega) hz hsx hsy).mono ?_
      rintro e w' ⟨rfl, n6, rfl⟩
      have hB6 := below_drewN hB5 n6
      have hb6 : Below w5.heap.size w5 (w5.drewN n6) := below_drewN (Below.refl _ _) n6
      have hh6 := (hb6.block _ (Array.getElem?_eq_some_iff.1 hh5).1).trans hh5
      generalize w5.drewN n6 = w6 at *
      have c0 : w6.cell? ⟨h, 0, none⟩ = some (.int .i64 N) := by simp [World.cell?, hh6]
      have c1 : w6.cell? ⟨h, 1, none⟩ = some (.int .u32 G) := by simp [World.cell?, hh6]
      clear hb6 hh5 hh6 hB5 hsx hsy r2
      go_wp2
      go_ret
      exact ⟨rfl, hB6⟩
    · rw [r1, r2, r3]
      have hB4 := hB3.alloc hB3.size (.cells #[.int .i64 0, .int .u32 0] 27)
      clear r1 r2 r3 hB3 hB2
      go_wp2
      go_ret
      exact ⟨rfl, hB4⟩
end Go.Proofs.Ytcpciodcecpibaa
