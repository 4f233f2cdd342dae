/- The walk of 'TimesBack': true for any point of time, any bytes behind it, any cut; nothing that was there turns. -/
import Derived.Test.YtjognjggampejaaBeyond
import Derived.Test.YtjognjggampejaaTAlive
import Derived.Test.YtjognjggampejaaAppendEach
namespace Go.Proofs.Ytjognjggampejaa
set_option linter.unusedVariables false
open Go.RowKit

set_option maxRecDepth 100000 in
set_option maxHeartbeats 2000000 in
theorem tback_walk (s n : Int) (a : Option Addr) (len cap : Nat) (zs : List Int) (cut : Int) (w : World) (s0 : 0 ≤ s) (s1 : s ≤ 4294967295) (n0 : 0 ≤ n) (n1 : n ≤ 4294967295) (hc0 : 0 ≤ cut) (hc1 : cut ≤ 255)
    (hlc : len ≤ cap) (hm : cap ≤ 9223372036854775807) (hz : zs.length = len) (hb : Byt zs) (hs : Seg w a zs) (hnil : a = none → len = 0 ∧ cap = 0) :
    Calls Try.prog 5 #[.agg #[.int .u32 s, .int .u32 n], .slice a len cap, .int .u8 cut] w fun e w' => e = .returned (.bool true) ∧ Below w.heap.size w w' := by
  obtain ⟨i0, hi, hz0, hz1, hz2⟩ := info_parts infoB
  have a1 := Tp.new w s n
  have hB1 : Below w.heap.size w (w.alloc (.cells #[.int .u32 s, .int .u32 n] 24)) := (Below.refl _ _).alloc (Nat.le_refl _) _
  by_cases hl : 1048576 < len
  · go_enter Try.func5, Try.ntmps5
    go_wp2_with fail
    generalize (w.alloc (.cells #[.int .u32 s, .int .u32 n] 24)) = W1 at *
    refine (alive_any W1).mono ?_
    rintro e W2 ⟨rfl, hb2⟩
    have hB2 := hB1.trans (hb2.mono hB1.size)
    clear a1 hB1 hb2
    go_wp2_with (go_at_call 15; refine (beyond_yes (len : Int) _ _ (by omega) (by omega) (by simp)).mono ?_; rintro e w' ⟨rfl, hw'⟩; subst hw')
    have hB3 := hB2.alloc hB2.size (.cells #[.int .i64 (len : Int)] 3)
    generalize (W2.alloc (.cells #[.int .i64 (len : Int)] 3)) = W3 at *
    refine (alive_any W3).mono ?_
    rintro e W4 ⟨rfl, hb4⟩
    have hB4 := hB3.trans (hb4.mono hB3.size)
    clear hB2 hB3 hb4
    go_wp2
    go_ret
    exact ⟨rfl, hB4⟩
  · obtain ⟨k, hk, hk8⟩ : ∃ k : Nat, cut % 8 = (k : Int) ∧ k < 8 := ⟨(cut % 8).toNat, by omega, by omega⟩
    obtain ⟨q1, q2, q3⟩ := gt_short (zs := (tB s n).take k) (by rw [List.length_take, tB_length]; omega)
    have gk := fun G c w h1 h2 hs => tget_any (some ⟨G, 0, none⟩) k c ((tB s n).take k) w h1 h2 (by rw [List.length_take, tB_length]; omega) ((byt_tB s n).take k) hs
    rw [q1, q2, q3] at gk
    have hgt := gt_more s0 s1 n0 n1 zs
    have gl := fun a c w h1 h2 hs => tget_any a (8 + len) c (tB s n ++ zs) w h1 h2 (by rw [List.length_append, tB_length, hz]) ((byt_tB s n).append hb) hs
    have hck := fun w => tcheck_any s n w
    obtain ⟨S, N, E, hq, gl⟩ : ∃ S N E : Int, ((tok n = false ∧ E = 5 ∧ S = 0 ∧ N = 0) ∨ (tok n = true ∧ E = 0 ∧ S = s ∧ N = n)) ∧ ∀ a c w, (8 + len ≤ c) → (c ≤ 9223372036854775807) → Seg w a (tB s n ++ zs) → Calls Try.prog 17 #[.slice a ((8 + len : Nat)) c] w fun e w' => e = .returned (.tuple #[.agg #[.int .u32 S, .int .u32 N], .int .i64 E]) ∧ Below w.heap.size w w' := by
      refine ⟨_, _, _, ?_, gl⟩
      cases h : tok n with
      | false => exact .inl ⟨rfl, hgt.1 h⟩
      | true => exact .inr ⟨rfl, hgt.2 h⟩
    clear q1 q2 q3 hgt
    go_enter Try.func5, Try.ntmps5
    go_wp2_with fail
    generalize (w.alloc (.cells #[.int .u32 s, .int .u32 n] 24)) = W1 at *
    refine (alive_any W1).mono ?_
    rintro e W2 ⟨rfl, hb2⟩
    have hB2 := hB1.trans (hb2.mono hB1.size)
    have a2 := a1.next hb2
    clear a1 hB1 hb2
    go_wp2_with (go_at_call 15; refine (beyond_no (len : Int) _ _ (by omega) (by omega) (by simp)).mono ?_; rintro e w' ⟨rfl, hw'⟩; subst hw'; have a3 := a2.alloc (.cells #[.int .i64 (len : Int)] 3); have c0 := a3.c0; have c1 := a3.c1)
    have hB3 := hB2.alloc hB2.size (.cells #[.int .i64 (len : Int)] 3)
    generalize (W2.alloc (.cells #[.int .i64 (len : Int)] 3)) = W3 at *
    refine (tput_any s n W3 s0 s1 n0 n1).mono ?_
    rintro e W4 ⟨G, c, rfl, hcl, hcm, hown, hb4⟩
    have hB4 := hB3.trans (hb4.mono hB3.size)
    have a4 := a3.next hb4
    have hG := own_low (k := G) hown rfl
    have ha3 := a3.lt
    have hGw : G ≠ w.heap.size := by omega
    have hown4 := own_base hown hB3.size
    have hs4 := hs.below hB4
    have hsk := (seg_own hown (tB_length s n)).take k
    clear a2 hB2 c0 c1 hb4 hs
    go_wp2_with fail
    refine (gk G c W4 (by omega) hcm hsk).mono ?_
    rintro e W5 ⟨rfl, hb5⟩
    have hB5 := hB4.trans (hb5.mono hB4.size)
    have a6 := (a4.next hb5).alloc (.cells #[.int .u32 0, .int .u32 0] 24)
    have hb6 : Below W4.heap.size W4 (W5.alloc (.cells #[.int .u32 0, .int .u32 0] 24)) := hb5.alloc hb5.size _
    have hown6 := own_below hown4 hb6
    have hs6 := hs4.below hb6
    have hB6 := hB4.trans (hb6.mono hB4.size)
    clear gk hown hown4 hs4 hsk hb5 hB5 hB3 a3 a4 hb6
    go_wp2_with (at_builtin; refine wpList_append_each _ rfl _ _ 32 rfl w.heap.size 5 i0 (.int .u8 0) 1 1 Try.underlying32 hi hz0 hz1 hz2 rfl (by decide) (.slice (some ⟨G, 0, none⟩) 8 c) 8 _ rfl hown6 a len cap (zs.map (Value.int .u8)) rfl hnil (by simp [hz]) (fun b e => seg_news (by rw [← e]; exact hs6)) (news_one zs) (by unfold maxLen; omega) (by omega) hB6.size ?_; intro v7 W7 hown7 hgrow7)
    have hB7 : Below w.heap.size w W7 := hB6.grown hgrow7 hB6.size (fun k e => by cases e; show _ ≤ G; omega)
    have a7 : Tp W7 w.heap.size s n := (hgrow7.block w.heap.size a6.lt (fun e => hGw (by cases e; rfl))).trans a6
    rw [← List.map_append] at hown7
    obtain ⟨g7, c7, rfl, hcap7, hmx7, hg7⟩ := own_shape hown7 (by omega)
    have hs7 := seg_own hown7 (by rw [List.length_append, tB_length, hz])
    clear hown6 hs6 hB6 hgrow7 a6 hown7
    refine (gl _ c7 W7 hcap7 hmx7 hs7).mono ?_
    rintro e W8 ⟨rfl, hb8⟩
    have hB8 := hB7.trans (hb8.mono hB7.size)
    have a9 := (a7.next hb8).alloc (.cells #[.int .u32 S, .int .u32 N] 24)
    have x9 := Tp.new W8 S N
    have hB9 := hB8.alloc hB8.size (.cells #[.int .u32 S, .int .u32 N] 24)
    have c0 := a9.c0
    have c1 := a9.c1
    clear gl hs7 hb8 hB8 hB7 a7
    go_wp2_with fail
    generalize (W8.alloc (.cells #[.int .u32 S, .int .u32 N] 24)) = W9 at *
    generalize W8.heap.size = h9 at *
    refine (hck W9).mono ?_
    rintro e W10 ⟨rfl, hb10⟩
    have hB10 := hB9.trans (hb10.mono hB9.size)
    have a10 := a9.next hb10
    have x10 := x9.next hb10
    clear hck c0 c1 a9 x9 hB9 hb10
    have c0 := a10.c0
    have c1 := a10.c1
    have d0 := x10.c0
    have d1 := x10.c1
    clear a10 x10
    rcases hq with ⟨h, rfl, rfl, rfl⟩ | ⟨h, rfl, rfl, rfl⟩
    · rw [h]
      have heq : ∀ w, (binOp .eql 24 (.agg #[.int .u32 0, .int .u32 0]) (.agg #[.int .u32 0, .int .u32 0])).run Try.prog w = .ok (.bool true) w := fun w => by rw [time_eql]; rfl
      go_wp2
      go_ret
      exact ⟨rfl, hB10⟩
    · rw [h]
      have heq : ∀ w, (binOp .eql 24 (.agg #[.int .u32 S, .int .u32 N]) (.agg #[.int .u32 S, .int .u32 N])).run Try.prog w = .ok (.bool true) w := fun w => by rw [time_eql]; simp
      go_wp2
      go_ret
      exact ⟨rfl, hB10⟩
end Go.Proofs.Ytjognjggampejaa
