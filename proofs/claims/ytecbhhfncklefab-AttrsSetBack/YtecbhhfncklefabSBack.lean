/- The walk of 'AttrsSetBack', from what the program's Put and Get answer (hypotheses): true for anything that is told, any bytes behind, any cut; nothing that was there turns. -/
import Derived.Test.YtecbhhfncklefabAForms
import Derived.Test.YtecbhhfncklefabSCell
import Derived.Test.YtecbhhfncklefabPieces
import Derived.Test.YtecbhhfncklefabBeyond
import Derived.Test.YtecbhhfncklefabAppendEach
namespace Go.Proofs.Ytecbhhfncklefab
set_option linter.unusedVariables false
open Go.RowKit

theorem infoS8 : (Try.prog.info? 5).map (fun i => (i.zero, i.size, i.bytes)) = some (some (.int .u8 0), 1, 1) := by kernel_rfl

set_option maxRecDepth 100000 in
set_option maxHeartbeats 4000000 in
theorem sback_walk (hal : ∀ W, Calls Try.prog 9 #[] W fun e W' => e = .returned (.bool true) ∧ Below W.heap.size W W') (hput : SPut 13) (hget : SGet 14)
    (x : Stt) (a : Option Addr) (len cap : Nat) (zs : List Int) (cut : Int) (w : World) (hx : x.In) (hc0 : 0 ≤ cut) (hc1 : cut ≤ 255)
    (hlc : len ≤ cap) (hm : cap ≤ 9223372036854775807) (hz : zs.length = len) (hb : Byt zs) (hs : Seg w a zs) (hnil : a = none → len = 0 ∧ cap = 0) :
    Calls Try.prog 4 #[.agg #[.bool x.hm, .int .u32 x.mode, .bool x.hu, .int .u32 x.user, .bool x.hg, .int .u32 x.group, .bool x.hs, .int .u64 x.size, .int .u32 x.rh, .int .u32 x.rs, .int .u32 x.rn, .int .u32 x.wh, .int .u32 x.ws, .int .u32 x.wn], .slice a len cap, .int .u8 cut] w fun e w' => e = .returned (.bool true) ∧ Below w.heap.size w w' := by
  obtain ⟨i0, hi, hz0, hz1, hz2⟩ := info_parts infoS8
  have a1 := Sp.new w x
  have hB1 : Below w.heap.size w (w.alloc (.cells #[.bool x.hm, .int .u32 x.mode, .bool x.hu, .int .u32 x.user, .bool x.hg, .int .u32 x.group, .bool x.hs, .int .u64 x.size, .int .u32 x.rh, .int .u32 x.rs, .int .u32 x.rn, .int .u32 x.wh, .int .u32 x.ws, .int .u32 x.wn] 40)) := (Below.refl _ _).alloc (Nat.le_refl _) _
  by_cases hl : 1048576 < len
  · go_enter Try.func4, Try.ntmps4
    go_wp2_with fail
    generalize (w.alloc (.cells #[.bool x.hm, .int .u32 x.mode, .bool x.hu, .int .u32 x.user, .bool x.hg, .int .u32 x.group, .bool x.hs, .int .u64 x.size, .int .u32 x.rh, .int .u32 x.rs, .int .u32 x.rn, .int .u32 x.wh, .int .u32 x.ws, .int .u32 x.wn] 40)) = W1 at *
    refine (hal W1).mono ?_
    rintro e W2 ⟨rfl, hb2⟩
    have hB2 := hB1.trans (hb2.mono hB1.size)
    clear a1 hB1 hb2
    go_wp2_with (go_at_call 10; refine (beyond_yes (len : Int) _ _ (by omega) (by omega) (by simp)).mono ?_; rintro e w' ⟨rfl, hw'⟩; subst hw')
    have hB3 := hB2.alloc hB2.size (.cells #[.int .i64 (len : Int)] 3)
    generalize (W2.alloc (.cells #[.int .i64 (len : Int)] 3)) = W3 at *
    refine (hal W3).mono ?_
    rintro e W4 ⟨rfl, hb4⟩
    have hB4 := hB3.trans (hb4.mono hB3.size)
    clear hB2 hB3 hb4
    go_wp2
    go_ret
    exact ⟨rfl, hB4⟩
  · have hp := fun W => hput x W hx
    cases hmay : smay x with
    | false =>
      rw [hmay] at hp
      go_enter Try.func4, Try.ntmps4
      go_wp2_with fail
      generalize (w.alloc (.cells #[.bool x.hm, .int .u32 x.mode, .bool x.hu, .int .u32 x.user, .bool x.hg, .int .u32 x.group, .bool x.hs, .int .u64 x.size, .int .u32 x.rh, .int .u32 x.rs, .int .u32 x.rn, .int .u32 x.wh, .int .u32 x.ws, .int .u32 x.wn] 40)) = W1 at *
      refine (hal W1).mono ?_
      rintro e W2 ⟨rfl, hb2⟩
      have hB2 := hB1.trans (hb2.mono hB1.size)
      have a2 := a1.next hb2
      clear a1 hB1 hb2
      go_wp2_with (go_at_call 10; refine (beyond_no (len : Int) _ _ (by omega) (by omega) (by simp)).mono ?_; rintro e w' ⟨rfl, hw'⟩; subst hw'; have a3 := a2.alloc (.cells #[.int .i64 (len : Int)] 3); obtain ⟨c0, c1, c2, c3, c4, c5, c6, c7, c8, c9, c10, c11, c12, c13⟩ := a3.c)
      have hB3 := hB2.alloc hB2.size (.cells #[.int .i64 (len : Int)] 3)
      generalize (W2.alloc (.cells #[.int .i64 (len : Int)] 3)) = W3 at *
      refine (hp W3).mono ?_
      rintro e W4 ⟨v, rfl, ho, hb4⟩
      have hB4 := hB3.trans (hb4.mono hB3.size)
      obtain ⟨av, cv, rfl, _, _, _, _⟩ := own_val ho rfl
      clear hp a2 a3 hB2 hB3 hb4 ho c0 c1 c2 c3 c4 c5 c6 c7 c8 c9 c10 c11 c12 c13
      go_wp2
      go_ret
      exact ⟨rfl, hB4⟩
    | true =>
      rw [hmay] at hp
      have hok := set_ok hx hmay
      obtain ⟨q, hl84⟩ : ∃ q, (sB x).length = q := ⟨_, rfl⟩
      have hqb : 24 ≤ q ∧ q ≤ 60 ∧ q % 4 = 0 := by rw [← hl84]; exact sB_le x
      have hp' : ∀ W, Calls Try.prog 13 #[.agg #[.bool x.hm, .int .u32 x.mode, .bool x.hu, .int .u32 x.user, .bool x.hg, .int .u32 x.group, .bool x.hs, .int .u64 x.size, .int .u32 x.rh, .int .u32 x.rs, .int .u32 x.rn, .int .u32 x.wh, .int .u32 x.ws, .int .u32 x.wn]] W fun e w' => ∃ G c, e = .returned (.tuple #[.slice (some ⟨G, 0, none⟩) q c, .int .i64 0]) ∧ q ≤ c ∧ c ≤ 9223372036854775807 ∧ W.heap.size ≤ G ∧ w'.ownsRow W.heap.size 5 1 (.slice (some ⟨G, 0, none⟩) q c) q ((sB x).map (Value.int .u8)) ∧ Below W.heap.size W w' := fun W => (hp W).mono fun e w' ⟨v, he, ho, hb⟩ => by
        have ho' : w'.ownsRow W.heap.size 5 1 v (sB x).length ((sB x).map (Value.int .u8)) := ho
        rw [hl84] at ho'
        obtain ⟨G, c, rfl, h1, h2, h3⟩ := own_shape ho' (by omega)
        exact ⟨G, c, he, h1, h2, h3, ho', hb⟩
      clear hp
      obtain ⟨cn, rfl⟩ : ∃ cn : Nat, cut = (cn : Int) := ⟨cut.toNat, by omega⟩
      obtain ⟨k, hk, hk84⟩ : ∃ k : Nat, cn % q = k ∧ k < q := ⟨_, rfl, Nat.mod_lt _ (by omega)⟩
      have hkl : ((sB x).take k).length = k := by rw [List.length_take, hl84]; omega
      have hfew := setC.fewer hok (k := k) (by show k < (sB x).length; omega)
      have gk := fun G c W h1 h2 hS => hget (some ⟨G, 0, none⟩) k c ((sB x).take k) W h1 h2 hkl ((byt_sB x).take k) hS
      rw [show setC.gE ((sB x).take k) = 4 from hfew] at gk
      obtain ⟨b1, b2, b3⟩ : setC.gE (sB x ++ zs) = 0 ∧ setC.gV (sB x ++ zs) = x ∧ setC.gN (sB x ++ zs) = (sB x).length := setC.back hok zs
      have hll : (sB x ++ zs).length = q + len := by rw [List.length_append, hl84, hz]
      have gl := fun a c W h1 h2 hS => hget a (q + len) c (sB x ++ zs) W h1 h2 hll ((byt_sB x).append hb) hS
      rw [b1, b2, b3, hl84] at gl
      generalize setC.gV ((sB x).take k) = V at *
      generalize setC.gN ((sB x).take k) = N at *
      have hmod : ((q : Int) % 4 != 0) = false := by rw [show (q : Int) % 4 = 0 by omega]; rfl
      have htm : Int.tmod (cn : Int) (q : Int) = (k : Int) := by rw [Int.tmod_eq_emod_of_nonneg (by omega), ← hk]; rfl
      have hqi : (q : Int) ≠ 0 := by omega
      have heq := fun W => s_self x W
      clear b1 b2 b3 hfew hok
      generalize sB x = xs at *
      go_enter Try.func4, Try.ntmps4
      go_wp2_with fail
      generalize (w.alloc (.cells #[.bool x.hm, .int .u32 x.mode, .bool x.hu, .int .u32 x.user, .bool x.hg, .int .u32 x.group, .bool x.hs, .int .u64 x.size, .int .u32 x.rh, .int .u32 x.rs, .int .u32 x.rn, .int .u32 x.wh, .int .u32 x.ws, .int .u32 x.wn] 40)) = W1 at *
      refine (hal W1).mono ?_
      rintro e W2 ⟨rfl, hb2⟩
      have hB2 := hB1.trans (hb2.mono hB1.size)
      have a2 := a1.next hb2
      clear a1 hB1 hb2
      go_wp2_with (go_at_call 10; refine (beyond_no (len : Int) _ _ (by omega) (by omega) (by simp)).mono ?_; rintro e w' ⟨rfl, hw'⟩; subst hw'; have a3 := a2.alloc (.cells #[.int .i64 (len : Int)] 3); obtain ⟨c0, c1, c2, c3, c4, c5, c6, c7, c8, c9, c10, c11, c12, c13⟩ := a3.c)
      have hB3 := hB2.alloc hB2.size (.cells #[.int .i64 (len : Int)] 3)
      generalize (W2.alloc (.cells #[.int .i64 (len : Int)] 3)) = W3 at *
      refine (hp' W3).mono ?_
      rintro e W4 ⟨G, c, rfl, hcl, hcm, hG, hown, hb4⟩
      have hB4 := hB3.trans (hb4.mono hB3.size)
      have a4 := a3.next hb4
      have ha3 := a3.lt
      have hGw : G ≠ w.heap.size := by omega
      have hown4 := own_base hown hB3.size
      have hs4 := hs.below hB4
      have hsk := (seg_own hown hl84).take k
      clear a2 hB2 c0 c1 c2 c3 c4 c5 c6 c7 c8 c9 c10 c11 c12 c13 hs hp'
      go_wp2_with fail
      refine (gk G c W4 (by omega) hcm hsk).mono ?_
      rintro e W5 ⟨v', -, rfl, hb5⟩
      have hB5 := hB4.trans (hb5.mono hB4.size)
      have a6 := (a4.next hb5).alloc (.cells #[.bool v'.hm, .int .u32 v'.mode, .bool v'.hu, .int .u32 v'.user, .bool v'.hg, .int .u32 v'.group, .bool v'.hs, .int .u64 v'.size, .int .u32 v'.rh, .int .u32 v'.rs, .int .u32 v'.rn, .int .u32 v'.wh, .int .u32 v'.ws, .int .u32 v'.wn] 40)
      have hb6 : Below W4.heap.size W4 (W5.alloc (.cells #[.bool v'.hm, .int .u32 v'.mode, .bool v'.hu, .int .u32 v'.user, .bool v'.hg, .int .u32 v'.group, .bool v'.hs, .int .u64 v'.size, .int .u32 v'.rh, .int .u32 v'.rs, .int .u32 v'.rn, .int .u32 v'.wh, .int .u32 v'.ws, .int .u32 v'.wn] 40)) := hb5.alloc hb5.size _
      have hown6 := own_below hown4 hb6
      have hs6 := hs4.below hb6
      have hB6 := hB4.trans (hb6.mono hB4.size)
      clear gk hown hown4 hs4 hsk hb5 hB5 hB3 a3 a4 hb6 hb4
      go_wp2_with (at_builtin; refine wpList_append_each _ rfl _ _ 29 rfl w.heap.size 5 i0 (.int .u8 0) 1 1 Try.underlying29 hi hz0 hz1 hz2 rfl (by decide) (.slice (some ⟨G, 0, none⟩) q c) q _ rfl hown6 a len cap (zs.map (Value.int .u8)) rfl hnil (by simp [hz]) (fun b e => seg_news (by rw [← e]; exact hs6)) (news_one zs) (by unfold maxLen; omega) (by omega) hB6.size ?_; intro v7 W7 hown7 hgrow7)
      have hB7 : Below w.heap.size w W7 := hB6.grown hgrow7 hB6.size (fun k e => by cases e; show _ ≤ G; omega)
      have a7 : Sp W7 w.heap.size x := (hgrow7.block w.heap.size a6.lt (fun e => hGw (Option.some.inj e).symm)).trans a6
      rw [← List.map_append] at hown7
      obtain ⟨g7, c7, rfl, hcap7, hmx7, hg7⟩ := own_shape hown7 (by omega)
      have hs7 := seg_own hown7 hll
      clear hown6 hs6 hB6 hgrow7 a6 hown7
      refine (gl _ c7 W7 hcap7 hmx7 hs7).mono ?_
      rintro e W8 ⟨y, rfl, rfl, hb8⟩
      have hB8 := hB7.trans (hb8.mono hB7.size)
      have a9 := (a7.next hb8).alloc (.cells #[.bool y.hm, .int .u32 y.mode, .bool y.hu, .int .u32 y.user, .bool y.hg, .int .u32 y.group, .bool y.hs, .int .u64 y.size, .int .u32 y.rh, .int .u32 y.rs, .int .u32 y.rn, .int .u32 y.wh, .int .u32 y.ws, .int .u32 y.wn] 40)
      have x9 := Sp.new W8 y
      have hB9 := hB8.alloc hB8.size (.cells #[.bool y.hm, .int .u32 y.mode, .bool y.hu, .int .u32 y.user, .bool y.hg, .int .u32 y.group, .bool y.hs, .int .u64 y.size, .int .u32 y.rh, .int .u32 y.rs, .int .u32 y.rn, .int .u32 y.wh, .int .u32 y.ws, .int .u32 y.wn] 40)
      obtain ⟨c0, c1, c2, c3, c4, c5, c6, c7, c8, c9, c10, c11, c12, c13⟩ := a9.c
      obtain ⟨d0, d1, d2, d3, d4, d5, d6, d7, d8, d9, d10, d11, d12, d13⟩ := x9.c
      clear gl hs7 hb8 hB8 hB7 a7 a9 x9
      go_wp2
      go_ret
      exact ⟨rfl, hB9⟩
end Go.Proofs.Ytecbhhfncklefab
