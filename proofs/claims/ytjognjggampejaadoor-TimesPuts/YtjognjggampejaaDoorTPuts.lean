/- The walk of 'TimesPuts': true for any point of time, any bytes; nothing that was there turns. -/
import Derived.Test.YtjognjggampejaaDoorBeyond
import Derived.Test.YtjognjggampejaaDoorTwin
import Derived.Test.YtjognjggampejaaDoorLeft
import Derived.Test.YtjognjggampejaaDoorSame
import Derived.Test.YtjognjggampejaaDoorOwnGot
import Derived.Test.YtjognjggampejaaDoorTimePut
import Derived.Test.YtjognjggampejaaDoorTimeGet
import Derived.Test.YtjognjggampejaaDoorRefTPut
import Derived.Test.YtjognjggampejaaDoorRefTGet
import Derived.WalkSmall
namespace Go.Proofs.YtjognjggampejaaDoor
set_option linter.unusedVariables false
open Go.RowKit

set_option maxRecDepth 100000 in
set_option maxHeartbeats 2000000 in
theorem tputs_walk (s n : Int) (a : Option Addr) (len cap : Nat) (zs : List Int) (w : World) (s0 : 0 ≤ s) (s1 : s ≤ 4294967295) (n0 : 0 ≤ n) (n1 : n ≤ 4294967295)
    (hlc : len ≤ cap) (hm : cap ≤ 9223372036854775807) (hz : zs.length = len) (hb : Byt zs) (hs : Seg w a zs) :
    Calls Tryd.prog 3 #[.agg #[.int .u32 s, .int .u32 n], .slice a len cap] w fun e w' => e = .returned (.bool true) ∧ Below w.heap.size w w' := by
  have a1 := Tp.new w s n
  have hB1 : Below w.heap.size w (w.alloc (.cells #[.int .u32 s, .int .u32 n] 24)) := (Below.refl _ _).alloc (Nat.le_refl _) _
  by_cases hl : 1048576 < len
  · go_enter Tryd.func3, Tryd.ntmps3
    go_wp2_with (go_at_call 4; refine (beyond_yes (len : Int) _ _ (by omega) (by omega) (by simp)).mono ?_; rintro e w' ⟨rfl, hw'⟩; subst hw')
    go_ret
    exact ⟨rfl, hB1.alloc hB1.size _⟩
  · go_enter Tryd.func3, Tryd.ntmps3
    go_wp2_with fail
    refine (beyond_no (len : Int) _ _ (by omega) (by omega) (by simp)).mono ?_
    rintro e w' ⟨rfl, rfl⟩
    have hB2 := hB1.alloc hB1.size (.cells #[.int .i64 (len : Int)] 3)
    have a2 := a1.alloc (.cells #[.int .i64 (len : Int)] 3)
    clear a1 hB1
    generalize ((w.alloc (.cells #[.int .u32 s, .int .u32 n] 24)).alloc (.cells #[.int .i64 (len : Int)] 3)) = w2 at *
    go_wp2_with fail
    refine (twin a len cap zs w2 (by omega) hz (hs.below hB2)).mono ?_
    rintro e w3 ⟨g, rfl, hb3, -, T3⟩
    have hB3 := hB2.trans (hb3.mono hB2.size)
    have a3 := a2.next hb3
    clear a2 hB2 hb3
    have c0 := a3.c0
    have c1 := a3.c1
    go_wp2_with fail
    refine (tput_any s n w3 s0 s1 n0 n1).mono ?_
    rintro e w4 ⟨gx, cx, rfl, hx8, hxm, ox, hb4⟩
    have hxl := own_lt (g := gx) ox rfl
    have hB4 := hB3.trans (hb4.mono hB3.size)
    have a4 := a3.next hb4
    have T4 := T3.below hb4
    replace ox := own_base ox hB3.size
    clear c0 c1 a3 hB3 hb4 T3
    have c0 := a4.c0
    have c1 := a4.c1
    go_wp2_with fail
    refine (tput_any s n w4 s0 s1 n0 n1).mono ?_
    rintro e w5 ⟨gy, cy, rfl, hy8, hym, oy, hb5⟩
    have hyl := own_lt (g := gy) oy rfl
    have hB5 := hB4.trans (hb5.mono hB4.size)
    have a5 := a4.next hb5
    have T5 := T4.below hb5
    replace oy := own_base oy hB4.size
    replace ox := own_below ox hb5
    have hq := tB_length s n
    have sx := seg_own ox hq
    have sy := seg_own oy hq
    have K5 : Kp w [⟨some ⟨gx, 0, none⟩, 8, cx, 1, tB s n⟩, ⟨some ⟨gy, 0, none⟩, 8, cy, 2, tB s n⟩] w5 := ⟨hB5, lists2 ox oy⟩
    have hA : Apt [⟨some ⟨gx, 0, none⟩, 8, cx, 1, tB s n⟩, ⟨some ⟨gy, 0, none⟩, 8, cy, 2, tB s n⟩] := apt2 (fun k hk hk2 => by have h1 : gx = k := Option.some.inj hk; have h2 : gy = k := Option.some.inj hk2; omega)
    have sa5 := hs.below hB5
    have hrf := fun w => reftput_any s n w s0 s1 n0 n1
    generalize tB s n = xs at *
    have hg := fun w hs => tget_any (some ⟨g, 0, none⟩) len (len + 1) zs w (by omega) (by omega) hz hb hs
    have hr := fun w hs => reftget_any a len cap zs w hlc hm hz hb hs
    generalize gtE zs = E at *
    generalize gtS zs = S at *
    generalize gtN zs = N at *
    have hneq : ∀ w, (binOp .neq 24 (.agg #[.int .u32 S, .int .u32 N]) (.agg #[.int .u32 S, .int .u32 N])).run Tryd.prog w = .ok (.bool false) w := fun w => by rw [time_neq]; simp
    have hE : (E != E) = false := by simp
    clear c0 c1 a4 hB4 hb5 T4 ox oy hxl hyl hs
    go_wp2_with fail
    refine (hg w5 T5.seg).mono ?_
    rintro e w6 ⟨rfl, hb6⟩
    have hb7 : Below w5.heap.size w5 (w6.alloc (.cells #[.int .u32 S, .int .u32 N] 24)) := hb6.alloc hb6.size _
    have K7 := K5.next hb7
    have a7 := a5.next hb7
    have T7 := T5.below hb7
    have sx7 := sx.below hb7
    have sy7 := sy.below hb7
    have sa7 := sa5.below hb7
    have p7 := Tp.new w6 S N
    clear hg hB5 a5 T5 sx sy sa5 K5 hb6 hb7
    go_wp2_with fail
    generalize (w6.alloc (.cells #[.int .u32 S, .int .u32 N] 24)) = w7 at *
    generalize w6.heap.size = h at *
    refine (hr w7 sa7).mono ?_
    rintro e w8 ⟨rfl, hb8⟩
    have hb9 : Below w7.heap.size w7 (w8.alloc (.cells #[.int .u32 S, .int .u32 N] 24)) := hb8.alloc hb8.size _
    have K9 := K7.next hb9
    have a9 := a7.next hb9
    have T9 := T7.below hb9
    have sx9 := sx7.below hb9
    have sy9 := sy7.below hb9
    have sa9 := sa7.below hb9
    have p9 := p7.next hb9
    have q9 := Tp.new w8 S N
    have c0 := a9.c0
    have c1 := a9.c1
    clear hr a7 T7 sx7 sy7 sa7 K7 hb8 hb9 p7
    go_wp2_with fail
    generalize (w8.alloc (.cells #[.int .u32 S, .int .u32 N] 24)) = w9 at *
    generalize w8.heap.size = h' at *
    refine (hrf w9).mono ?_
    rintro e w10 ⟨gz, cz, rfl, -, -, oz, hb10⟩
    have sz := seg_own oz hq
    have K10 := K9.next hb10
    have T10 := T9.below hb10
    have sx10 := sx9.below hb10
    have sy10 := sy9.below hb10
    have sa10 := sa9.below hb10
    have p10 := p9.next hb10
    have q10 := q9.next hb10
    clear hrf a9 T9 sx9 sy9 sa9 K9 hb10 p9 q9 oz c0 c1
    go_wp2_with fail
    refine (same_true _ _ 8 cx cz xs w10 (by omega) hq sx10 sz).mono ?_
    rintro e w' ⟨rfl, j, rfl⟩
    have hd := below_drewN (Below.refl w10.heap.size w10) j
    have K11 := K10.next hd
    have T11 := T10.below hd
    have sx11 := sx10.below hd
    have sy11 := sy10.below hd
    have sa11 := sa10.below hd
    have p11 := p10.next hd
    have q11 := q10.next hd
    generalize w10.drewN j = w11 at *
    clear K10 T10 sx10 sy10 sa10 p10 q10 hd sz
    go_wp2_with fail
    refine (same_true _ _ 8 cy cx xs w11 (by omega) hq sy11 sx11).mono ?_
    rintro e w' ⟨rfl, j2, rfl⟩
    have hd := below_drewN (Below.refl w11.heap.size w11) j2
    have K12 := K11.next hd
    have T12 := T11.below hd
    have sa12 := sa11.below hd
    have p12 := p11.next hd
    have q12 := q11.next hd
    generalize w11.drewN j2 = w12 at *
    clear K11 T11 sx11 sy11 sa11 p11 q11 hd
    have c0 := p12.c0
    have c1 := p12.c1
    have d0 := q12.c0
    have d1 := q12.c1
    go_wp2_with fail
    refine (left g len a cap zs w12 (by omega) hz sa12 T12).mono ?_
    rintro e w' ⟨rfl, j3, rfl⟩
    have hd := below_drewN (Below.refl w12.heap.size w12) j3
    have K13 := K12.next hd
    generalize w12.drewN j3 = w13 at *
    clear K12 T12 sa12 p12 q12 hd c0 c1 d0 d1 hneq
    go_wp2_with fail
    have H0 := Hd.start K13
    generalize w13.alloc (.cells #[.int .i64 0, .slice none 0 0, .slice none 0 0, .slice none 0 0, .slice none 0 0, .slice none 0 0, .slice none 0 0, .slice none 0 0] 41) = v0 at *
    generalize w13.heap.size = B at *
    clear K13
    refine (H0.bytes (some ⟨gx, 0, none⟩) 8 cx (by omega) (by omega) (by simp)).mono ?_
    rintro e v1 ⟨rfl, vb1, H1⟩
    clear H0
    go_wp2_with fail
    refine (H1.bytes (some ⟨gy, 0, none⟩) 8 cy (by omega) (by omega) (by simp)).mono ?_
    rintro e v2 ⟨rfl, vb2, H2⟩
    clear H1
    go_wp2_with fail
    refine (H2.apart rfl hA (small2 (by show 8 ≤ _; omega) (by show 8 ≤ _; omega) rfl rfl)).mono ?_
    rintro e v4 ⟨rfl, hfin⟩
    clear H2
    go_wp2
    go_ret
    exact ⟨rfl, hfin⟩
end Go.Proofs.YtjognjggampejaaDoor
