/- The walk of 'OpaqueFixed': true for any bytes and any number; nothing that was there turns. -/
import Derived.Test.YtfnlgakgakjliaaDoorBeyond
import Derived.Test.YtfnlgakgakjliaaDoorLeft
import Derived.Test.YtfnlgakgakjliaaDoorSame
import Derived.Test.YtfnlgakgakjliaaDoorRefGetFx
import Derived.Test.YtfnlgakgakjliaaDoorGotVal
import Derived.WalkSmall
namespace Go.Proofs.YtfnlgakgakjliaaDoor
set_option linter.unusedVariables false
open Go.RowKit

set_option maxRecDepth 100000 in
set_option maxHeartbeats 2000000 in
theorem ofixed_walk (a : Option Addr) (len cap : Nat) (n : Int) (zs : List Int) (w : World) (hlc : len ≤ cap) (hm : cap ≤ 9223372036854775807) (hz : zs.length = len) (hb : Byt zs) (hs : Seg w a zs) (hnil : a = none → len = 0 ∧ cap = 0) (hn : -9223372036854775808 ≤ n) (hn2 : n ≤ 9223372036854775807) :
    Calls Tryd.prog 5 #[.slice a len cap, .int .i64 n] w fun e w' => e = .returned (.bool true) ∧ Below w.heap.size w w' := by
  by_cases hl : 1048576 < len
  · go_enter Tryd.func5, Tryd.ntmps5
    go_wp2_with fail
    refine (beyond_yes (len : Int) _ _ (by omega) (by omega) (by simp)).mono ?_
    rintro e w' ⟨rfl, rfl⟩
    have hB2 : Below w.heap.size w (w.alloc (.cells #[.int .i64 (len : Int)] 3)) := (Below.refl _ _).alloc (Nat.le_refl _) _
    generalize w.alloc (.cells #[.int .i64 (len : Int)] 3) = w2 at *
    go_wp2
    go_ret
    exact ⟨rfl, hB2⟩
  · go_enter Tryd.func5, Tryd.ntmps5
    go_wp2_with fail
    refine (beyond_no (len : Int) _ _ (by omega) (by omega) (by simp)).mono ?_
    rintro e w' ⟨rfl, rfl⟩
    have hB1 : Below w.heap.size w (w.alloc (.cells #[.int .i64 (len : Int)] 3)) := (Below.refl _ _).alloc (Nat.le_refl _) _
    generalize w.alloc (.cells #[.int .i64 (len : Int)] 3) = w1 at *
    go_wp2_with fail
    refine (twin_any a len cap zs w1 (by omega) hz (hs.below hB1)).mono ?_
    rintro e w2 ⟨rfl, hb2, ho2⟩
    have T2 : Twinned w w1.heap.size zs w2 := ⟨hB1.trans (hb2.mono hB1.size), own_base (by rw [hz]; exact ho2) hB1.size⟩
    have hg2 : w1.heap.size < w2.heap.size := (own_lt ho2 rfl).2
    generalize w1.heap.size = g at *
    clear ho2 hb2 hB1
    go_wp2_with fail
    refine (getfixed_any (some ⟨g, 0, none⟩) len (len + 1) n zs w2 (by omega) (by omega) hz hb T2.seg (by simp) hn hn2).mono ?_
    rintro e w3 ⟨vx, rfl, ox, hb3⟩
    have T3 := T2.next hb3
    have h23 := hb3.size
    have hxl : ∀ k, vx.ownBlock = some k → w2.heap.size ≤ k ∧ k < w3.heap.size := fun k hk => own_lt ox hk
    replace ox := own_base ox T2.below.size
    clear hb3 T2
    go_wp2_with fail
    refine (getfixed_any (some ⟨g, 0, none⟩) len (len + 1) n zs w3 (by omega) (by omega) hz hb T3.seg (by simp) hn hn2).mono ?_
    rintro e w4 ⟨vy, rfl, oy, hb4⟩
    have T4 := T3.next hb4
    have hyl : ∀ k, vy.ownBlock = some k → w3.heap.size ≤ k := fun k hk => (own_lt oy hk).1
    replace oy := own_base oy T3.below.size
    replace ox := own_below ox hb4
    clear hb4 T3
    go_wp2_with fail
    refine (refgetfixed_any a len cap n zs w4 hlc (by omega) (by omega) hz hb (hs.below T4.below) hnil hn hn2).mono ?_
    rintro e w5 ⟨vz, rfl, oz, hb5⟩
    have T5 := T4.next hb5
    replace oy := own_below oy hb5
    replace ox := own_below ox hb5
    clear hb5 T4
    have hZl : (fxZ zs n).length ≤ len := by rw [← hz]; exact fxZ_le zs n
    obtain ⟨xs, hxs⟩ : ∃ xs, fxZ zs n = xs := ⟨_, rfl⟩
    rw [hxs] at ox oy oz hZl
    generalize fxL zs n = L at *
    generalize fxE zs n = E at *
    clear hxs
    obtain ⟨q, hq⟩ : ∃ q, xs.length = q := ⟨_, rfl⟩
    rw [hq] at ox oy oz hZl
    obtain ⟨ax, cx, rfl, sx, _⟩ := got_val ox hq
    obtain ⟨ay, cy, rfl, sy, _⟩ := got_val oy hq
    obtain ⟨az, cz, rfl, sz, _⟩ := got_val oz hq
    clear oz
    have hL : ((L : Int) != (L : Int)) = false := by simp
    have hE : ((E : Int) != E) = false := by simp
    have hsa := hs.below T5.below
    have K5 : Kp w [⟨some ⟨g, 0, none⟩, len, len + 1, 1, zs⟩, ⟨ax, q, cx, 2, xs⟩, ⟨ay, q, cy, 3, xs⟩] w5 := ⟨T5.below, lists3 (T5.own hz) ox oy⟩
    have hA : Apt [⟨some ⟨g, 0, none⟩, len, len + 1, 1, zs⟩, ⟨ax, q, cx, 2, xs⟩, ⟨ay, q, cy, 3, xs⟩] := apt3
      (fun k hk hk2 => by have := hxl k hk2; have e : g = k := Option.some.inj hk; omega) (fun k hk hk2 => by have := hyl k hk2; have e : g = k := Option.some.inj hk; omega) (fun k hk hk2 => by have := hxl k hk; have := hyl k hk2; omega)
    clear ox oy hxl hyl hg2 h23
    go_wp2_with fail
    refine (same_true _ _ q cx cz xs w5 (by omega) hq sx sz).mono ?_
    rintro e w' ⟨rfl, j5, rfl⟩
    have hd := below_drewN (Below.refl w5.heap.size w5) j5
    have K6 := K5.next hd
    have T6 := T5.next hd
    have sy6 := sy.below hd
    have sz6 := sz.below hd
    have sa6 := hsa.below hd
    generalize w5.drewN j5 = w6 at *
    clear K5 T5 sx sy sz hsa hd
    go_wp2_with fail
    refine (same_true _ _ q cy cz xs w6 (by omega) hq sy6 sz6).mono ?_
    rintro e w' ⟨rfl, j6, rfl⟩
    have hd := below_drewN (Below.refl w6.heap.size w6) j6
    have K7 := K6.next hd
    have T7 := T6.next hd
    have sa7 := sa6.below hd
    generalize w6.drewN j6 = w7 at *
    clear K6 T6 sy6 sz6 sa6 hd
    go_wp2_with fail
    refine (left g len a cap zs w7 (by omega) hz sa7 T7.twin).mono ?_
    rintro e w' ⟨rfl, j7, rfl⟩
    have K8 := K7.drewN j7
    generalize w7.drewN j7 = w8 at *
    clear K7 T7 sa7
    go_wp2_with fail
    have H0 := Hd.start K8
    generalize w8.alloc (.cells #[.int .i64 0, .slice none 0 0, .slice none 0 0, .slice none 0 0, .slice none 0 0, .slice none 0 0, .slice none 0 0, .slice none 0 0] 35) = v0 at *
    generalize w8.heap.size = B at *
    clear K8
    refine (H0.bytes (some ⟨g, 0, none⟩) len (len + 1) (by omega) (by omega) (by simp)).mono ?_
    rintro e v1 ⟨rfl, vb1, H1⟩
    clear H0
    go_wp2_with fail
    refine (H1.bytes ax q cx (by omega) (by omega) (by simp)).mono ?_
    rintro e v2 ⟨rfl, vb2, H2⟩
    clear H1
    go_wp2_with fail
    refine (H2.bytes ay q cy (by omega) (by omega) (by simp)).mono ?_
    rintro e v3 ⟨rfl, vb3, H3⟩
    clear H2
    go_wp2_with fail
    refine (H3.apart rfl hA (small3 (by show len ≤ _; omega) (by show q ≤ _; omega) (by show q ≤ _; omega) rfl rfl rfl)).mono ?_
    rintro e v4 ⟨rfl, hfin⟩
    clear H3
    go_wp2
    go_ret
    exact ⟨rfl, hfin⟩
end Go.Proofs.YtfnlgakgakjliaaDoor
