/- The walk of 'MarksGets': true for any bytes; nothing that was there turns. -/
import Derived.Test.YtmjjoiljdcjhdaaDoorLeft
import Derived.Test.YtmjjoiljdcjhdaaDoorSame
import Derived.Test.YtmjjoiljdcjhdaaDoorRefMGet
import Derived.Test.YtmjjoiljdcjhdaaDoorTwinOwn
import Derived.WalkSmall
namespace Go.Proofs.YtmjjoiljdcjhdaaDoor
set_option linter.unusedVariables false
open Go.RowKit

set_option maxRecDepth 100000 in
set_option maxHeartbeats 2000000 in
theorem mgets_walk (a : Option Addr) (len cap : Nat) (zs : List Int) (w : World) (hlc : len ≤ cap) (hm : cap ≤ 9223372036854775807) (hz : zs.length = len) (hb : Byt zs) (hs : Seg w a zs) (hnil : a = none → len = 0 ∧ cap = 0) :
    Calls Tryd.prog 4 #[.slice a len cap] w fun e w' => e = .returned (.bool true) ∧ Below w.heap.size w w' := by
  by_cases hl : 200000 < len
  · go_enter Tryd.func4, Tryd.ntmps4
    go_wp2
    go_ret
    exact ⟨rfl, Below.refl _ _⟩
  · go_enter Tryd.func4, Tryd.ntmps4
    go_wp2_with fail
    refine (twin_any a len cap zs w (by omega) hz hs).mono ?_
    rintro e w2 ⟨rfl, hb2, ho2⟩
    have T2 : Twinned w w.heap.size zs w2 := ⟨hb2, by rw [hz]; exact ho2⟩
    have hg2 : w.heap.size < w2.heap.size := (own_lt ho2 rfl).2
    obtain ⟨g, hg⟩ : ∃ g, w.heap.size = g := ⟨_, rfl⟩
    have T2 : Twinned w g zs w2 := by rw [← hg]; exact T2
    rw [hg] at hg2
    have Hg : Hid (w.heap.size = g) := hg
    simp only [hg]
    clear ho2 hb2 hg
    go_wp2_with fail
    refine (mget_any (some ⟨g, 0, none⟩) len (len + 1) zs w2 (by omega) (by omega) hz hb T2.seg (by simp)).mono ?_
    rintro e w3 ⟨vx, rfl, ox, hb3⟩
    have T3 := T2.next hb3
    have h23 := hb3.size
    have hxl : ∀ k, vx.ownBlock = some k → w2.heap.size ≤ k ∧ k < w3.heap.size := fun k hk => own_lt ox hk
    replace ox := own_base ox T2.below.size
    clear hb3 T2
    go_wp2_with fail
    refine (mget_any (some ⟨g, 0, none⟩) len (len + 1) zs w3 (by omega) (by omega) hz hb T3.seg (by simp)).mono ?_
    rintro e w4 ⟨vy, rfl, oy, hb4⟩
    have T4 := T3.next hb4
    have hyl : ∀ k, vy.ownBlock = some k → w3.heap.size ≤ k := fun k hk => (own_lt oy hk).1
    replace oy := own_base oy T3.below.size
    replace ox := own_below ox hb4
    clear hb4 T3
    go_wp2_with fail
    refine (refmget_any a len cap zs w4 hlc hm (by omega) hz hb (hs.below T4.below) hnil).mono ?_
    rintro e w5 ⟨vz, rfl, oz, hb5⟩
    have T5 := T4.next hb5
    replace oy := own_below oy hb5
    replace ox := own_below ox hb5
    clear hb5 T4
    have hZl : (mg 65536 zs).2.1.length ≤ 65536 := (mg_len 65536 zs).2.2
    obtain ⟨xs, hxs⟩ : ∃ xs, (mg 65536 zs).2.1 = xs := ⟨_, rfl⟩
    rw [hxs] at ox oy oz hZl
    generalize (mg 65536 zs).2.2 = L at *
    generalize (mg 65536 zs).1 = E at *
    clear hxs
    obtain ⟨q, hq⟩ : ∃ q, xs.length = q := ⟨_, rfl⟩
    rw [hq] at ox oy oz hZl
    obtain ⟨ax, cx, rfl, sx, _⟩ := got_val ox hq
    obtain ⟨ay, cy, rfl, sy, _⟩ := got_val oy hq
    obtain ⟨az, cz, rfl, sz, _⟩ := got_val oz hq
    clear oz
    have hL : ((L : Int) != (L : Int)) = false := by simp
    have hE : ((E : Int) != E) = false := by simp
    have hsa := hs.below T5.below
    have K5 : Kp w [⟨some ⟨g, 0, none⟩, len, len + 1, 1, zs⟩, ⟨ax, q, cx, 2, xs⟩, ⟨ay, q, cy, 3, xs⟩] w5 := ⟨T5.below, lists3 (T5.own hz) ox oy⟩
    have hA : Apt [⟨some ⟨g, 0, none⟩, len, len + 1, 1, zs⟩, ⟨ax, q, cx, 2, xs⟩, ⟨ay, q, cy, 3, xs⟩] := apt3
      (fun k hk hk2 => by have := hxl k hk2; have e : g = k := Option.some.inj hk; omega) (fun k hk hk2 => by have := hyl k hk2; have e : g = k := Option.some.inj hk; omega) (fun k hk hk2 => by have := hxl k hk; have := hyl k hk2; omega)
    clear ox oy hxl hyl hg2 h23
    go_wp2_with fail
    refine (same_true _ _ q cx cz xs w5 (by omega) hq sx sz).mono ?_
    rintro e w' ⟨rfl, j5, rfl⟩
    have hd := below_drewN (Below.refl w5.heap.size w5) j5
    have K7 := K5.next hd
    have T7 := T5.next hd
    have sa7 := hsa.below hd
    generalize w5.drewN j5 = w7 at *
    clear K5 T5 sx sy sz hsa hd
    go_wp2_with fail
    refine (left g len a cap zs w7 (by omega) hz sa7 T7.twin).mono ?_
    rintro e w' ⟨rfl, j7, rfl⟩
    have K8 := K7.drewN j7
    generalize w7.drewN j7 = w8 at *
    clear K7 T7 sa7
    go_wp2_with fail
    have H0 := Hd.start K8
    generalize w8.alloc (.cells #[.int .i64 0, .slice none 0 0, .slice none 0 0, .slice none 0 0, .slice none 0 0, .slice none 0 0, .slice none 0 0, .slice none 0 0] 37) = v0 at *
    generalize w8.heap.size = B at *
    clear K8
    refine (H0.bytes (some ⟨g, 0, none⟩) len (len + 1) (by omega) (by omega) (by simp)).mono ?_
    rintro e v1 ⟨rfl, vb1, H1⟩
    clear H0
    go_wp2_with fail
    refine (H1.bytes ax q cx (by omega) (by omega) (by simp)).mono ?_
    rintro e v2 ⟨rfl, vb2, H2⟩
    clear H1
    go_wp2_with fail
    refine (H2.bytes ay q cy (by omega) (by omega) (by simp)).mono ?_
    rintro e v3 ⟨rfl, vb3, H3⟩
    clear H2
    go_wp2_with fail
    refine (H3.apart rfl hA (small3 (by show len ≤ _; omega) (by show q ≤ _; omega) (by show q ≤ _; omega) rfl rfl rfl)).mono ?_
    rintro e v4 ⟨rfl, hfin⟩
    clear H3
    go_wp2
    go_ret
    exact ⟨rfl, hfin⟩
end Go.Proofs.YtmjjoiljdcjhdaaDoor
