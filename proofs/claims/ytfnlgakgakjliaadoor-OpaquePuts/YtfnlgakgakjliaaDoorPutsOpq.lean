/- The walk of 'OpaquePuts': true for any bytes and any number; nothing that was there turns. -/
import Derived.Test.YtfnlgakgakjliaaDoorBeyond
import Derived.Test.YtfnlgakgakjliaaDoorLeft
import Derived.Test.YtfnlgakgakjliaaDoorSame
import Derived.Test.YtfnlgakgakjliaaDoorRefPutFx
import Derived.Test.YtfnlgakgakjliaaDoorGotVal
import Derived.WalkSmall
namespace Go.Proofs.YtfnlgakgakjliaaDoor
set_option linter.unusedVariables false
open Go.RowKit

/-- The padding of any number. -/
def padI (n : Int) : Int := if n < 0 then 0 else (padN n.toNat : Int)

theorem pad_int (n : Int) (w : World) (hn : -9223372036854775808 ≤ n) (hn2 : n ≤ 9223372036854775807) :
    Calls Tryd.prog 13 #[.int .i64 n] w fun e w' => e = .returned (.int .i64 (padI n)) ∧ w' = w := by
  unfold padI
  by_cases h : n < 0
  · rw [if_pos h]
    exact pad_neg n w h hn
  · rw [if_neg h]
    have e : n = (n.toNat : Int) := by omega
    have hk := pad_nat n.toNat w (by omega)
    rw [← e] at hk
    exact hk

theorem refpad_int (n : Int) (w : World) (hn : -9223372036854775808 ≤ n) (hn2 : n ≤ 9223372036854775807) :
    Calls Tryd.prog 14 #[.int .i64 n] w fun e w' => e = .returned (.int .i64 (padI n)) ∧ w' = w := by
  unfold padI
  by_cases h : n < 0
  · rw [if_pos h]
    exact refpad_neg n w h hn
  · rw [if_neg h]
    have e : n = (n.toNat : Int) := by omega
    have hk := refpad_nat n.toNat w (by omega)
    rw [← e] at hk
    exact hk

set_option maxRecDepth 100000 in
set_option maxHeartbeats 2000000 in
theorem oputs_walk (a : Option Addr) (len cap : Nat) (n : Int) (zs : List Int) (w : World) (hlc : len ≤ cap) (hm : cap ≤ 9223372036854775807) (hz : zs.length = len) (hb : Byt zs) (hs : Seg w a zs) (hnil : a = none → len = 0 ∧ cap = 0) (hn : -9223372036854775808 ≤ n) (hn2 : n ≤ 9223372036854775807) :
    Calls Tryd.prog 3 #[.slice a len cap, .int .i64 n] w fun e w' => e = .returned (.bool true) ∧ Below w.heap.size w w' := by
  by_cases hl : 1048576 < len
  · go_enter Tryd.func3, Tryd.ntmps3
    go_wp2_with fail
    refine (beyond_yes (len : Int) _ _ (by omega) (by omega) (by simp)).mono ?_
    rintro e w' ⟨rfl, rfl⟩
    have hB2 : Below w.heap.size w (w.alloc (.cells #[.int .i64 (len : Int)] 3)) := (Below.refl _ _).alloc (Nat.le_refl _) _
    generalize w.alloc (.cells #[.int .i64 (len : Int)] 3) = w2 at *
    go_wp2
    go_ret
    exact ⟨rfl, hB2⟩
  · have hp := padN_lt len
    go_enter Tryd.func3, Tryd.ntmps3
    go_wp2_with fail
    refine (beyond_no (len : Int) _ _ (by omega) (by omega) (by simp)).mono ?_
    rintro e w' ⟨rfl, rfl⟩
    have hB1 : Below w.heap.size w (w.alloc (.cells #[.int .i64 (len : Int)] 3)) := (Below.refl _ _).alloc (Nat.le_refl _) _
    generalize w.alloc (.cells #[.int .i64 (len : Int)] 3) = w1 at *
    go_wp2_with fail
    refine (twin_any a len cap zs w1 (by omega) hz (hs.below hB1)).mono ?_
    rintro e w2 ⟨rfl, hb2, ho2⟩
    have T2 : Twinned w w1.heap.size zs w2 := ⟨hB1.trans (hb2.mono hB1.size), own_base (by rw [hz]; exact ho2) hB1.size⟩
    have hg2 : w1.heap.size < w2.heap.size := (own_lt ho2 rfl).2
    generalize w1.heap.size = g at *
    clear ho2 hb2 hB1
    go_wp2_with fail
    refine (putopq_any (some ⟨g, 0, none⟩) len (len + 1) zs w2 (by omega) (by omega) hz T2.seg (by simp)).mono ?_
    rintro e w3 ⟨vx, rfl, ox, hb3⟩
    have T3 := T2.next hb3
    have h23 := hb3.size
    have hxl : ∀ k, vx.ownBlock = some k → w2.heap.size ≤ k ∧ k < w3.heap.size := fun k hk => own_lt ox hk
    replace ox := own_base ox T2.below.size
    clear hb3 T2
    go_wp2_with fail
    refine (putfixed_any (some ⟨g, 0, none⟩) len (len + 1) zs w3 (by omega) (by omega) hz T3.seg (by simp)).mono ?_
    rintro e w4 ⟨rfl, oy, hb4⟩
    have T4 := T3.next hb4
    replace oy := own_base oy T3.below.size
    replace ox := own_below ox hb4
    obtain ⟨gy, hgy⟩ : ∃ gy, w3.heap.size = gy := ⟨_, rfl⟩
    rw [hgy] at hxl h23 oy ⊢
    clear hb4 T3 hgy
    have hql : (opBytes zs).length = 4 + (len + padN len) := by rw [opBytes_length, hz]
    have hrl : (padded zs).length = len + padN len := by rw [padded_length, hz]
    obtain ⟨q, hq⟩ : ∃ q, q = 4 + (len + padN len) := ⟨_, rfl⟩
    obtain ⟨r, hr⟩ : ∃ r, r = len + padN len := ⟨_, rfl⟩
    have hrq := fun W => refputopq_any a len cap zs W hlc (by omega) hz
    have hrr := fun W => refputfixed_any a len cap zs W hlc (by omega) hz
    rw [← hq] at ox hql hrq
    rw [← hr] at oy hrl hrr ⊢
    have hqm : q ≤ 2000000 := by omega
    have hrm : r ≤ 2000000 := by omega
    clear hq hr hp
    obtain ⟨ax, cx, rfl, sx, _⟩ := got_val ox hql
    have sy := seg_own oy hrl
    have hsa := hs.below T4.below
    have K4 : Kp w [⟨some ⟨g, 0, none⟩, len, len + 1, 1, zs⟩, ⟨ax, q, cx, 2, opBytes zs⟩, ⟨some ⟨gy, 0, none⟩, r, r, 3, padded zs⟩] w4 := ⟨T4.below, lists3 (T4.own hz) ox oy⟩
    have hA : Apt [⟨some ⟨g, 0, none⟩, len, len + 1, 1, zs⟩, ⟨ax, q, cx, 2, opBytes zs⟩, ⟨some ⟨gy, 0, none⟩, r, r, 3, padded zs⟩] := apt3
      (fun k hk hk2 => by have := hxl k hk2; have e : g = k := Option.some.inj hk; omega) (fun k hk hk2 => by have e : g = k := Option.some.inj hk; have e2 : gy = k := Option.some.inj hk2; omega) (fun k hk hk2 => by have := hxl k hk; have e2 : gy = k := Option.some.inj hk2; omega)
    clear ox oy hxl hg2 h23
    go_wp2_with fail
    refine (hrq w4 hsa hnil).mono ?_
    rintro e w5 ⟨vz, rfl, oz, hb5⟩
    have K5 := K4.next hb5
    have T5 := T4.next hb5
    have sx5 := sx.below hb5
    have sy5 := sy.below hb5
    have sa5 := hsa.below hb5
    obtain ⟨az, cz, rfl, sz, _⟩ := got_val oz hql
    clear oz hb5 K4 T4 sx sy hsa hrq
    go_wp2_with fail
    refine (same_true _ _ q cx cz (opBytes zs) w5 (by omega) hql sx5 sz).mono ?_
    rintro e w' ⟨rfl, j5, rfl⟩
    have hd := below_drewN (Below.refl w5.heap.size w5) j5
    have K6 := K5.next hd
    have T6 := T5.next hd
    have sy6 := sy5.below hd
    have sa6 := sa5.below hd
    generalize w5.drewN j5 = w6 at *
    clear K5 T5 sx5 sy5 sz sa5 hd
    go_wp2_with fail
    refine (hrr w6 sa6 hnil).mono ?_
    rintro e w7 ⟨vz, rfl, oz, hb7⟩
    have K7 := K6.next hb7
    have T7 := T6.next hb7
    have sy7 := sy6.below hb7
    have sa7 := sa6.below hb7
    obtain ⟨au, cu, rfl, su, _⟩ := got_val oz hrl
    clear oz hb7 K6 T6 sy6 sa6 hrr
    go_wp2_with fail
    refine (same_true _ _ r r cu (padded zs) w7 (by omega) hrl sy7 su).mono ?_
    rintro e w' ⟨rfl, j7, rfl⟩
    have hd := below_drewN (Below.refl w7.heap.size w7) j7
    have K8 := K7.next hd
    have T8 := T7.next hd
    have sa8 := sa7.below hd
    generalize w7.drewN j7 = w8 at *
    clear K7 T7 sy7 su sa7 hd
    go_wp2_with fail
    refine (pad_int n w8 hn hn2).mono ?_
    rintro e w' ⟨rfl, hw'⟩
    subst w'
    go_wp2_with fail
    refine (refpad_int n w8 hn hn2).mono ?_
    rintro e w' ⟨rfl, hw'⟩
    subst w'
    generalize padI n = x
    have hx : ((x : Int) != x) = false := by simp
    go_wp2_with fail
    refine (left g len a cap zs w8 (by omega) hz sa8 T8.twin).mono ?_
    rintro e w' ⟨rfl, j8, rfl⟩
    have K9 := K8.drewN j8
    generalize w8.drewN j8 = w9 at *
    clear K8 T8 sa8
    go_wp2_with fail
    have H0 := Hd.start K9
    generalize w9.alloc (.cells #[.int .i64 0, .slice none 0 0, .slice none 0 0, .slice none 0 0, .slice none 0 0, .slice none 0 0, .slice none 0 0, .slice none 0 0] 35) = v0 at *
    generalize w9.heap.size = B at *
    clear K9
    refine (H0.bytes (some ⟨g, 0, none⟩) len (len + 1) (by omega) (by omega) (by simp)).mono ?_
    rintro e v1 ⟨rfl, vb1, H1⟩
    clear H0
    go_wp2_with fail
    refine (H1.bytes ax q cx (by omega) (by omega) (by simp)).mono ?_
    rintro e v2 ⟨rfl, vb2, H2⟩
    clear H1
    go_wp2_with fail
    refine (H2.bytes (some ⟨gy, 0, none⟩) r r (by omega) (by omega) (by simp)).mono ?_
    rintro e v3 ⟨rfl, vb3, H3⟩
    clear H2
    go_wp2_with fail
    refine (H3.apart rfl hA (small3 (by show len ≤ _; omega) (by show q ≤ _; omega) (by show r ≤ _; omega) rfl rfl rfl)).mono ?_
    rintro e v4 ⟨rfl, hfin⟩
    clear H3
    go_wp2
    go_ret
    exact ⟨rfl, hfin⟩
end Go.Proofs.YtfnlgakgakjliaaDoor
