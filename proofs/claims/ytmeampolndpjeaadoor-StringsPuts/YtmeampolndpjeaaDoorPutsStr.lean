/- The walk of 'StringsPuts': true for any text; nothing that was there turns. -/
import Derived.Test.YtmeampolndpjeaaDoorBeyond
import Derived.Test.YtmeampolndpjeaaDoorSame
import Derived.Test.YtmeampolndpjeaaDoorStrPut
import Derived.Test.YtmeampolndpjeaaDoorRefNames
import Derived.Test.YtmeampolndpjeaaDoorOwnGot
import Derived.WalkSmall
namespace Go.Proofs.YtmeampolndpjeaaDoor
set_option linter.unusedVariables false
open Go.RowKit

set_option maxRecDepth 100000 in
set_option maxHeartbeats 2000000 in
theorem sputs_walk (s : ByteArray) (w : World) (hm : s.size ≤ 9223372036854775807) :
    Calls Tryd.prog 3 #[.string s] w fun e w' => e = .returned (.bool true) ∧ Below w.heap.size w w' := by
  by_cases hl : 1048576 < s.size
  · go_enter Tryd.func3, Tryd.ntmps3
    go_wp2_with fail
    refine (beyond_yes (s.size : Int) _ _ (by omega) (by omega) (by simp)).mono ?_
    rintro e w' ⟨rfl, rfl⟩
    have hB2 : Below w.heap.size w (w.alloc (.cells #[.int .i64 (s.size : Int)] 3)) := (Below.refl _ _).alloc (Nat.le_refl _) _
    generalize w.alloc (.cells #[.int .i64 (s.size : Int)] 3) = w2 at *
    go_wp2
    go_ret
    exact ⟨rfl, hB2⟩
  · have hp := padN_lt s.size
    go_enter Tryd.func3, Tryd.ntmps3
    go_wp2_with fail
    refine (beyond_no (s.size : Int) _ _ (by omega) (by omega) (by simp)).mono ?_
    rintro e w' ⟨rfl, rfl⟩
    have hB1 : Below w.heap.size w (w.alloc (.cells #[.int .i64 (s.size : Int)] 3)) := (Below.refl _ _).alloc (Nat.le_refl _) _
    generalize w.alloc (.cells #[.int .i64 (s.size : Int)] 3) = w1 at *
    go_wp2_with fail
    refine (strput_any s w1 (by omega)).mono ?_
    rintro e w2 ⟨vx, rfl, ox, hb2⟩
    have hB2 := hB1.trans (hb2.mono hB1.size)
    have hxl : ∀ k, vx.ownBlock = some k → w1.heap.size ≤ k ∧ k < w2.heap.size := fun k hk => own_lt ox hk
    replace ox := own_base ox hB1.size
    clear hb2 hB1
    go_wp2_with fail
    refine (strput_any s w2 (by omega)).mono ?_
    rintro e w3 ⟨vy, rfl, oy, hb3⟩
    have hB3 := hB2.trans (hb3.mono hB2.size)
    have hyl : ∀ k, vy.ownBlock = some k → w2.heap.size ≤ k ∧ k < w3.heap.size := fun k hk => own_lt oy hk
    replace oy := own_base oy hB2.size
    replace ox := own_below ox hb3
    clear hb3 hB2
    have hql : (opBytes (tz s)).length = 4 + (s.size + padN s.size) := by rw [opBytes_length, tz_len]
    have hrq := fun W => refstrput_any s W (by omega)
    obtain ⟨q, hq⟩ : ∃ q, q = 4 + (s.size + padN s.size) := ⟨_, rfl⟩
    rw [← hq] at ox oy hql hrq
    have hqm : q ≤ 2000000 := by omega
    clear hq hp
    obtain ⟨ax, cx, rfl, sx, _⟩ := got_val ox hql
    obtain ⟨ay, cy, rfl, sy, _⟩ := got_val oy hql
    have K3 : Kp w [⟨ax, q, cx, 1, opBytes (tz s)⟩, ⟨ay, q, cy, 2, opBytes (tz s)⟩] w3 := ⟨hB3, lists2 ox oy⟩
    have hA : Apt [⟨ax, q, cx, 1, opBytes (tz s)⟩, ⟨ay, q, cy, 2, opBytes (tz s)⟩] := apt2 (fun k hk hk2 => by have := hxl k hk; have := hyl k hk2; omega)
    clear ox oy hxl hyl hB3
    go_wp2_with fail
    refine (hrq w3).mono ?_
    rintro e w4 ⟨vz, rfl, oz, hb4⟩
    have K4 := K3.next hb4
    have sx4 := sx.below hb4
    have sy4 := sy.below hb4
    obtain ⟨az, cz, rfl, sz, _⟩ := got_val oz hql
    clear oz hb4 K3 sx sy hrq
    go_wp2_with fail
    refine (same_true _ _ q cx cz (opBytes (tz s)) w4 (by omega) hql sx4 sz).mono ?_
    rintro e w' ⟨rfl, j4, rfl⟩
    have hd := below_drewN (Below.refl w4.heap.size w4) j4
    have K5 := K4.next hd
    have sx5 := sx4.below hd
    have sy5 := sy4.below hd
    generalize w4.drewN j4 = w5 at *
    clear K4 sx4 sy4 sz hd
    go_wp2_with fail
    refine (same_true _ _ q cy cx (opBytes (tz s)) w5 (by omega) hql sy5 sx5).mono ?_
    rintro e w' ⟨rfl, j5, rfl⟩
    have hd := below_drewN (Below.refl w5.heap.size w5) j5
    have K6 := K5.next hd
    generalize w5.drewN j5 = w6 at *
    clear K5 sx5 sy5 hd
    have hn := name_any s w6
    have hrn := fun w => refname_any s w (by omega)
    have hpa := fun w => path_any s w
    have hrp := fun w => refpath_any s w (by omega)
    generalize nameE s = N at *
    generalize pathE s = P at *
    have hN : (N != N) = false := by simp
    have hP : (P != P) = false := by simp
    go_wp2_with fail
    refine hn.mono ?_
    rintro e w7 ⟨rfl, hb7⟩
    have K7 := K6.next hb7
    clear hb7 K6 hn
    go_wp2_with fail
    refine (hrn w7).mono ?_
    rintro e w' ⟨rfl, hw'⟩
    subst w'
    clear hrn
    go_wp2_with fail
    refine (hpa w7).mono ?_
    rintro e w8 ⟨rfl, hb8⟩
    have K8 := K7.next hb8
    clear hb8 K7 hpa
    go_wp2_with fail
    refine (hrp w8).mono ?_
    rintro e w' ⟨rfl, hw'⟩
    subst w'
    clear hrp
    go_wp2_with fail
    have H0 := Hd.start K8
    generalize w8.alloc (.cells #[.int .i64 0, .slice none 0 0, .slice none 0 0, .slice none 0 0, .slice none 0 0, .slice none 0 0, .slice none 0 0, .slice none 0 0] 37) = v0 at *
    generalize w8.heap.size = B at *
    clear K8
    refine (H0.bytes ax q cx (by omega) (by omega) (by simp)).mono ?_
    rintro e v1 ⟨rfl, vb1, H1⟩
    clear H0
    go_wp2_with fail
    refine (H1.bytes ay q cy (by omega) (by omega) (by simp)).mono ?_
    rintro e v2 ⟨rfl, vb2, H2⟩
    clear H1
    go_wp2_with fail
    refine (H2.apart rfl hA (small2 (by show q ≤ _; omega) (by show q ≤ _; omega) rfl rfl)).mono ?_
    rintro e v4 ⟨rfl, hfin⟩
    clear H2
    go_wp2
    go_ret
    exact ⟨rfl, hfin⟩
end Go.Proofs.YtmeampolndpjeaaDoor
