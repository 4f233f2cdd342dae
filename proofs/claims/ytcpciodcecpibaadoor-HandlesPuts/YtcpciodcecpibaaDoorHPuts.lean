/- The walk of 'HandlesPuts': true for any handle; nothing that was there turns. -/
import Derived.Test.YtcpciodcecpibaaDoorHKeep
import Derived.Test.YtcpciodcecpibaaDoorRefHand
import Derived.Test.YtcpciodcecpibaaDoorSame
import Derived.Test.YtcpciodcecpibaaDoorOwnGot
import Derived.WalkSmall
namespace Go.Proofs.YtcpciodcecpibaaDoor
set_option linter.unusedVariables false
open Go.RowKit

/-- What a handle is put as, and the error: the mathematics. -/
def puE (n : Int) : Int := if okN n then 0 else 1
def puZ (n g : Int) : List Int := if okN n then hB n g else []

theorem puZ_le (n g : Int) : (puZ n g).length ≤ 16 := by
  unfold puZ
  split
  · rw [hB_length]; omega
  · simp

theorem okN_iff {n : Int} : okN n = true ↔ 1 ≤ n ∧ n ≤ 1024 := by simp [okN]

theorem hput_any (n g : Int) (w : World) (h2 : 0 ≤ g) (h3 : g ≤ 4294967295) :
    Calls Tryd.prog 4 #[.agg #[.int .i64 n, .int .u32 g]] w fun e w' => ∃ v, e = .returned (.tuple #[v, .int .i64 (puE n)]) ∧
      w'.ownsRow w.heap.size 5 1 v (puZ n g).length ((puZ n g).map (Value.int .u8)) ∧ Below w.heap.size w w' := by
  cases h : okN n with
  | false =>
    have e1 : puE n = 1 := by simp [puE, h]
    have e2 : puZ n g = [] := by simp [puZ, h]
    rw [e1, e2]
    refine (hput_no n g w h).mono ?_
    rintro e w' ⟨rfl, hb⟩
    exact ⟨_, rfl, own_empty _ _ _, hb⟩
  | true =>
    have e1 : puE n = 0 := by simp [puE, h]
    have e2 : puZ n g = hB n g := by simp [puZ, h]
    have hn := okN_iff.1 h
    rw [e1, e2]
    refine (hput_yes n g w hn.1 hn.2 h2 h3).mono ?_
    rintro e w' ⟨G, rfl, ho, hb⟩
    exact ⟨_, rfl, by rw [hB_length]; exact ho, hb⟩

set_option maxRecDepth 100000 in
set_option maxHeartbeats 1000000 in
theorem refhput_any (n g : Int) (w : World) (h2 : 0 ≤ g) (h3 : g ≤ 4294967295) :
    Calls Tryd.prog 5 #[.agg #[.int .i64 n, .int .u32 g]] w fun e w' => ∃ v, e = .returned (.tuple #[v, .int .i64 (puE n)]) ∧
      w'.ownsRow w.heap.size 5 1 v (puZ n g).length ((puZ n g).map (Value.int .u8)) ∧ Below w.heap.size w w' := by
  have hB1 : Below w.heap.size w (w.alloc (.cells #[.int .i64 n, .int .u32 g] 24)) := (Below.refl _ _).alloc (Nat.le_refl _) _
  cases h : okN n with
  | false =>
    have e1 : puE n = 1 := by simp [puE, h]
    have e2 : puZ n g = [] := by simp [puZ, h]
    rw [e1, e2]
    have hn : n < 1 ∨ (1 ≤ n ∧ 1024 < n) := by
      by_cases h1 : n < 1
      · exact .inl h1
      · refine .inr ⟨by omega, ?_⟩
        by_cases h4 : 1024 < n
        · exact h4
        · rw [okN_iff.2 ⟨by omega, by omega⟩] at h; cases h
    clear e1 e2 h
    rcases hn with hn | ⟨hn, hn2⟩
    · go_enter Tryd.func5, Tryd.ntmps5
      go_wp2
      go_ret2
      exact ⟨_, rfl, own_empty _ _ _, hB1⟩
    · go_enter Tryd.func5, Tryd.ntmps5
      go_wp2
      go_ret2
      exact ⟨_, rfl, own_empty _ _ _, hB1⟩
  | true =>
    have e1 : puE n = 0 := by simp [puE, h]
    have e2 : puZ n g = hB n g := by simp [puZ, h]
    have hn := okN_iff.1 h
    rw [e1, e2]
    have hcv : IntKind.u32.wrap n = n := by rw [IntKind.wrap_u32']; omega
    clear e1 e2 h
    go_enter Tryd.func5, Tryd.ntmps5
    go_wp2_with (go_at_call 12; refine (refbytes_any n g _ (by omega) (by omega) h2 h3).mono ?_; rintro e w2 ⟨G, c, rfl, hc, ho, hb⟩)
    go_ret2
    exact ⟨_, rfl, by rw [hB_length]; exact own_base ho hB1.size, hB1.trans (hb.mono hB1.size)⟩

set_option maxRecDepth 100000 in
set_option maxHeartbeats 2000000 in
theorem hputs_walk (n g : Int) (w : World) (h2 : 0 ≤ g) (h3 : g ≤ 4294967295) :
    Calls Tryd.prog 3 #[.agg #[.int .i64 n, .int .u32 g]] w fun e w' => e = .returned (.bool true) ∧ Below w.heap.size w w' := by
  have hB1 : Below w.heap.size w (w.alloc (.cells #[.int .i64 n, .int .u32 g] 24)) := (Below.refl _ _).alloc (Nat.le_refl _) _
  have hh1 := World.alloc_heap_new w (.cells #[.int .i64 n, .int .u32 g] 24)
  have hp := fun w => hput_any n g w h2 h3
  have hr := fun w => refhput_any n g w h2 h3
  have hzl := puZ_le n g
  obtain ⟨q, hq⟩ : ∃ q, (puZ n g).length = q := ⟨_, rfl⟩
  rw [hq] at hp hr hzl
  generalize puZ n g = zs at *
  generalize puE n = E at *
  have hE : (E != E) = false := by simp
  go_enter Tryd.func3, Tryd.ntmps3
  go_wp2_with fail
  generalize w.alloc (.cells #[.int .i64 n, .int .u32 g] 24) = w1 at *
  refine (hp w1).mono ?_
  rintro e w2 ⟨vx, rfl, ox, hb2⟩
  have hxl : ∀ k, vx.ownBlock = some k → w1.heap.size ≤ k ∧ k < w2.heap.size := fun k hk => own_lt ox hk
  have hB2 := hB1.trans (hb2.mono hB1.size)
  have hh2 := (hb2.block _ (Array.getElem?_eq_some_iff.1 hh1).1).trans hh1
  replace ox := own_base ox hB1.size
  have c0 : w2.cell? ⟨w.heap.size, 0, none⟩ = some (.int .i64 n) := by simp [World.cell?, hh2]
  have c1 : w2.cell? ⟨w.heap.size, 1, none⟩ = some (.int .u32 g) := by simp [World.cell?, hh2]
  clear hb2 hB1 hh1
  go_wp2_with fail
  refine (hp w2).mono ?_
  rintro e w3 ⟨vy, rfl, oy, hb3⟩
  have hB3 := hB2.trans (hb3.mono hB2.size)
  have hh3 := (hb3.block _ (Array.getElem?_eq_some_iff.1 hh2).1).trans hh2
  have hyl : ∀ k, vy.ownBlock = some k → w2.heap.size ≤ k ∧ k < w3.heap.size := fun k hk => own_lt oy hk
  replace oy := own_base oy hB2.size
  replace ox := own_below ox hb3
  clear hb3 hB2 hh2 c0 c1 hp
  have c0 : w3.cell? ⟨w.heap.size, 0, none⟩ = some (.int .i64 n) := by simp [World.cell?, hh3]
  have c1 : w3.cell? ⟨w.heap.size, 1, none⟩ = some (.int .u32 g) := by simp [World.cell?, hh3]
  obtain ⟨ax, cx, rfl, sx, _⟩ := got_val ox hq
  obtain ⟨ay, cy, rfl, sy, _⟩ := got_val oy hq
  have K3 : Kp w [⟨ax, q, cx, 1, zs⟩, ⟨ay, q, cy, 2, zs⟩] w3 := ⟨hB3, lists2 ox oy⟩
  have hA : Apt [⟨ax, q, cx, 1, zs⟩, ⟨ay, q, cy, 2, zs⟩] := apt2 (fun k hk hk2 => by have := hxl k hk; have := hyl k hk2; omega)
  clear ox oy hxl hyl hB3
  go_wp2_with fail
  refine (hr w3).mono ?_
  rintro e w4 ⟨vz, rfl, oz, hb4⟩
  have K4 := K3.next hb4
  have sx4 := sx.below hb4
  have sy4 := sy.below hb4
  obtain ⟨az, cz, rfl, sz, _⟩ := got_val oz hq
  clear oz hb4 K3 sx sy hr hh3 c0 c1
  go_wp2_with fail
  refine (same_true _ _ q cx cz zs w4 (by omega) hq sx4 sz).mono ?_
  rintro e w' ⟨rfl, j4, rfl⟩
  have hd := below_drewN (Below.refl w4.heap.size w4) j4
  have K5 := K4.next hd
  have sy5 := sy4.below hd
  have sz5 := sz.below hd
  generalize w4.drewN j4 = w5 at *
  clear K4 sx4 sy4 sz hd
  go_wp2_with fail
  refine (same_true _ _ q cy cz zs w5 (by omega) hq sy5 sz5).mono ?_
  rintro e w' ⟨rfl, j5, rfl⟩
  have hd := below_drewN (Below.refl w5.heap.size w5) j5
  have K6 := K5.next hd
  generalize w5.drewN j5 = w6 at *
  clear K5 sy5 sz5 hd
  go_wp2_with fail
  have H0 := Hd.start K6
  generalize w6.alloc (.cells #[.int .i64 0, .slice none 0 0, .slice none 0 0, .slice none 0 0, .slice none 0 0, .slice none 0 0, .slice none 0 0, .slice none 0 0] 38) = v0 at *
  generalize w6.heap.size = B at *
  clear K6
  refine (H0.bytes ax q cx (by omega) (by omega) (by simp)).mono ?_
  rintro e v1 ⟨rfl, vb1, H1⟩
  clear H0
  go_wp2_with fail
  refine (H1.bytes ay q cy (by omega) (by omega) (by simp)).mono ?_
  rintro e v2 ⟨rfl, vb2, H2⟩
  clear H1
  go_wp2_with fail
  refine (H2.apart rfl hA (small2 (by show q ≤ _; omega) (by show q ≤ _; omega) rfl rfl)).mono ?_
  rintro e v4 ⟨rfl, hfin⟩
  clear H2
  go_wp2
  go_ret
  exact ⟨rfl, hfin⟩
end Go.Proofs.YtcpciodcecpibaaDoor
