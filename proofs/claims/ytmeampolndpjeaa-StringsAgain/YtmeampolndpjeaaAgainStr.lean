/- The walk of 'StringsAgain': true for any bytes and any bound; nothing that was there turns. -/
import Derived.Test.YtmeampolndpjeaaBeyonds
import Derived.Test.YtmeampolndpjeaaAliveStr
import Derived.Test.YtmeampolndpjeaaAgainMath
import Derived.Test.YtmeampolndpjeaaSame
import Derived.Deep.RegionHeld3
import Derived.WalkSmall
namespace Go.Proofs.Ytmeampolndpjeaa
set_option linter.unusedVariables false
open Go.RowKit

/-- What stays while the text is put: the bytes. -/
structure Sg (w : World) (a : Option Addr) (zs : List Int) (W : World) : Prop where
  below : Below w.heap.size w W
  seg : Seg W a zs

theorem Sg.next {w W W' : World} {a : Option Addr} {zs : List Int} (h : Sg w a zs W) (hb : Below W.heap.size W W') : Sg w a zs W' := ⟨h.below.trans (hb.mono h.below.size), h.seg.below hb⟩
theorem Sg.drewN {w W : World} {a : Option Addr} {zs : List Int} (h : Sg w a zs W) (k : Nat) : Sg w a zs (W.drewN k) := h.next (below_drewN (Below.refl _ _) k)

theorem put_sg (w : World) (a : Option Addr) (zs : List Int) (s : ByteArray) (n : Nat) (W : World) (h : Sg w a zs W) (hm : s.size ≤ 1048576) (hn : Hid (opBytes (tz s) = zs.take n)) (hn2 : Hid (n = 4 + (s.size + padN s.size))) :
    Calls Try.prog 14 #[.string s] W fun e W' => ∃ a' c', e = .returned (.slice a' n c') ∧ Seg W' a' (zs.take n) ∧ Sg w a zs W' := by
  refine (strput_any s W hm).mono ?_
  rintro e W' ⟨v, rfl, hown, hb⟩
  rw [hn.out] at hown
  rw [← hn2.out] at hown
  have hl : (zs.take n).length = n := by have := hown.1; simpa using this
  obtain ⟨a', c', rfl, hs, _⟩ := own_val hown hl
  exact ⟨a', c', rfl, hs, h.next hb⟩

theorem same_sg (w : World) (a : Option Addr) (zs : List Int) (n cap : Nat) (a' : Option Addr) (c' : Nat) (W : World) (h : Sg w a zs W) (hs : Seg W a' (zs.take n)) (hk : n ≤ zs.length) (hk8 : n ≤ 4611686018427387904) :
    Calls Try.prog 15 #[.slice a' n c', .slice a n cap] W fun e W' => e = .returned (.bool true) ∧ Sg w a zs W' := by
  refine (same_true _ _ n c' cap (zs.take n) W hk8 (by rw [List.length_take]; omega) hs (h.seg.take n)).mono ?_
  rintro e W' ⟨rfl, j, rfl⟩
  exact ⟨rfl, h.drewN j⟩

set_option maxRecDepth 100000 in
set_option maxHeartbeats 4000000 in
theorem sagain_walk (a : Option Addr) (len cap : Nat) (zs : List Int) (most : Int) (w : World) (hlc : len ≤ cap) (hm : cap ≤ 140737488351232) (hz : zs.length = len) (hb : Byt zs) (hs : Seg w a zs) (hn0 : 0 ≤ most) (hn1 : most ≤ 4294967295) :
    Calls Try.prog 5 #[.slice a len cap, .int .u32 most] w fun e w' => e = .returned (.bool true) ∧ Below w.heap.size w w' := by
  cases hbey : beyond 0 [len] with
  | true =>
    go_enter Try.func5, Try.ntmps5
    go_wp2_with fail
    refine (alive_any w).mono ?_
    rintro e w1 ⟨rfl, hB1⟩
    go_wp2_with fail
    refine (beyond_any [len] _ 1 _ rfl (by omega) (by intro n hn; simp at hn; omega) (cell_lone w1 3 len)).mono ?_
    rintro e w' ⟨rfl, rfl⟩
    rw [hbey]
    have hB2 := hB1.alloc hB1.size (.cells #[.int .i64 (len : Int)] 3)
    generalize w1.alloc (.cells #[.int .i64 (len : Int)] 3) = w2 at *
    go_wp2_with fail
    refine (alive_any _).mono ?_
    rintro e w3 ⟨rfl, hB3⟩
    go_wp2
    go_ret
    exact ⟨rfl, hB2.trans (hB3.mono hB2.size)⟩
  | false =>
    have hl := beyond_le hbey (n := len) (by simp)
    go_enter Try.func5, Try.ntmps5
    go_wp2_with fail
    refine (alive_any w).mono ?_
    rintro e w1 ⟨rfl, hB1⟩
    go_wp2_with fail
    refine (beyond_any [len] _ 1 _ rfl (by omega) (by intro n hn; simp at hn; omega) (cell_lone w1 3 len)).mono ?_
    rintro e w' ⟨rfl, rfl⟩
    rw [hbey]
    have hB2 := hB1.alloc hB1.size (.cells #[.int .i64 (len : Int)] 3)
    generalize w1.alloc (.cells #[.int .i64 (len : Int)] 3) = w2 at *
    clear hB1 hbey
    go_wp2_with fail
    refine (strget_any a len cap most zs w2 hlc (by omega) hz hb (hs.below hB2) (by omega) (by omega)).mono ?_
    rintro e w3 ⟨rfl, hb3⟩
    have hB3 := hB2.trans (hb3.mono hB2.size)
    have hs3 := (hs.below hB2).below hb3
    clear hs hB2 hb3
    by_cases hE : opE zs most = 0
    · obtain ⟨g1, g2, g3, g4⟩ := op_again hb hE
      have hbz : Byt (opZ zs most) := by rw [opZ, if_pos hE]; exact (hb.drop 4).take _
      have htz := tz_str hbz
      have hsz := strOfNums_size (opZ zs most)
      rw [hE]
      clear hE
      generalize strOfNums (opZ zs most) = s at *
      generalize opL zs most = n at *
      rw [← htz] at g1
      rw [← hsz] at g3 g4
      clear hbz htz hsz
      have HN : Hid (opBytes (tz s) = zs.take n) := g1
      have HN2 : Hid (n = 4 + (s.size + padN s.size)) := g4
      have hnl : n ≤ zs.length := g2
      have htm : s.size ≤ 1048576 := by omega
      have hst : Sg w a zs w3.drew := ⟨hB3.drew, hs3.below ((Below.refl _ _).drew)⟩
      have d1 : decide ((n : Int) ≤ (len : Int)) = true := by simp; omega
      have d2 : decide ((s.size : Int) ≤ most) = true := by simp; omega
      have hwr : IntKind.i64.wrap most = most := by rw [IntKind.wrap_i64]; omega
      have c4 : (n : Int) ≤ (cap : Int) := by omega
      have c5 : n ≤ cap := by omega
      have c6 : (n : Int) ≤ (len : Int) := by omega
      clear g1 g2 g4 hB3 hs3
      go_wp2_with fail
      go_region_held3 (fun w' => Sg w a zs w') (assumption) (first
        | (go_at_call 14; refine (put_sg w a zs s n _ (by assumption) htm HN HN2).mono ?_; rintro e w' ⟨a', c', rfl, hsx, hsty⟩)
        | (go_at_call 15; refine (same_sg w a zs n cap _ _ _ (by assumption) (by assumption) hnl (by omega)).mono ?_; rintro e w' ⟨rfl, hsty⟩))
      go_wp2
      go_ret
      exact ⟨rfl, (by assumption : Sg w a zs _).below⟩
    · obtain ⟨g1, g2⟩ := op_none hE
      rw [g1, g2]
      have hq1 : (opE zs most == 0) = false := by simpa using hE
      have hq2 : (opE zs most != 0) = true := by simpa using hE
      generalize opE zs most = x at *
      have hie : (strOfNums []).toList.isEmpty = true := by rw [isEmpty_size]; rfl
      go_wp2
      go_ret
      exact ⟨rfl, hB3⟩
end Go.Proofs.Ytmeampolndpjeaa
