/- The document's 'Put', 'Name' and 'Path' of a text; nothing that was there turns. -/
import Derived.Test.YtmeampolndpjeaaDoorNames
import Derived.Test.YtmeampolndpjeaaDoorRefPutFx
namespace Go.Proofs.YtmeampolndpjeaaDoor
set_option linter.unusedVariables false
open Go.RowKit

set_option maxRecDepth 100000 in
set_option maxHeartbeats 400000 in
theorem refstrput_any (s : ByteArray) (w : World) (hm : s.size ≤ 1048576) :
    Calls Tryd.prog 7 #[.string s] w fun e w' => ∃ v, e = .returned v ∧ w'.ownsRow w.heap.size 5 1 v (4 + (s.size + padN s.size)) ((opBytes (tz s)).map (Value.int .u8)) ∧ Below w.heap.size w w' := by
  obtain ⟨c, hc1, hc2, hrun⟩ := conv_bytes w s (by omega)
  have hB := conv_below w s
  have hs := conv_seg w s
  generalize Lib.bytesWorld w 5 s = w1 at *
  go_enter Tryd.func7, Tryd.ntmps7
  go_wp2_with fail
  refine (refputopq_any _ s.size c (tz s) w1 hc1 hm (tz_len s) hs (by simp)).mono ?_
  rintro e w2 ⟨v, rfl, hown, hb⟩
  go_wp2
  go_ret
  exact ⟨_, rfl, own_base hown hB.size, hB.trans (hb.mono hB.size)⟩

set_option maxRecDepth 100000 in
set_option maxHeartbeats 400000 in
theorem refhas_any (s : ByteArray) (c : Int) (w : World) (hm : s.size ≤ 1048576) :
    Calls Tryd.prog 20 #[.string s, .int .u8 c] w fun e w' => e = .returned (.bool (decide (hasB s c))) ∧ w' = w := by
  go_enter Tryd.func20, Tryd.ntmps20
  go_wp2
  go_loopw [5] (fun i wr => ∃ k : Nat, k ≤ s.size ∧ i = .int .i64 k ∧ c ∉ (tz s).take k ∧ wr = w) (fun i _ => s.size - (intOf i).toNat)
  case atStart => exact ⟨0, by omega, by go_num, by simp, rfl⟩
  case round =>
    obtain ⟨k, hk, rfl, hno, rfl⟩ := hrel
    by_cases hlt : k < s.size
    · have hat := tz_at s k hlt
      have hst : (tz s).take (k + 1) = (tz s).take k ++ [((s[k]).toNat : Int)] := by rw [List.take_add_one, hat]; rfl
      by_cases hx : ((s[k]).toNat : Int) = c
      · have hy : hasB s c := List.mem_of_getElem? (by rw [hat, hx])
        have hq : (((s[k]).toNat : Int) == c) = true := by simp [hx]
        go_wp2
        go_ret
        exact ⟨ret_bool (decide_eq_true hy).symm, rfl⟩
      · have hq : (((s[k]).toNat : Int) == c) = false := by simp [hx]
        go_wp2
        go_roundw
        case rel =>
          refine ⟨k + 1, by omega, by go_num, ?_, trivial⟩
          rw [hst]
          simp only [List.mem_append, List.mem_singleton, not_or]
          exact ⟨hno, fun h => hx h.symm⟩
        case measure => simp [intOf]; omega
    · obtain rfl : k = s.size := by omega
      rw [List.take_of_length_le (by rw [tz_len]; omega)] at hno
      go_wp2
      go_ret
      exact ⟨ret_bool (decide_eq_false hno).symm, rfl⟩

set_option maxRecDepth 100000 in
set_option maxHeartbeats 1000000 in
theorem refname_any (s : ByteArray) (w : World) (hm : s.size ≤ 1048576) : Calls Tryd.prog 9 #[.string s] w fun e w' => e = .returned (.int .u32 (nameE s)) ∧ w' = w := by
  have hie := isEmpty_size s
  have c0 := refhas_any s 0 w hm
  have c1 := refhas_any s 47 w hm
  by_cases g : s.size = 0
  · rw [decide_eq_true g] at hie
    have hE : nameE s = 22 := by simp [nameE, g]
    rw [hE]
    clear hE
    go_enter Tryd.func9, Tryd.ntmps9
    go_wp2
    go_ret
    exact ⟨rfl, rfl⟩
  · rw [decide_eq_false g] at hie
    by_cases g0 : hasB s 0
    · rw [decide_eq_true g0] at c0
      have hE : nameE s = 22 := by simp [nameE, g, g0]
      rw [hE]
      clear hE
      go_enter Tryd.func9, Tryd.ntmps9
      go_wp2_with fail
      refine c0.mono ?_
      rintro e w' ⟨rfl, hw'⟩
      subst w'
      go_wp2
      go_ret
      exact ⟨rfl, rfl⟩
    · rw [decide_eq_false g0] at c0
      by_cases g1 : hasB s 47
      · rw [decide_eq_true g1] at c1
        have hE : nameE s = 22 := by simp [nameE, g, g0, g1]
        rw [hE]
        clear hE
        go_enter Tryd.func9, Tryd.ntmps9
        go_wp2_with fail
        refine c0.mono ?_
        rintro e w' ⟨rfl, hw'⟩
        subst w'
        go_wp2_with fail
        refine c1.mono ?_
        rintro e w' ⟨rfl, hw'⟩
        subst w'
        go_wp2
        go_ret
        exact ⟨rfl, rfl⟩
      · rw [decide_eq_false g1] at c1
        by_cases gl : 255 < s.size
        · have hE : nameE s = 63 := by simp [nameE, g, g0, g1, gl]
          rw [hE]
          clear hE
          go_enter Tryd.func9, Tryd.ntmps9
          go_wp2_with fail
          refine c0.mono ?_
          rintro e w' ⟨rfl, hw'⟩
          subst w'
          go_wp2_with fail
          refine c1.mono ?_
          rintro e w' ⟨rfl, hw'⟩
          subst w'
          go_wp2
          go_ret
          exact ⟨rfl, rfl⟩
        · have hE : nameE s = 0 := by simp [nameE, g, g0, g1, gl]
          rw [hE]
          clear hE
          go_enter Tryd.func9, Tryd.ntmps9
          go_wp2_with fail
          refine c0.mono ?_
          rintro e w' ⟨rfl, hw'⟩
          subst w'
          go_wp2_with fail
          refine c1.mono ?_
          rintro e w' ⟨rfl, hw'⟩
          subst w'
          go_wp2
          go_ret
          exact ⟨rfl, rfl⟩

set_option maxRecDepth 100000 in
set_option maxHeartbeats 1000000 in
theorem refpath_any (s : ByteArray) (w : World) (hm : s.size ≤ 1048576) : Calls Tryd.prog 11 #[.string s] w fun e w' => e = .returned (.int .u32 (pathE s)) ∧ w' = w := by
  have hie := isEmpty_size s
  have c0 := refhas_any s 0 w hm
  by_cases g : s.size = 0
  · rw [decide_eq_true g] at hie
    have hE : pathE s = 22 := by simp [pathE, g]
    rw [hE]
    clear hE
    go_enter Tryd.func11, Tryd.ntmps11
    go_wp2
    go_ret
    exact ⟨rfl, rfl⟩
  · rw [decide_eq_false g] at hie
    by_cases g0 : hasB s 0
    · rw [decide_eq_true g0] at c0
      have hE : pathE s = 22 := by simp [pathE, g, g0]
      rw [hE]
      clear hE
      go_enter Tryd.func11, Tryd.ntmps11
      go_wp2_with fail
      refine c0.mono ?_
      rintro e w' ⟨rfl, hw'⟩
      subst w'
      go_wp2
      go_ret
      exact ⟨rfl, rfl⟩
    · rw [decide_eq_false g0] at c0
      by_cases gl : 1024 < s.size
      · have hE : pathE s = 63 := by simp [pathE, g, g0, gl]
        rw [hE]
        clear hE
        go_enter Tryd.func11, Tryd.ntmps11
        go_wp2_with fail
        refine c0.mono ?_
        rintro e w' ⟨rfl, hw'⟩
        subst w'
        go_wp2
        go_ret
        exact ⟨rfl, rfl⟩
      · have hE : pathE s = 0 := by simp [pathE, g, g0, gl]
        rw [hE]
        clear hE
        go_enter Tryd.func11, Tryd.ntmps11
        go_wp2_with fail
        refine c0.mono ?_
        rintro e w' ⟨rfl, hw'⟩
        subst w'
        go_wp2
        go_ret
        exact ⟨rfl, rfl⟩
end Go.Proofs.YtmeampolndpjeaaDoor
