/- The walk of 'StringsLong': true for any byte, however often; nothing that was there turns. -/
import Derived.Test.YtmeampolndpjeabAliveStr
import Derived.Test.YtmeampolndpjeabOpqMath
import Derived.WalkSmall
import Derived.Laws.OwnMore
namespace Go.Proofs.Ytmeampolndpjeab
set_option linter.unusedVariables false
open Go.RowKit

theorem infoL : (Try.prog.info? 5).map (fun i => (i.zero, i.size, i.bytes)) = some (some (.int .u8 0), 1, 1) := by kernel_rfl

/-- So often the one, then noughts. -/
def filled (c : Int) (t k : Nat) : List Int := List.replicate t c ++ List.replicate (k - t) 0

theorem filled_length (c : Int) {t k : Nat} (h : t ≤ k) : (filled c t k).length = k := by simp [filled]; omega

theorem filled_set (c : Int) {t k : Nat} (h : t < k) : ((filled c t k).map (Value.int .u8)).set t (.int .u8 c) = (filled c (t + 1) k).map (Value.int .u8) := by
  unfold filled
  obtain ⟨d, rfl⟩ : ∃ d, k = t + 1 + d := ⟨k - t - 1, by omega⟩
  rw [show t + 1 + d - t = d + 1 from by omega, show t + 1 + d - (t + 1) = d from by omega, List.replicate_succ, List.replicate_succ']
  simp

theorem filled_get (c : Int) {t k : Nat} (h : t < k) : ((filled c t k).map (Value.int .u8))[t]? = some (.int .u8 0) := by
  unfold filled
  obtain ⟨d, rfl⟩ : ∃ d, k = t + 1 + d := ⟨k - t - 1, by omega⟩
  rw [show t + 1 + d - t = d + 1 from by omega, List.replicate_succ]
  simp

theorem made_nought (k : Nat) (c : Int) : (madeCells (Value.int .u8 0).cells (k * 1)).toList = (filled c 0 k).map (Value.int .u8) := by
  rw [Nat.mul_one, show (Value.int .u8 0).cells = #[.int .u8 0] from rfl, toList_madeCells_one]
  simp [filled]

theorem filled_all (c : Int) (k : Nat) : filled c k k = List.replicate k c := by simp [filled]

theorem byt_rep {c : Int} (h0 : 0 ≤ c) (h1 : c ≤ 255) (k : Nat) : Byt (List.replicate k c) := byt_of_all fun z hz => by
  obtain rfl := List.eq_of_mem_replicate hz
  exact ⟨h0, h1⟩

theorem rep_size (c : Int) (k : Nat) : (strOfNums (List.replicate k c)).size = k := by rw [strOfNums_size, List.length_replicate]

theorem rep_has {c : Int} (h0 : 0 ≤ c) (h1 : c ≤ 255) (k : Nat) (x : Int) : hasB (strOfNums (List.replicate k c)) x ↔ k ≠ 0 ∧ x = c := by
  unfold hasB
  rw [tz_str (byt_rep h0 h1 k), List.mem_replicate]

theorem rep_name {c : Int} (h0 : 0 ≤ c) (h1 : c ≤ 255) (k : Nat) : nameE (strOfNums (List.replicate k c)) = if k = 0 ∨ c = 0 ∨ c = 47 then 22 else if 255 < k then 63 else 0 := by
  unfold nameE
  simp only [rep_size, rep_has h0 h1]
  by_cases hk : k = 0
  · simp [hk]
  · simp [hk, eq_comm]

theorem rep_path {c : Int} (h0 : 0 ≤ c) (h1 : c ≤ 255) (k : Nat) : pathE (strOfNums (List.replicate k c)) = if k = 0 ∨ c = 0 then 22 else if 1024 < k then 63 else 0 := by
  unfold pathE
  simp only [rep_size, rep_has h0 h1]
  by_cases hk : k = 0
  · simp [hk]
  · simp [hk, eq_comm]

set_option maxRecDepth 100000 in
set_option maxHeartbeats 2000000 in
theorem long_walk (c n : Int) (w : World) (h0 : 0 ≤ c) (h1 : c ≤ 255) (hn0 : 0 ≤ n) (hn1 : n ≤ 65535) :
    Calls Try.prog 3 #[.int .u8 c, .int .u16 n] w fun e w' => e = .returned (.bool true) ∧ Below w.heap.size w w' := by
  obtain ⟨i0, hi, hz0, hz1, hz2⟩ := info_parts infoL
  obtain ⟨k, hk, hk2⟩ : ∃ k : Nat, n % 2000 = (k : Int) ∧ k < 2000 := ⟨(n % 2000).toNat, by omega, by omega⟩
  have hname := rep_name h0 h1 k
  have hpath := rep_path h0 h1 k
  go_enter Try.func3, Try.ntmps3
  go_wp2_with (at_make; refine wpList_make_full _ rfl _ _ 23 rfl _ 5 i0 (.int .u8 0) 1 Try.underlying23 hi hz0 hz1 .i64 .i64 _ _ k rfl rfl rfl rfl (by rw [hz2]; omega) (by unfold maxLen; omega) (Nat.le_refl _) ?_; intro w1 hown1 hgrow1)
  have hB1 : Below w.heap.size w w1 := (Below.refl _ _).grown hgrow1 (Nat.le_refl _) (by simp)
  have e0 : (madeCells (Value.int .u8 0).cells (k * 1)).toList = (filled c 0 k).map (Value.int .u8) := made_nought k c
  rw [e0] at hown1
  clear e0 hgrow1
  go_loopw [7] (fun j wi => ∃ t : Nat, t ≤ k ∧ j = .int .i64 t ∧ wi.ownsRow w.heap.size 5 1 (.slice (some ⟨w.heap.size, 0, none⟩) k k) k ((filled c t k).map (Value.int .u8)) ∧ Below w.heap.size w wi) (fun j _ => k - (intOf j).toNat)
  case atStart => exact ⟨0, by omega, by go_num, hown1, hB1⟩
  case round =>
    obtain ⟨t, ht, rfl, hot, hBt⟩ := hrel
    by_cases htl : t < k
    · have hct : wr.cell? ⟨w.heap.size, t, none⟩ = some (.int .u8 0) := (hot.cellAt t (by omega)).trans (filled_get c htl)
      have hft := hot.frozenAt t
      have hst := (hot.stored t (.int .u8 c)).1
      have hgr := (hot.stored t (.int .u8 c)).2
      rw [filled_set c htl] at hst
      have hB2 : Below w.heap.size w (wr.setCell ⟨w.heap.size, t, none⟩ (.int .u8 c)) := hBt.grown hgr hBt.size (fun k e => by cases e; exact Nat.le_refl _)
      clear hot hgr
      go_wp2
      go_roundw
      case rel => exact ⟨t + 1, by omega, by go_num, hst, hB2⟩
      case measure => simp [intOf]; omega
    · obtain rfl : t = k := by omega
      rw [filled_all] at hot
      have hcv := own_text hot (by simp)
      have hn := fun w => name_any (strOfNums (List.replicate t c)) w
      have hp := fun w => path_any (strOfNums (List.replicate t c)) w
      clear hot
      generalize strOfNums (List.replicate t c) = s at *
      have hkc : (t = 0) ∨ (0 < t ∧ t ≤ 255) ∨ (255 < t ∧ t ≤ 1024) ∨ (1024 < t) := by omega
      have hcc : (c = 0) ∨ (c = 47) ∨ (c ≠ 0 ∧ c ≠ 47) := by omega
      rcases hkc with hkc | hkc | hkc | hkc
      · rcases hcc with hcc | hcc | hcc
        · have hN : nameE s = 22 := by
            rw [hname]
            exact if_pos (by omega)
          have hP : pathE s = 22 := by
            rw [hpath]
            exact if_pos (by omega)
          rw [hN] at hn
          rw [hP] at hp
          clear hN hP hname hpath
          subst hkc
          subst hcc
          go_wp2_with fail
          refine (alive_any _).mono ?_
          rintro e w2 ⟨rfl, hb2⟩
          have hB2 := hBt.trans (hb2.mono hBt.size)
          go_wp2_with fail
          refine (hn _).mono ?_
          rintro e w3 ⟨rfl, hb3⟩
          have hB3 := hB2.trans (hb3.mono hB2.size)
          go_wp2_with fail
          refine (hp _).mono ?_
          rintro e w4 ⟨rfl, hb4⟩
          have hB4 := hB3.trans (hb4.mono hB3.size)
          go_wp2
          go_ret
          exact ⟨rfl, hB4⟩
        · have hN : nameE s = 22 := by
            rw [hname]
            exact if_pos (by omega)
          have hP : pathE s = 22 := by
            rw [hpath]
            exact if_pos (by omega)
          rw [hN] at hn
          rw [hP] at hp
          clear hN hP hname hpath
          subst hkc
          subst hcc
          go_wp2_with fail
          refine (alive_any _).mono ?_
          rintro e w2 ⟨rfl, hb2⟩
          have hB2 := hBt.trans (hb2.mono hBt.size)
          go_wp2_with fail
          refine (hn _).mono ?_
          rintro e w3 ⟨rfl, hb3⟩
          have hB3 := hB2.trans (hb3.mono hB2.size)
          go_wp2_with fail
          refine (hp _).mono ?_
          rintro e w4 ⟨rfl, hb4⟩
          have hB4 := hB3.trans (hb4.mono hB3.size)
          go_wp2
          go_ret
          exact ⟨rfl, hB4⟩
        · have hN : nameE s = 22 := by
            rw [hname]
            exact if_pos (by omega)
          have hP : pathE s = 22 := by
            rw [hpath]
            exact if_pos (by omega)
          rw [hN] at hn
          rw [hP] at hp
          clear hN hP hname hpath
          subst hkc
          obtain ⟨c1, c2⟩ := hcc
          have q1 : (c == 0) = false := by simp [c1]
          have q2 : (c == 47) = false := by simp [c2]
          go_wp2_with fail
          refine (alive_any _).mono ?_
          rintro e w2 ⟨rfl, hb2⟩
          have hB2 := hBt.trans (hb2.mono hBt.size)
          go_wp2_with fail
          refine (hn _).mono ?_
          rintro e w3 ⟨rfl, hb3⟩
          have hB3 := hB2.trans (hb3.mono hB2.size)
          go_wp2_with fail
          refine (hp _).mono ?_
          rintro e w4 ⟨rfl, hb4⟩
          have hB4 := hB3.trans (hb4.mono hB3.size)
          go_wp2
          go_ret
          exact ⟨rfl, hB4⟩
      · rcases hcc with hcc | hcc | hcc
        · have hN : nameE s = 22 := by
            rw [hname]
            exact if_pos (by omega)
          have hP : pathE s = 22 := by
            rw [hpath]
            exact if_pos (by omega)
          rw [hN] at hn
          rw [hP] at hp
          clear hN hP hname hpath
          obtain ⟨k1, k2⟩ := hkc
          subst hcc
          go_wp2_with fail
          refine (alive_any _).mono ?_
          rintro e w2 ⟨rfl, hb2⟩
          have hB2 := hBt.trans (hb2.mono hBt.size)
          go_wp2_with fail
          refine (hn _).mono ?_
          rintro e w3 ⟨rfl, hb3⟩
          have hB3 := hB2.trans (hb3.mono hB2.size)
          go_wp2_with fail
          refine (hp _).mono ?_
          rintro e w4 ⟨rfl, hb4⟩
          have hB4 := hB3.trans (hb4.mono hB3.size)
          go_wp2
          go_ret
          exact ⟨rfl, hB4⟩
        · have hN : nameE s = 22 := by
            rw [hname]
            exact if_pos (by omega)
          have hP : pathE s = 0 := by
            rw [hpath]
            rw [if_neg (by omega), if_neg (by omega)]
          rw [hN] at hn
          rw [hP] at hp
          clear hN hP hname hpath
          obtain ⟨k1, k2⟩ := hkc
          subst hcc
          go_wp2_with fail
          refine (alive_any _).mono ?_
          rintro e w2 ⟨rfl, hb2⟩
          have hB2 := hBt.trans (hb2.mono hBt.size)
          go_wp2_with fail
          refine (hn _).mono ?_
          rintro e w3 ⟨rfl, hb3⟩
          have hB3 := hB2.trans (hb3.mono hB2.size)
          go_wp2_with fail
          refine (hp _).mono ?_
          rintro e w4 ⟨rfl, hb4⟩
          have hB4 := hB3.trans (hb4.mono hB3.size)
          go_wp2
          go_ret
          exact ⟨rfl, hB4⟩
        · have hN : nameE s = 0 := by
            rw [hname]
            rw [if_neg (by omega), if_neg (by omega)]
          have hP : pathE s = 0 := by
            rw [hpath]
            rw [if_neg (by omega), if_neg (by omega)]
          rw [hN] at hn
          rw [hP] at hp
          clear hN hP hname hpath
          obtain ⟨k1, k2⟩ := hkc
          obtain ⟨c1, c2⟩ := hcc
          have q1 : (c == 0) = false := by simp [c1]
          have q2 : (c == 47) = false := by simp [c2]
          go_wp2_with fail
          refine (alive_any _).mono ?_
          rintro e w2 ⟨rfl, hb2⟩
          have hB2 := hBt.trans (hb2.mono hBt.size)
          go_wp2_with fail
          refine (hn _).mono ?_
          rintro e w3 ⟨rfl, hb3⟩
          have hB3 := hB2.trans (hb3.mono hB2.size)
          go_wp2_with fail
          refine (hp _).mono ?_
          rintro e w4 ⟨rfl, hb4⟩
          have hB4 := hB3.trans (hb4.mono hB3.size)
          go_wp2
          go_ret
          exact ⟨rfl, hB4⟩
      · rcases hcc with hcc | hcc | hcc
        · have hN : nameE s = 22 := by
            rw [hname]
            exact if_pos (by omega)
          have hP : pathE s = 22 := by
            rw [hpath]
            exact if_pos (by omega)
          rw [hN] at hn
          rw [hP] at hp
          clear hN hP hname hpath
          obtain ⟨k1, k2⟩ := hkc
          subst hcc
          go_wp2_with fail
          refine (alive_any _).mono ?_
          rintro e w2 ⟨rfl, hb2⟩
          have hB2 := hBt.trans (hb2.mono hBt.size)
          go_wp2_with fail
          refine (hn _).mono ?_
          rintro e w3 ⟨rfl, hb3⟩
          have hB3 := hB2.trans (hb3.mono hB2.size)
          go_wp2_with fail
          refine (hp _).mono ?_
          rintro e w4 ⟨rfl, hb4⟩
          have hB4 := hB3.trans (hb4.mono hB3.size)
          go_wp2
          go_ret
          exact ⟨rfl, hB4⟩
        · have hN : nameE s = 22 := by
            rw [hname]
            exact if_pos (by omega)
          have hP : pathE s = 0 := by
            rw [hpath]
            rw [if_neg (by omega), if_neg (by omega)]
          rw [hN] at hn
          rw [hP] at hp
          clear hN hP hname hpath
          obtain ⟨k1, k2⟩ := hkc
          subst hcc
          go_wp2_with fail
          refine (alive_any _).mono ?_
          rintro e w2 ⟨rfl, hb2⟩
          have hB2 := hBt.trans (hb2.mono hBt.size)
          go_wp2_with fail
          refine (hn _).mono ?_
          rintro e w3 ⟨rfl, hb3⟩
          have hB3 := hB2.trans (hb3.mono hB2.size)
          go_wp2_with fail
          refine (hp _).mono ?_
          rintro e w4 ⟨rfl, hb4⟩
          have hB4 := hB3.trans (hb4.mono hB3.size)
          go_wp2
          go_ret
          exact ⟨rfl, hB4⟩
        · have hN : nameE s = 63 := by
            rw [hname]
            rw [if_neg (by omega), if_pos (by omega)]
          have hP : pathE s = 0 := by
            rw [hpath]
            rw [if_neg (by omega), if_neg (by omega)]
          rw [hN] at hn
          rw [hP] at hp
          clear hN hP hname hpath
          obtain ⟨k1, k2⟩ := hkc
          obtain ⟨c1, c2⟩ := hcc
          have q1 : (c == 0) = false := by simp [c1]
          have q2 : (c == 47) = false := by simp [c2]
          go_wp2_with fail
          refine (alive_any _).mono ?_
          rintro e w2 ⟨rfl, hb2⟩
          have hB2 := hBt.trans (hb2.mono hBt.size)
          go_wp2_with fail
          refine (hn _).mono ?_
          rintro e w3 ⟨rfl, hb3⟩
          have hB3 := hB2.trans (hb3.mono hB2.size)
          go_wp2_with fail
          refine (hp _).mono ?_
          rintro e w4 ⟨rfl, hb4⟩
          have hB4 := hB3.trans (hb4.mono hB3.size)
          go_wp2
          go_ret
          exact ⟨rfl, hB4⟩
      · rcases hcc with hcc | hcc | hcc
        · have hN : nameE s = 22 := by
            rw [hname]
            exact if_pos (by omega)
          have hP : pathE s = 22 := by
            rw [hpath]
            exact if_pos (by omega)
          rw [hN] at hn
          rw [hP] at hp
          clear hN hP hname hpath
          subst hcc
          go_wp2_with fail
          refine (alive_any _).mono ?_
          rintro e w2 ⟨rfl, hb2⟩
          have hB2 := hBt.trans (hb2.mono hBt.size)
          go_wp2_with fail
          refine (hn _).mono ?_
          rintro e w3 ⟨rfl, hb3⟩
          have hB3 := hB2.trans (hb3.mono hB2.size)
          go_wp2_with fail
          refine (hp _).mono ?_
          rintro e w4 ⟨rfl, hb4⟩
          have hB4 := hB3.trans (hb4.mono hB3.size)
          go_wp2
          go_ret
          exact ⟨rfl, hB4⟩
        · have hN : nameE s = 22 := by
            rw [hname]
            exact if_pos (by omega)
          have hP : pathE s = 63 := by
            rw [hpath]
            rw [if_neg (by omega), if_pos (by omega)]
          rw [hN] at hn
          rw [hP] at hp
          clear hN hP hname hpath
          subst hcc
          go_wp2_with fail
          refine (alive_any _).mono ?_
          rintro e w2 ⟨rfl, hb2⟩
          have hB2 := hBt.trans (hb2.mono hBt.size)
          go_wp2_with fail
          refine (hn _).mono ?_
          rintro e w3 ⟨rfl, hb3⟩
          have hB3 := hB2.trans (hb3.mono hB2.size)
          go_wp2_with fail
          refine (hp _).mono ?_
          rintro e w4 ⟨rfl, hb4⟩
          have hB4 := hB3.trans (hb4.mono hB3.size)
          go_wp2
          go_ret
          exact ⟨rfl, hB4⟩
        · have hN : nameE s = 63 := by
            rw [hname]
            rw [if_neg (by omega), if_pos (by omega)]
          have hP : pathE s = 63 := by
            rw [hpath]
            rw [if_neg (by omega), if_pos (by omega)]
          rw [hN] at hn
          rw [hP] at hp
          clear hN hP hname hpath
          obtain ⟨c1, c2⟩ := hcc
          have q1 : (c == 0) = false := by simp [c1]
          have q2 : (c == 47) = false := by simp [c2]
          go_wp2_with fail
          refine (alive_any _).mono ?_
          rintro e w2 ⟨rfl, hb2⟩
          have hB2 := hBt.trans (hb2.mono hBt.size)
          go_wp2_with fail
          refine (hn _).mono ?_
          rintro e w3 ⟨rfl, hb3⟩
          have hB3 := hB2.trans (hb3.mono hB2.size)
          go_wp2_with fail
          refine (hp _).mono ?_
          rintro e w4 ⟨rfl, hb4⟩
          have hB4 := hB3.trans (hb4.mono hB3.size)
          go_wp2
          go_ret
          exact ⟨rfl, hB4⟩
end Go.Proofs.Ytmeampolndpjeab
