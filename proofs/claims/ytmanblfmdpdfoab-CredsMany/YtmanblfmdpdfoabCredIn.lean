/- 'In' and 'Nobody': what the program and the document answer; nothing that was there turns. -/
import Derived.Test.YtmanblfmdpdfoabRows
import Derived.Test.YtmanblfmdpdfoabNums
import Derived.Outline
import Derived.WalkSmall
namespace Go.Proofs.Ytmanblfmdpdfoab
set_option linter.unusedVariables false
open Go.RowKit

/-- Is it one of these? -/
def hasN (gs : List Int) (x : Int) : Bool := gs.contains x
/-- Does one with this Group and these Groups belong to it? -/
def inG (g : Int) (gs : List Int) (x : Int) : Bool := g == x || hasN gs x

theorem hasN_iff (gs : List Int) (x : Int) : hasN gs x = true ↔ x ∈ gs := by simp [hasN]

theorem not_take_succ {gs : List Int} {x y : Int} {k : Nat} (h : k < gs.length) (hn : x ∉ gs.take k) (hy : gs[k]?.getD 0 = y) (hxy : x ≠ y) : x ∉ gs.take (k + 1) := by
  rw [List.take_succ_eq_append_getElem h]
  rw [List.getElem?_eq_getElem h, Option.getD_some] at hy
  subst hy
  rw [List.mem_append, List.mem_singleton]
  rintro (h1 | h1)
  · exact hn h1
  · exact hxy h1

theorem at_mem {gs : List Int} {y : Int} {k : Nat} (h : k < gs.length) (hy : gs[k]?.getD 0 = y) : y ∈ gs := by
  rw [List.getElem?_eq_getElem h, Option.getD_some] at hy
  subst hy
  exact List.getElem_mem h

set_option maxHeartbeats 400000 in
theorem index_any (a : Option Addr) (len cap : Nat) (gs : List Int) (x : Int) (w : World) (hl : len ≤ 9223372036854775807) (hz : gs.length = len) (hs : Seg4 w a gs) :
    Calls Try.prog 25 #[.slice a len cap, .int .u32 x] w fun e w' => ∃ i : Int, e = .returned (.int .i64 i) ∧ ((0 ≤ i ∧ x ∈ gs) ∨ (i = -1 ∧ x ∉ gs)) ∧ w' = w := by
  go_enter Try.func25, Try.ntmps25
  go_wp2
  go_loop [8] (fun i => ∃ k : Nat, k ≤ len ∧ i = .int .i64 k ∧ x ∉ gs.take k) (fun i => len - (intOf i).toNat)
  case atStart => exact ⟨0, by omega, rfl, by simp⟩
  case round =>
    obtain ⟨k, hk, rfl, hn⟩ := hrel
    by_cases hlt : k < len
    · rcases hs with rfl | ⟨b, off, rfl, hc⟩
      · simp at hz; omega
      · have hcx := hc k (by omega)
        have HY : Hid (∃ y, gs[k]?.getD 0 = y) := ⟨_, rfl⟩
        obtain ⟨y, hy⟩ := HY.out
        rw [hy] at hcx
        clear HY hc
        have HYY : Hid (gs[k]?.getD 0 = y) := hy
        clear hy
        by_cases hxy : x = y
        · subst hxy
          have q : (x == x) = true := by simp
          have hm : Hid (x ∈ gs) := at_mem (by omega) HYY.out
          clear HYY
          go_wp2
          go_ret
          exact ⟨_, rfl, .inl ⟨by omega, hm.out⟩, rfl⟩
        · have q : (x == y) = false := by simp [hxy]
          go_wp2
          go_round
          case rel => exact ⟨k + 1, by omega, by go_num, not_take_succ (by omega) hn HYY.out hxy⟩
          case measure => simp [intOf]; omega
    · obtain rfl : k = len := by omega
      rw [List.take_of_length_le (by omega)] at hn
      have HN : Hid (x ∉ gs) := hn
      clear hn
      go_wp2
      go_ret
      exact ⟨_, rfl, .inr ⟨rfl, HN.out⟩, rfl⟩

set_option maxHeartbeats 400000 in
theorem contains_any (a : Option Addr) (len cap : Nat) (gs : List Int) (x : Int) (w : World) (hl : len ≤ 9223372036854775807) (hz : gs.length = len) (hs : Seg4 w a gs) :
    Calls Try.prog 15 #[.slice a len cap, .int .u32 x] w fun e w' => e = .returned (.bool (hasN gs x)) ∧ w' = w := by
  go_enter Try.func15, Try.ntmps15
  go_wp2_with fail
  refine (index_any a len cap gs x w hl hz hs).mono ?_
  rintro e w' ⟨i, rfl, hi, hw'⟩
  subst w'
  go_wp2
  go_ret
  refine ⟨ret_bool ?_, rfl⟩
  rcases hi with ⟨h0, hm⟩ | ⟨h0, hm⟩
  · rw [(hasN_iff gs x).2 hm]; simp; omega
  · have : hasN gs x = false := by
      cases h : hasN gs x
      · rfl
      · exact absurd ((hasN_iff gs x).1 h) hm
    rw [this]; simp; omega

set_option maxHeartbeats 400000 in
theorem in_any (u g : Int) (a : Option Addr) (len cap : Nat) (gs : List Int) (x : Int) (w : World) (hl : len ≤ 9223372036854775807) (hz : gs.length = len) (hs : Seg4 w a gs) :
    Calls Try.prog 7 #[.agg #[.int .u32 u, .int .u32 g, .slice a len cap], .int .u32 x] w fun e w' => e = .returned (.bool (inG g gs x)) ∧ Below w.heap.size w w' := by
  have hB : Below w.heap.size w (w.alloc (.cells #[.int .u32 u, .int .u32 g, .slice a len cap] 25)) := (Below.refl _ _).alloc (Nat.le_refl _) _
  have hs' := hs.below hB
  unfold inG
  by_cases hg : g = x
  · have q : (g == x) = true := by simp [hg]
    clear hg
    go_enter Try.func7, Try.ntmps7
    go_wp2
    go_ret
    exact ⟨by rw [q]; rfl, hB⟩
  · have q : (g == x) = false := by simp [hg]
    clear hg
    go_enter Try.func7, Try.ntmps7
    go_wp2_with fail
    refine (contains_any a len cap gs x _ hl hz hs').mono ?_
    rintro e w' ⟨rfl, hw'⟩
    subst w'
    go_wp2
    go_ret
    exact ⟨by rw [q]; rfl, hB⟩

set_option maxHeartbeats 400000 in
theorem nobody_any (w : World) : Calls Try.prog 14 #[] w fun e w' => e = .returned (.agg #[.int .u32 65534, .int .u32 65534, .slice none 0 0]) ∧ Below w.heap.size w w' := by
  go_enter Try.func14, Try.ntmps14
  go_wp2
  refine bodyPost_ret (v := .agg #[.int .u32 65534, .int .u32 65534, .slice none 0 0]) (by simp [results, Try.results14, go_sem]) rfl ⟨rfl, ?_⟩
  exact ((Below.refl _ _).alloc (Nat.le_refl _) _)
end Go.Proofs.Ytmanblfmdpdfoab
