/- 'b[p:]' of any bytes, whatever room they have; nothing is claimed of the program here. -/
import Derived.Test.YtecbhhfncklefabRows
import Derived.Test.YtecbhhfncklefabPieces
import Derived.WalkKit
import Derived.Test.YtecbhhfncklefabBase
import Derived.Test.YtecbhhfncklefabNum
import Derived.Outline
import Derived.WalkSmall
namespace Go.Proofs.Ytecbhhfncklefab
set_option linter.unusedVariables false
open Go.RowKit

/-- What is left of bytes from a place on: the value, and where it lies. -/
theorem cut_from {w : World} {a : Option Addr} {len cap : Nat} {zs : List Int} (h : Seg w a zs) (hz : zs.length = len) (hlc : len ≤ cap) (p : Nat) (hp : p ≤ len) :
    ∃ a', (∀ W, (Instr.slice 29 (.slice a len cap) (some (.int .i64 (p : Int))) none none).run Try.prog W = .ok (.slice a' (len - p) (cap - p)) W) ∧ Seg w a' (zs.drop p) := by
  have he : Try.prog.elem 29 = 5 := by kernel_rfl
  have hu : Try.prog.underlying 29 = some (.slice (Try.prog.elem 29)) := by rw [he]; exact Try.underlying29
  refine ⟨if cap = p then a else a.map (·.add (p * 1)), fun W => ?_, ?_⟩
  · rw [run_slice_l W 29 a len cap hu .i64 (p : Int) (by omega) (by omega)]
    simp [go_sem]
  · split
    · exact .inl (List.drop_eq_nil_of_le (by omega))
    · rcases h with rfl | ⟨b, off, rfl, hc⟩
      · exact .inl (by simp)
      · have := Seg.drop (.inr ⟨b, off, rfl, hc⟩ : Seg w (some ⟨b, off, none⟩) zs) p
        by_cases h0 : p = 0
        · subst h0
          simpa [Addr.add] using this
        · simpa [Addr.add, h0] using this

set_option maxRecDepth 100000 in
theorem cut_nil {w : World} {a : Option Addr} {len cap : Nat} {zs : List Int} (h : Seg w a zs) (hz : zs.length = len) (hlc : len ≤ cap) (hn : a = none → len = 0 ∧ cap = 0) (p : Nat) (hp : p ≤ len) :
    ∃ a', (∀ W, (Instr.slice 29 (.slice a len cap) (some (.int .i64 (p : Int))) none none).run Try.prog W = .ok (.slice a' (len - p) (cap - p)) W) ∧ Seg w a' (zs.drop p) ∧ (a' = none → len - p = 0 ∧ cap - p = 0) := by
  cases a with
  | none =>
    obtain ⟨a', hr, hs⟩ := cut_from h hz hlc p hp
    obtain ⟨rfl, rfl⟩ := hn rfl
    exact ⟨a', hr, hs, fun _ => ⟨by omega, by omega⟩⟩
  | some a =>
    have he : Try.prog.elem 29 = 5 := by kernel_rfl
    have hu : Try.prog.underlying 29 = some (.slice (Try.prog.elem 29)) := by rw [he]; exact Try.underlying29
    obtain ⟨a', hr, hs⟩ := cut_from h hz hlc p hp
    refine ⟨a', hr, hs, ?_⟩
    rintro rfl
    exfalso
    have h1 := hr w
    rw [run_slice_l w 29 (some a) len cap hu .i64 (p : Int) (by omega) (by omega)] at h1
    injection h1 with h2 h3
    injection h2 with h4 h5 h6
    split at h4 <;> simp at h4
end Go.Proofs.Ytecbhhfncklefab

/- 'read' of four bytes, and 'Get': the number that the bytes begin with, or ErrShort; nothing turns. -/
namespace Go.Proofs.Ytecbhhfncklefab
set_option linter.unusedVariables false
open Go.RowKit

set_option maxHeartbeats 400000 in
theorem read4_short (a : Option Addr) (len cap : Nat) (w : World) (hl : len < 4) :
    Calls Try.prog 82 #[.slice a len cap, .int .i64 4] w fun e w' => e = .returned (.tuple #[.int .u32 0, .int .i64 4]) ∧ w' = w := by
  go_enter Try.func82, Try.ntmps82
  go_wp2
  go_ret2
  exact ⟨rfl, rfl⟩

set_option maxHeartbeats 400000 in
theorem read4 (b off len cap : Nat) (zs : List Int) (w : World) (hl : 4 ≤ len) (hlc : len ≤ cap) (hm : cap ≤ 9223372036854775807) (hz : zs.length = len) (hb : Byt zs)
    (hc : ∀ i, i < zs.length → w.cell? ⟨b, off + i, none⟩ = some (.int .u8 (zs[i]?.getD 0))) :
    Calls Try.prog 82 #[.slice (some ⟨b, off, none⟩) len cap, .int .i64 4] w fun e w' => e = .returned (.tuple #[.int .u32 (be (zs.take 4)), .int .i64 0]) ∧ w' = w := by
  go_enter Try.func82, Try.ntmps82
  go_wp2
  go_loop [6, 17] (fun n i => ∃ k : Nat, k ≤ 4 ∧ i = .int .i64 k ∧ n = .int .u32 (be (zs.take k))) (fun _ i => 4 - (intOf i).toNat)
  case atStart => exact ⟨0, by omega, rfl, rfl⟩
  case round =>
    obtain ⟨k, hk, rfl, rfl⟩ := hrel
    by_cases hlt : k < 4
    · have hcx := hc k (by omega)
      have hby := hb k
      go_wp2
      go_round
      case rel => exact ⟨k + 1, by omega, by go_num, by rw [step4 zs hb k hlt (by omega)]⟩
      case measure => simp [intOf]; omega
    · obtain rfl : k = 4 := by omega
      go_wp2
      go_ret2
      exact ⟨rfl, rfl⟩

set_option maxHeartbeats 400000 in
theorem get_any (a : Option Addr) (len cap : Nat) (zs : List Int) (w : World) (hlc : len ≤ cap) (hm : cap ≤ 9223372036854775807) (hz : zs.length = len) (hb : Byt zs) (hs : Seg w a zs) :
    Calls Try.prog 74 #[.slice a len cap] w fun e w' => e = .returned (.tuple #[.int .u32 (getN zs), .int .i64 (getE zs)]) ∧ w' = w := by
  by_cases hl : len < 4
  · have e1 : getN zs = 0 := by simp [getN, hz, hl]
    have e2 : getE zs = 4 := by simp [getE, hz, hl]
    rw [e1, e2]
    clear e1 e2
    go_enter Try.func74, Try.ntmps74
    go_wp2_with (go_at_call 82; refine (read4_short _ _ _ _ hl).mono ?_; rintro e w' ⟨rfl, rfl⟩)
    go_ret2
    exact ⟨rfl, rfl⟩
  · rcases hs with rfl | ⟨b, off, rfl, hc⟩
    · simp at hz; omega
    · have e1 : getN zs = be (zs.take 4) := by simp [getN, hz, hl]
      have e2 : getE zs = 0 := by simp [getE, hz, hl]
      rw [e1, e2]
      clear e1 e2
      go_enter Try.func74, Try.ntmps74
      go_wp2_with (go_at_call 82; refine (read4 b off len cap zs _ (by omega) hlc hm hz hb hc).mono ?_; rintro e w' ⟨rfl, rfl⟩)
      go_ret2
      exact ⟨rfl, rfl⟩
end Go.Proofs.Ytecbhhfncklefab

/- 'read' of eight bytes, and 'GetLong': the number that the bytes begin with, or ErrShort; nothing turns. -/
namespace Go.Proofs.Ytecbhhfncklefab
set_option linter.unusedVariables false
open Go.RowKit

set_option maxHeartbeats 400000 in
theorem read8_short (a : Option Addr) (len cap : Nat) (w : World) (hl : len < 8) :
    Calls Try.prog 83 #[.slice a len cap, .int .i64 8] w fun e w' => e = .returned (.tuple #[.int .u64 0, .int .i64 4]) ∧ w' = w := by
  go_enter Try.func83, Try.ntmps83
  go_wp2
  go_ret2
  exact ⟨rfl, rfl⟩

set_option maxHeartbeats 400000 in
theorem read8 (b off len cap : Nat) (zs : List Int) (w : World) (hl : 8 ≤ len) (hlc : len ≤ cap) (hm : cap ≤ 9223372036854775807) (hz : zs.length = len) (hb : Byt zs)
    (hc : ∀ i, i < zs.length → w.cell? ⟨b, off + i, none⟩ = some (.int .u8 (zs[i]?.getD 0))) :
    Calls Try.prog 83 #[.slice (some ⟨b, off, none⟩) len cap, .int .i64 8] w fun e w' => e = .returned (.tuple #[.int .u64 (be (zs.take 8)), .int .i64 0]) ∧ w' = w := by
  go_enter Try.func83, Try.ntmps83
  go_wp2
  go_loop [6, 17] (fun n i => ∃ k : Nat, k ≤ 8 ∧ i = .int .i64 k ∧ n = .int .u64 (be (zs.take k))) (fun _ i => 8 - (intOf i).toNat)
  case atStart => exact ⟨0, by omega, rfl, rfl⟩
  case round =>
    obtain ⟨k, hk, rfl, rfl⟩ := hrel
    by_cases hlt : k < 8
    · have hcx := hc k (by omega)
      have hby := hb k
      go_wp2
      go_round
      case rel => exact ⟨k + 1, by omega, by go_num, by rw [step8 zs hb k hlt (by omega)]⟩
      case measure => simp [intOf]; omega
    · obtain rfl : k = 8 := by omega
      go_wp2
      go_ret2
      exact ⟨rfl, rfl⟩

set_option maxHeartbeats 400000 in
theorem getlong_any (a : Option Addr) (len cap : Nat) (zs : List Int) (w : World) (hlc : len ≤ cap) (hm : cap ≤ 9223372036854775807) (hz : zs.length = len) (hb : Byt zs) (hs : Seg w a zs) :
    Calls Try.prog 76 #[.slice a len cap] w fun e w' => e = .returned (.tuple #[.int .u64 (getM zs), .int .i64 (getF zs)]) ∧ w' = w := by
  by_cases hl : len < 8
  · have e1 : getM zs = 0 := by simp [getM, hz, hl]
    have e2 : getF zs = 4 := by simp [getF, hz, hl]
    rw [e1, e2]
    clear e1 e2
    go_enter Try.func76, Try.ntmps76
    go_wp2_with (go_at_call 83; refine (read8_short _ _ _ _ hl).mono ?_; rintro e w' ⟨rfl, rfl⟩)
    go_ret2
    exact ⟨rfl, rfl⟩
  · rcases hs with rfl | ⟨b, off, rfl, hc⟩
    · simp at hz; omega
    · have e1 : getM zs = be (zs.take 8) := by simp [getM, hz, hl]
      have e2 : getF zs = 0 := by simp [getF, hz, hl]
      rw [e1, e2]
      clear e1 e2
      go_enter Try.func76, Try.ntmps76
      go_wp2_with (go_at_call 83; refine (read8 b off len cap zs _ (by omega) hlc hm hz hb hc).mono ?_; rintro e w' ⟨rfl, rfl⟩)
      go_ret2
      exact ⟨rfl, rfl⟩
end Go.Proofs.Ytecbhhfncklefab

/- 'GetYes' of the program: yes, no, or why not; nothing turns. -/
namespace Go.Proofs.Ytecbhhfncklefab
set_option linter.unusedVariables false
open Go.RowKit

set_option maxHeartbeats 400000 in
theorem getyes_any (a : Option Addr) (len cap : Nat) (zs : List Int) (w : World) (hlc : len ≤ cap) (hm : cap ≤ 9223372036854775807) (hz : zs.length = len) (hb : Byt zs) (hs : Seg w a zs) :
    Calls Try.prog 86 #[.slice a len cap] w fun e w' => e = .returned (.tuple #[.bool (getY zs), .int .i64 (getG zs)]) ∧ w' = w := by
  by_cases hl : zs.length < 4
  · have e1 : getY zs = false := by simp [getY, hl]
    have e2 : getG zs = 4 := by simp [getG, hl]
    have e3 : getE zs = 4 := by simp [getE, hl]
    rw [e1, e2]
    clear e1 e2
    go_enter Try.func86, Try.ntmps86
    go_wp2_with (go_at_call 74; refine (get_any _ len cap zs _ hlc hm hz hb hs).mono ?_; rintro e w' ⟨rfl, rfl⟩)
    go_ret2
    exact ⟨by simp, rfl⟩
  · have e3 : getE zs = 0 := by simp [getE, hl]
    have e4 : getN zs = be (zs.take 4) := by simp [getN, hl]
    by_cases h1 : 1 < be (zs.take 4)
    · have e1 : getY zs = false := by simp [getY]; omega
      have e2 : getG zs = 5 := by simp [getG, hl, h1]
      rw [e1, e2]
      clear e1 e2
      generalize be (zs.take 4) = n at *
      go_enter Try.func86, Try.ntmps86
      go_wp2_with (go_at_call 74; refine (get_any _ len cap zs _ hlc hm hz hb hs).mono ?_; rintro e w' ⟨rfl, rfl⟩)
      go_ret2
      exact ⟨rfl, rfl⟩
    · have e1 : getY zs = (be (zs.take 4) == 1) := by simp [getY, hl]
      have e2 : getG zs = 0 := by simp [getG, hl, h1]
      rw [e1, e2]
      clear e1 e2
      generalize be (zs.take 4) = n at *
      go_enter Try.func86, Try.ntmps86
      go_wp2_with (go_at_call 74; refine (get_any _ len cap zs _ hlc hm hz hb hs).mono ?_; rintro e w' ⟨rfl, rfl⟩)
      go_ret2
      exact ⟨rfl, rfl⟩

end Go.Proofs.Ytecbhhfncklefab
