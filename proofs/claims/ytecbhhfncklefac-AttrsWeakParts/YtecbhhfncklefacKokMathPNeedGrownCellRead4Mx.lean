/- Of which kind may a node be? Plain mathematics. -/
import Derived.Test.YtecbhhfncklefacAttrMath
import Derived.Test.YtecbhhfncklefacTimeEq
import Derived.Defers
import Derived.Recover
import Derived.WalkSmall
import Derived.WalkLawsBesides
import Derived.Test.YtecbhhfncklefacBase
import Derived.Maps.AppendAt
import Derived.Test.YtecbhhfncklefacRows
import Derived.Test.YtecbhhfncklefacNum
import Derived.Outline
namespace Go.Proofs.Ytecbhhfncklefac
set_option linter.unusedVariables false

theorem kok_cases {k : Int} : ((k == 1) = true ∧ kok k = true) ∨ ((k == 1) = false ∧ (k == 2) = true ∧ kok k = true) ∨ ((k == 1) = false ∧ (k == 2) = false ∧ (k == 5) = true ∧ kok k = true) ∨ ((k == 1) = false ∧ (k == 2) = false ∧ (k == 5) = false ∧ kok k = false) := by
  by_cases h1 : k = 1
  · exact .inl ⟨by simp [h1], by simp [kok, h1]⟩
  · by_cases h2 : k = 2
    · exact .inr (.inl ⟨by simp [h1], by simp [h2], by simp [kok, h2]⟩)
    · by_cases h5 : k = 5
      · exact .inr (.inr (.inl ⟨by simp [h1], by simp [h2], by simp [h5], by simp [kok, h5]⟩))
      · exact .inr (.inr (.inr ⟨by simp [h1], by simp [h2], by simp [h5], by simp [kok, h1, h2, h5]⟩))

end Go.Proofs.Ytecbhhfncklefac

/- 'need', 'isKind', 'leftOff' of the program: the first error leaves a call off, and is told; nothing turns. -/
namespace Go.Proofs.Ytecbhhfncklefac
set_option linter.unusedVariables false
open Go.RowKit

/-- A call that was left off with this error. -/
def bad (e : Int) : List PanicEntry := [{ v := .iface 31 (.int .i64 e), recovered := false }]
/-- The ending of a call that answers v, or was left off with the error e. -/
def Ends (e : Int) (v : Value) : Ending := if e = 0 then .returned v else .panicked (bad e)
theorem ends_ok (v : Value) : Ends 0 v = .returned v := rfl
theorem ends_bad {e : Int} (h : e ≠ 0) (v : Value) : Ends e v = .panicked (bad e) := by unfold Ends; rw [if_neg h]

theorem need_yes (x : Int) (w : World) : Calls Try.prog 30 #[.bool true, .int .i64 x] w fun e w' => e = .returned (.tuple #[]) ∧ w' = w := by
  go_enter Try.func30, Try.ntmps30
  go_wp2
  go_end0
  exact ⟨rfl, rfl⟩

theorem need_no (x : Int) (w : World) : Calls Try.prog 30 #[.bool false, .int .i64 x] w fun e w' => e = .panicked (bad x) ∧ w' = w := by
  go_enter Try.func30, Try.ntmps30
  go_wp2
  exact ⟨rfl, rfl, rfl⟩

theorem iskind_any (k : Int) (w : World) : Calls Try.prog 41 #[.int .u32 k] w fun e w' => e = .returned (.bool (kok k)) ∧ w' = w := by
  rcases kok_cases (k := k) with ⟨q1, r⟩ | ⟨q1, q2, r⟩ | ⟨q1, q2, q5, r⟩ | ⟨q1, q2, q5, r⟩ <;> rw [r] <;> clear r
  · go_enter Try.func41, Try.ntmps41
    go_wp2
    go_ret
    exact ⟨rfl, rfl⟩
  · go_enter Try.func41, Try.ntmps41
    go_wp2
    go_ret
    exact ⟨rfl, rfl⟩
  · go_enter Try.func41, Try.ntmps41
    go_wp2
    go_ret
    exact ⟨rfl, rfl⟩
  · go_enter Try.func41, Try.ntmps41
    go_wp2
    go_ret
    exact ⟨rfl, rfl⟩

theorem leftoff_none (w : World) : Calls Try.prog 21 #[.nilIface] w fun e w' => e = .returned (.int .i64 0) ∧ w' = w := by
  go_enter Try.func21, Try.ntmps21
  go_wp2
  go_ret
  exact ⟨rfl, rfl⟩

set_option maxRecDepth 100000 in
theorem leftoff_some (x : Int) (w : World) : Calls Try.prog 21 #[.iface 31 (.int .i64 x)] w fun e w' => e = .returned (.int .i64 x) ∧ w' = w := by
  have hta : ∀ w : World, (Instr.typeAssert (.iface 31 (.int .i64 x)) 20 31 true).run Try.prog w = .ok (.tuple #[.int .i64 x, .bool true]) w := fun w => by
    simp [Instr.typeAssert, go_sem]
  go_enter Try.func21, Try.ntmps21
  go_wp2
  go_ret
  exact ⟨rfl, rfl⟩
end Go.Proofs.Ytecbhhfncklefac

/- What a store, a draw, a call turns: plain words on worlds; nothing is claimed of the program here. -/
namespace Go.Proofs.Ytecbhhfncklefac
set_option linter.unusedVariables false
open Go.RowKit

theorem grown_cell (W : World) (h i : Nat) (v : Value) : W.grownBy (W.setCell ⟨h, i, none⟩ v) (some h) :=
  ⟨rfl, rfl, rfl, by simp [World.setCell], fun k _ hne => Below.heap_setCell _ _ _ _ (fun e => hne (by rw [e]))⟩
theorem grown_same (W : World) (g : Option Nat) : W.grownBy W g := ⟨rfl, rfl, rfl, Nat.le_refl _, fun _ _ _ => rfl⟩
theorem grown_drew (W : World) (g : Option Nat) : W.grownBy W.drew g := ⟨rfl, rfl, rfl, Nat.le_refl _, fun _ _ _ => rfl⟩
theorem grown_below {W W' : World} (hb : Below W.heap.size W W') (g : Option Nat) : W.grownBy W' g := ⟨hb.os, hb.tape, hb.output, hb.size, fun k hk _ => hb.block k hk⟩
end Go.Proofs.Ytecbhhfncklefac

/- 'read' of four bytes, and 'Get': the number that the bytes begin with, or ErrShort; nothing turns. -/
namespace Go.Proofs.Ytecbhhfncklefac
set_option linter.unusedVariables false
open Go.RowKit

set_option maxHeartbeats 400000 in
theorem read4_short (a : Option Addr) (len cap : Nat) (w : World) (hl : len < 4) :
    Calls Try.prog 63 #[.slice a len cap, .int .i64 4] w fun e w' => e = .returned (.tuple #[.int .u32 0, .int .i64 4]) ∧ w' = w := by
  go_enter Try.func63, Try.ntmps63
  go_wp2
  go_ret2
  exact ⟨rfl, rfl⟩

set_option maxHeartbeats 400000 in
theorem read4 (b off len cap : Nat) (zs : List Int) (w : World) (hl : 4 ≤ len) (hlc : len ≤ cap) (hm : cap ≤ 9223372036854775807) (hz : zs.length = len) (hb : Byt zs)
    (hc : ∀ i, i < zs.length → w.cell? ⟨b, off + i, none⟩ = some (.int .u8 (zs[i]?.getD 0))) :
    Calls Try.prog 63 #[.slice (some ⟨b, off, none⟩) len cap, .int .i64 4] w fun e w' => e = .returned (.tuple #[.int .u32 (be (zs.take 4)), .int .i64 0]) ∧ w' = w := by
  go_enter Try.func63, Try.ntmps63
  go_wp2
  go_loop [6, 17] (fun n i => ∃ k : Nat, k ≤ 4 ∧ i = .int .i64 k ∧ n = .int .u32 (be (zs.take k))) (fun _ i => 4 - (intOf i).toNat)
  case atStart => exact ⟨0, by omega, rfl, rfl⟩
  case round =>
    obtain ⟨k, hk, rfl, rfl⟩ := hrel
    by_cases hlt : k < 4
    · have hcx := hc k (by omega)
      have hby := hb k
      go_wp2
      go_round
      case rel => exact ⟨k + 1, by omega, by go_num, by rw [step4 zs hb k hlt (by omega)]⟩
      case measure => simp [intOf]; omega
    · obtain rfl : k = 4 := by omega
      go_wp2
      go_ret2
      exact ⟨rfl, rfl⟩

set_option maxHeartbeats 400000 in
theorem get_any (a : Option Addr) (len cap : Nat) (zs : List Int) (w : World) (hlc : len ≤ cap) (hm : cap ≤ 9223372036854775807) (hz : zs.length = len) (hb : Byt zs) (hs : Seg w a zs) :
    Calls Try.prog 57 #[.slice a len cap] w fun e w' => e = .returned (.tuple #[.int .u32 (getN zs), .int .i64 (getE zs)]) ∧ w' = w := by
  by_cases hl : len < 4
  · have e1 : getN zs = 0 := by simp [getN, hz, hl]
    have e2 : getE zs = 4 := by simp [getE, hz, hl]
    rw [e1, e2]
    clear e1 e2
    go_enter Try.func57, Try.ntmps57
    go_wp2_with (go_at_call 63; refine (read4_short _ _ _ _ hl).mono ?_; rintro e w' ⟨rfl, rfl⟩)
    go_ret2
    exact ⟨rfl, rfl⟩
  · rcases hs with rfl | ⟨b, off, rfl, hc⟩
    · simp at hz; omega
    · have e1 : getN zs = be (zs.take 4) := by simp [getN, hz, hl]
      have e2 : getE zs = 0 := by simp [getE, hz, hl]
      rw [e1, e2]
      clear e1 e2
      go_enter Try.func57, Try.ntmps57
      go_wp2_with (go_at_call 63; refine (read4 b off len cap zs _ (by omega) hlc hm hz hb hc).mono ?_; rintro e w' ⟨rfl, rfl⟩)
      go_ret2
      exact ⟨rfl, rfl⟩
end Go.Proofs.Ytecbhhfncklefac
