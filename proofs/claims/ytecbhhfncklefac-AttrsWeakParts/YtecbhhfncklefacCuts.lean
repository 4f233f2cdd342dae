/- 'b[p:]' of any bytes, whatever room they have; nothing is claimed of the program here. -/
import Derived.Test.YtecbhhfncklefacRows
import Derived.Test.YtecbhhfncklefacPieces
import Derived.WalkKit
namespace Go.Proofs.Ytecbhhfncklefac
set_option linter.unusedVariables false
open Go.RowKit

/-- What is left of bytes from a place on: the value, and where it lies. -/
theorem cut_from {w : World} {a : Option Addr} {len cap : Nat} {zs : List Int} (h : Seg w a zs) (hz : zs.length = len) (hlc : len ≤ cap) (p : Nat) (hp : p ≤ len) :
    ∃ a', (∀ W, (Instr.slice 30 (.slice a len cap) (some (.int .i64 (p : Int))) none none).run Try.prog W = .ok (.slice a' (len - p) (cap - p)) W) ∧ Seg w a' (zs.drop p) := by
  have he : Try.prog.elem 30 = 5 := by kernel_rfl
  have hu : Try.prog.underlying 30 = some (.slice (Try.prog.elem 30)) := by rw [he]; exact Try.underlying30
  refine ⟨if cap = p then a else a.map (·.add (p * 1)), fun W => ?_, ?_⟩
  · rw [run_slice_l W 30 a len cap hu .i64 (p : Int) (by omega) (by omega)]
    simp [go_sem]
  · split
    · exact .inl (List.drop_eq_nil_of_le (by omega))
    · rcases h with rfl | ⟨b, off, rfl, hc⟩
      · exact .inl (by simp)
      · have := Seg.drop (.inr ⟨b, off, rfl, hc⟩ : Seg w (some ⟨b, off, none⟩) zs) p
        by_cases h0 : p = 0
        · subst h0
          simpa [Addr.add] using this
        · simpa [Addr.add, h0] using this

set_option maxRecDepth 100000 in
theorem cut_nil {w : World} {a : Option Addr} {len cap : Nat} {zs : List Int} (h : Seg w a zs) (hz : zs.length = len) (hlc : len ≤ cap) (hn : a = none → len = 0 ∧ cap = 0) (p : Nat) (hp : p ≤ len) :
    ∃ a', (∀ W, (Instr.slice 30 (.slice a len cap) (some (.int .i64 (p : Int))) none none).run Try.prog W = .ok (.slice a' (len - p) (cap - p)) W) ∧ Seg w a' (zs.drop p) ∧ (a' = none → len - p = 0 ∧ cap - p = 0) := by
  cases a with
  | none =>
    obtain ⟨a', hr, hs⟩ := cut_from h hz hlc p hp
    obtain ⟨rfl, rfl⟩ := hn rfl
    exact ⟨a', hr, hs, fun _ => ⟨by omega, by omega⟩⟩
  | some a =>
    have he : Try.prog.elem 30 = 5 := by kernel_rfl
    have hu : Try.prog.underlying 30 = some (.slice (Try.prog.elem 30)) := by rw [he]; exact Try.underlying30
    obtain ⟨a', hr, hs⟩ := cut_from h hz hlc p hp
    refine ⟨a', hr, hs, ?_⟩
    rintro rfl
    exfalso
    have h1 := hr w
    rw [run_slice_l w 30 (some a) len cap hu .i64 (p : Int) (by omega) (by omega)] at h1
    injection h1 with h2 h3
    injection h2 with h4 h5 h6
    split at h4 <;> simp at h4
end Go.Proofs.Ytecbhhfncklefac
