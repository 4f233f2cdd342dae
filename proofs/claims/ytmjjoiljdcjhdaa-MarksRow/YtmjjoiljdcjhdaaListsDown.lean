/- From what a row's frame tells of a list of lists of bytes that came in to the lists themselves. -/
import Derived.Test.YtmjjoiljdcjhdaaLists
import Derived.Deep.Matrix
import Derived.SizedLaws
namespace Go.Proofs.Ytmjjoiljdcjhdaa
set_option linter.unusedVariables false
open Go.RowKit Go.ChangeShapes Go.WideShapes Go.ChangeAt Go.Deep

theorem weights_all {H : Type} {P : Program} {e : TypeId} {l : List (DataW H)} {d : DataW H} {n : Nat} (h : d ∈ l) (hn : n ∈ d.weights P e) : n ∈ DataW.weightsAll P e l := by
  induction l with
  | nil => cases h
  | cons x r ih =>
    rw [DataW.weightsAll, List.mem_append]
    rcases List.mem_cons.1 h with rfl | h
    · exact .inl hn
    · exact .inr (ih h)

theorem list_choose {α : Type} {Q : Nat → α → Prop} (n : Nat) (h : ∀ i, i < n → ∃ x, Q i x) : ∃ l : List α, l.length = n ∧ ∀ i, (hi : i < l.length) → Q i l[i] := by
  induction n with
  | zero => exact ⟨[], rfl, fun i hi => by simp at hi⟩
  | succ n ih =>
    obtain ⟨l, hl, hq⟩ := ih (fun i hi => h i (by omega))
    obtain ⟨x, hx⟩ := h n (by omega)
    refine ⟨l ++ [x], by simp [hl], fun i hi => ?_⟩
    by_cases hin : i < l.length
    · rw [List.getElem_append_left hin]
      exact hq i hin
    · have : i = l.length := by simp at hi; omega
      subst this
      rw [List.getElem_append_right (by omega)]
      simpa [hl] using hx

theorem addr_plain {w : World} {x : Addr} {n : Nat} {V : Nat → Value} (h0 : 0 < n) (h : ∀ r, r < n → w.cell? (x.add r) = some (V r)) : ∃ b off, x = ⟨b, off, none⟩ ∧ ∀ r, r < n → w.cell? ⟨b, off + r, none⟩ = some (V r) := by
  obtain ⟨b, off, spot⟩ := x
  have hspot : spot = none := by simpa [Addr.add] using World.cell?_spot (h 0 h0)
  subst hspot
  refine ⟨b, off, rfl, fun r hr => ?_⟩
  have h1 := h r hr
  by_cases hr0 : r = 0
  · subst hr0
    simpa [Addr.add] using h1
  · simpa [Addr.add, hr0] using h1

theorem lists_down {H : Type} {enc : TypeId × Value → H} {W : World} {fuel : Nat} {held : Bool} {a : Option Addr} {len cap : Nat} {x : DataW H × List MemPlace}
    (h : DataW.trod enc Try.prog W 0 (fun _ => true) held fuel 35 [.slice a len cap] = some x) (hw : ∀ n ∈ x.1.weights Try.prog 35, n ≤ reachBytes) :
    len ≤ cap ∧ cap ≤ 9223372036854775807 ∧ ∃ ps : List Part, ps.length = len ∧ Segs W a ps ∧ ∀ p ∈ ps, p.Ok W := by
  rcases open_int_rows Try.underlying35 Try.underlying22 Try.underlying5 (by kernel_rfl) (by kernel_rfl) h with ⟨hcs, _⟩ | ⟨ad, l, c, A, L, C, Z, hcs, _, hl, hm, rfl, hr⟩
  · simp at hcs
    obtain ⟨rfl, rfl, rfl⟩ := hcs
    exact ⟨Nat.le_refl _, by omega, [], rfl, .inl rfl, fun p hp => by cases hp⟩
  · simp at hcs
    obtain ⟨rfl, rfl, rfl⟩ := hcs
    refine ⟨hl, by unfold maxLen at hm; omega, ?_⟩
    have hreach : ∀ r, r < len → C r ≤ 140737488351232 := by
      intro r hrl
      obtain ⟨_, _, _, hZ, _, hN, _⟩ := hr r (by omega)
      cases hA : A r with
      | none => have := hN hA; omega
      | some a' =>
        have hmem : (intRow .u8 (A r) (L r) (Z r) : DataW H) ∈ (List.range len).map (fun r => intRow .u8 (A r) (L r) (Z r)) := List.mem_map.2 ⟨r, List.mem_range.2 hrl, rfl⟩
        have hin : (Z r).length * 1 ∈ (intRow .u8 (A r) (L r) (Z r) : DataW H).weights Try.prog 22 := by
          rw [hA]
          unfold intRow
          simp only [DataW.weights, Try.underlying22, show Try.prog.bytesOf 5 = 1 from by kernel_rfl]
          refine List.mem_cons.2 (.inl ?_)
          simp only [lits, List.length_map, List.length_take, List.length_drop]
          omega
        have := hw _ (by
          simp only [DataW.weights, Try.underlying35]
          exact List.mem_cons.2 (.inr (List.mem_append.2 (.inl (weights_all hmem hin)))))
        unfold reachBytes at this
        omega
    obtain ⟨ps, hpl, hpq⟩ := list_choose (Q := fun r (p : Part) => p.v = .slice (A r) (L r) (C r) ∧ p.Ok W) len (by
      intro r hrl
      obtain ⟨_, h1, h2, h3, h4, h5, h6⟩ := hr r (by omega)
      have hrow : (A r = none ∧ L r = 0 ∧ C r = 0 ∧ Z r = []) ∨ ∃ x, A r = some x ∧ L r ≤ C r ∧ C r ≤ maxLen ∧ (Z r).length = C r ∧ (∀ i, i < (Z r).length → W.cell? (x.add i) = some (.int .u8 ((Z r).getD i 0))) ∧ ∀ n ∈ Z r, (Lit.int .u8 n).wf = true := by
        cases hA : A r with
        | none =>
          have := h5 hA
          exact .inl ⟨rfl, by omega, this, List.length_eq_zero_iff.1 (by omega)⟩
        | some x =>
          exact .inr ⟨x, rfl, h1, h2, h3, fun i hi => (h6 x hA).2 i (by omega), h4⟩
      obtain ⟨q1, q2, ys, q3, q4, q5⟩ := row_seg hrow
      exact ⟨⟨A r, L r, C r, ys⟩, rfl, ⟨q3, q5, row_nil hrow⟩, q1, hreach r hrl, q4⟩)
    refine ⟨ps, hpl, ?_, ?_⟩
    · by_cases h0 : len = 0
      · exact .inl (List.length_eq_zero_iff.1 (by omega))
      · obtain ⟨b, off, rfl, hcell⟩ := addr_plain (n := len) (V := fun r => .slice (A r) (L r) (C r)) (by omega) (fun r hrl => (hr r (by omega)).1)
        refine .inr ⟨b, off, rfl, fun i hi => ?_⟩
        rw [hcell i (by omega), (hpq i hi).1]
    · intro p hp
      obtain ⟨i, hi, rfl⟩ := List.mem_iff_getElem.1 hp
      exact (hpq i hi).2
end Go.Proofs.Ytmjjoiljdcjhdaa
