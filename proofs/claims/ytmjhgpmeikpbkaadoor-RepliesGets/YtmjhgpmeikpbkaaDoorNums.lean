/- Plain words: lists of uint32 that lie in memory; nothing is claimed of the program here. -/
import Derived.Test.YtmjhgpmeikpbkaaDoorBase
namespace Go.Proofs.YtmjhgpmeikpbkaaDoor
set_option linter.unusedVariables false
open Go.RowKit

/-- These numbers lie at that address (of no numbers nothing is said). -/
def Seg4 (w : World) (a : Option Addr) (zs : List Int) : Prop :=
  zs = [] ∨ ∃ b off, a = some ⟨b, off, none⟩ ∧ ∀ i, i < zs.length → w.cell? ⟨b, off + i, none⟩ = some (.int .u32 (zs[i]?.getD 0))

/-- Each is a uint32. -/
def U32s (zs : List Int) : Prop := ∀ i : Nat, 0 ≤ zs[i]?.getD 0 ∧ zs[i]?.getD 0 ≤ 4294967295

theorem U32s.take {zs : List Int} (h : U32s zs) (n : Nat) : U32s (zs.take n) := by
  intro i
  rw [List.getElem?_take]
  split
  · exact h i
  · simp

theorem Seg4.lt {w : World} {a : Option Addr} {zs : List Int} {b off : Nat} (h : Seg4 w a zs) (ha : a = some ⟨b, off, none⟩) (hz : zs ≠ []) : b < w.heap.size := by
  rcases h with h | ⟨b', off', e, hc⟩
  · exact absurd h hz
  · rw [ha] at e
    cases e
    have hp : 0 < zs.length := List.length_pos_iff.2 hz
    exact World.block_lt_of_cell? _ _ (hc 0 hp)

theorem Seg4.below {w w' : World} {a : Option Addr} {zs : List Int} (h : Seg4 w a zs) (hb : Below w.heap.size w w') : Seg4 w' a zs := by
  rcases h with h | ⟨b, off, e, hc⟩
  · exact .inl h
  · by_cases hz : zs = []
    · exact .inl hz
    · have hl := Seg4.lt (.inr ⟨b, off, e, hc⟩) e hz
      exact .inr ⟨b, off, e, fun i hi => (hb.cell (p := ⟨b, off + i, none⟩) hl).trans (hc i hi)⟩

theorem Seg4.take {w : World} {a : Option Addr} {zs : List Int} (h : Seg4 w a zs) (n : Nat) : Seg4 w a (zs.take n) := by
  rcases h with h | ⟨b, off, e, hc⟩
  · exact .inl (by simp [h])
  · refine .inr ⟨b, off, e, fun i hi => ?_⟩
    have h2 : i < n ∧ i < zs.length := by simpa [List.length_take, Nat.lt_min] using hi
    rw [List.getElem?_take, if_pos h2.1]
    exact hc i h2.2

/-- From what a row's frame tells of a slice of numbers that came in to the numbers themselves. -/
theorem row_seg4 {w : World} {a : Option Addr} {len cap : Nat} {zs : List Int}
    (h : (a = none ∧ len = 0 ∧ cap = 0 ∧ zs = []) ∨ ∃ x, a = some x ∧ len ≤ cap ∧ cap ≤ maxLen ∧ zs.length = cap ∧ (∀ i, i < zs.length → w.cell? (x.add i) = some (.int .u32 (zs.getD i 0))) ∧ ∀ n ∈ zs, (Lit.int .u32 n).wf = true) :
    len ≤ cap ∧ cap ≤ 9223372036854775807 ∧ ∃ ys : List Int, ys.length = len ∧ U32s ys ∧ Seg4 w a ys := by
  rcases h with ⟨rfl, rfl, rfl, rfl⟩ | ⟨x, rfl, hl, hm, hz, hc, hw⟩
  · exact ⟨Nat.le_refl _, by omega, [], rfl, fun i => by simp, .inl rfl⟩
  · refine ⟨hl, by unfold maxLen at hm; omega, zs.take len, by simp; omega, U32s.take ?_ _, ?_⟩
    · intro i
      by_cases hi : i < zs.length
      · have h1 := hw zs[i] (List.getElem_mem hi)
        have h2 := bounds_u32 h1
        rw [List.getElem?_eq_getElem hi, Option.getD_some]
        exact ⟨h2.1, by omega⟩
      · rw [List.getElem?_eq_none (by omega)]
        simp
    · by_cases h0 : len = 0
      · exact .inl (by simp [h0])
      · obtain ⟨b, off, spot⟩ := x
        have hspot : spot = none := by simpa [Addr.add] using World.cell?_spot (hc 0 (by omega))
        subst hspot
        refine Seg4.take (.inr ⟨b, off, rfl, fun i hi => ?_⟩) len
        have h1 := hc i hi
        by_cases hi0 : i = 0
        · subst hi0
          simpa [Addr.add] using h1
        · simpa [Addr.add, hi0] using h1

theorem row_nil4 {w : World} {a : Option Addr} {len cap : Nat} {zs : List Int}
    (h : (a = none ∧ len = 0 ∧ cap = 0 ∧ zs = []) ∨ ∃ x, a = some x ∧ len ≤ cap ∧ cap ≤ maxLen ∧ zs.length = cap ∧ (∀ i, i < zs.length → w.cell? (x.add i) = some (.int .u32 (zs.getD i 0))) ∧ ∀ n ∈ zs, (Lit.int .u32 n).wf = true) :
    a = none → len = 0 ∧ cap = 0 := by
  rcases h with ⟨_, h1, h2, _⟩ | ⟨x, h1, _⟩
  · exact fun _ => ⟨h1, h2⟩
  · intro h; rw [h] at h1; cases h1

theorem u32s_of_all {zs : List Int} (h : ∀ z ∈ zs, 0 ≤ z ∧ z ≤ 4294967295) : U32s zs := by
  intro i
  by_cases hi : i < zs.length
  · rw [List.getElem?_eq_getElem hi, Option.getD_some]
    exact h _ (List.getElem_mem hi)
  · rw [List.getElem?_eq_none (by omega)]
    simp

/-- U32ses written out in a new block. -/
theorem seg4_lit (w : World) (t : TypeId) (zs : List Int) : Seg4 (w.alloc (.cells (zs.map (Value.int .u32)).toArray t)) (some ⟨w.heap.size, 0, none⟩) zs := by
  refine .inr ⟨_, _, rfl, fun i hi => ?_⟩
  have h : (w.alloc (.cells (zs.map (Value.int .u32)).toArray t)).heap[w.heap.size]? = some (.cells (zs.map (Value.int .u32)).toArray t) := by
    show (w.heap.push _)[w.heap.size]? = _
    simp
  simp only [World.cell?, h]
  simp [List.getElem?_eq_getElem hi]

/-- U32ses that a slice owns. -/
theorem seg4_own {w : World} {base e g n cap : Nat} {zs : List Int} (h : w.ownsRow base e 1 (.slice (some ⟨g, 0, none⟩) n cap) n (zs.map (Value.int .u32))) (hz : zs.length = n) : Seg4 w (some ⟨g, 0, none⟩) zs := by
  refine .inr ⟨_, _, rfl, fun i hi => ?_⟩
  rw [Nat.zero_add, h.cellAt i (by omega), List.getElem?_map, List.getElem?_eq_getElem hi]
  rfl

/-- U32ses that lie there, as an append asks for them. -/
theorem seg4_news {w : World} {ad : Addr} {zs : List Int} (h : Seg4 w (some ad) zs) : ∀ j u, (zs.map (Value.int .u32))[j]? = some u → w.cell? (ad.add j) = some u := by
  intro j u hj
  rw [List.getElem?_map, Option.map_eq_some_iff] at hj
  obtain ⟨z, hz, rfl⟩ := hj
  have hlt : j < zs.length := by
    by_cases hj : j < zs.length
    · exact hj
    · rw [List.getElem?_eq_none (by omega)] at hz; cases hz
  rcases h with rfl | ⟨b, off, e, hc⟩
  · simp at hlt
  · cases e
    have := hc j hlt
    rw [hz] at this
    by_cases h0 : j = 0
    · subst h0; simpa [Addr.add] using this
    · simpa [Addr.add, h0] using this

theorem news_one4 (zs : List Int) : ∀ u ∈ zs.map (Value.int .u32), u.oneCell' = true := by
  intro u hu
  obtain ⟨z, _, rfl⟩ := List.mem_map.1 hu
  rfl

end Go.Proofs.YtmjhgpmeikpbkaaDoor
