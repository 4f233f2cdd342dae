/- Plain words for the walks of this seat: bytes that lie in memory; nothing is claimed of the program here. -/
import Derived.WalkKit
import Derived.ProofKit
import Derived.OpenShut
namespace Go.Proofs.YtecbhhfncklefaaDoor
set_option linter.unusedVariables false
open Go.RowKit

/-- These bytes lie at that address (of no bytes nothing is said). -/
def Seg (w : World) (a : Option Addr) (zs : List Int) : Prop :=
  zs = [] ∨ ∃ b off, a = some ⟨b, off, none⟩ ∧ ∀ i, i < zs.length → w.cell? ⟨b, off + i, none⟩ = some (.int .u8 (zs[i]?.getD 0))

/-- Each is a byte. -/
def Byt (zs : List Int) : Prop := ∀ i : Nat, 0 ≤ zs[i]?.getD 0 ∧ zs[i]?.getD 0 ≤ 255

theorem Byt.take {zs : List Int} (h : Byt zs) (n : Nat) : Byt (zs.take n) := by
  intro i
  rw [List.getElem?_take]
  split
  · exact h i
  · simp

theorem Seg.lt {w : World} {a : Option Addr} {zs : List Int} {b off : Nat} (h : Seg w a zs) (ha : a = some ⟨b, off, none⟩) (hz : zs ≠ []) : b < w.heap.size := by
  rcases h with h | ⟨b', off', e, hc⟩
  · exact absurd h hz
  · rw [ha] at e
    cases e
    have hp : 0 < zs.length := List.length_pos_iff.2 hz
    exact World.block_lt_of_cell? _ _ (hc 0 hp)

theorem Seg.below {w w' : World} {a : Option Addr} {zs : List Int} (h : Seg w a zs) (hb : Below w.heap.size w w') : Seg w' a zs := by
  rcases h with h | ⟨b, off, e, hc⟩
  · exact .inl h
  · by_cases hz : zs = []
    · exact .inl hz
    · have hl := Seg.lt (.inr ⟨b, off, e, hc⟩) e hz
      exact .inr ⟨b, off, e, fun i hi => (hb.cell (p := ⟨b, off + i, none⟩) hl).trans (hc i hi)⟩

theorem Seg.take {w : World} {a : Option Addr} {zs : List Int} (h : Seg w a zs) (n : Nat) : Seg w a (zs.take n) := by
  rcases h with h | ⟨b, off, e, hc⟩
  · exact .inl (by simp [h])
  · refine .inr ⟨b, off, e, fun i hi => ?_⟩
    have h2 : i < n ∧ i < zs.length := by simpa [List.length_take, Nat.lt_min] using hi
    rw [List.getElem?_take, if_pos h2.1]
    exact hc i h2.2

/-- From what a row's frame tells of a slice of bytes that came in to the bytes themselves. -/
theorem row_seg {w : World} {a : Option Addr} {len cap : Nat} {zs : List Int}
    (h : (a = none ∧ len = 0 ∧ cap = 0 ∧ zs = []) ∨ ∃ x, a = some x ∧ len ≤ cap ∧ cap ≤ maxLen ∧ zs.length = cap ∧ (∀ i, i < zs.length → w.cell? (x.add i) = some (.int .u8 (zs.getD i 0))) ∧ ∀ n ∈ zs, (Lit.int .u8 n).wf = true) :
    len ≤ cap ∧ cap ≤ 9223372036854775807 ∧ ∃ ys : List Int, ys.length = len ∧ Byt ys ∧ Seg w a ys := by
  rcases h with ⟨rfl, rfl, rfl, rfl⟩ | ⟨x, rfl, hl, hm, hz, hc, hw⟩
  · exact ⟨Nat.le_refl _, by omega, [], rfl, fun i => by simp, .inl rfl⟩
  · refine ⟨hl, by unfold maxLen at hm; omega, zs.take len, by simp; omega, Byt.take ?_ _, ?_⟩
    · intro i
      by_cases hi : i < zs.length
      · have h1 := hw zs[i] (List.getElem_mem hi)
        have h2 := bounds_u8 h1
        rw [List.getElem?_eq_getElem hi, Option.getD_some]
        exact ⟨h2.1, by omega⟩
      · rw [List.getElem?_eq_none (by omega)]
        simp
    · by_cases h0 : len = 0
      · exact .inl (by simp [h0])
      · obtain ⟨b, off, spot⟩ := x
        have hspot : spot = none := by simpa [Addr.add] using World.cell?_spot (hc 0 (by omega))
        subst hspot
        refine Seg.take (.inr ⟨b, off, rfl, fun i hi => ?_⟩) len
        have h1 := hc i hi
        by_cases hi0 : i = 0
        · subst hi0
          simpa [Addr.add] using h1
        · simpa [Addr.add, hi0] using h1

theorem row_nil {w : World} {a : Option Addr} {len cap : Nat} {zs : List Int}
    (h : (a = none ∧ len = 0 ∧ cap = 0 ∧ zs = []) ∨ ∃ x, a = some x ∧ len ≤ cap ∧ cap ≤ maxLen ∧ zs.length = cap ∧ (∀ i, i < zs.length → w.cell? (x.add i) = some (.int .u8 (zs.getD i 0))) ∧ ∀ n ∈ zs, (Lit.int .u8 n).wf = true) :
    a = none → len = 0 ∧ cap = 0 := by
  rcases h with ⟨_, h1, h2, _⟩ | ⟨x, h1, _⟩
  · exact fun _ => ⟨h1, h2⟩
  · intro h; rw [h] at h1; cases h1

theorem byt_of_all {zs : List Int} (h : ∀ z ∈ zs, 0 ≤ z ∧ z ≤ 255) : Byt zs := by
  intro i
  by_cases hi : i < zs.length
  · rw [List.getElem?_eq_getElem hi, Option.getD_some]
    exact h _ (List.getElem_mem hi)
  · rw [List.getElem?_eq_none (by omega)]
    simp

/-- Bytes written out in a new block. -/
theorem seg_lit (w : World) (t : TypeId) (zs : List Int) : Seg (w.alloc (.cells (zs.map (Value.int .u8)).toArray t)) (some ⟨w.heap.size, 0, none⟩) zs := by
  refine .inr ⟨_, _, rfl, fun i hi => ?_⟩
  have h : (w.alloc (.cells (zs.map (Value.int .u8)).toArray t)).heap[w.heap.size]? = some (.cells (zs.map (Value.int .u8)).toArray t) := by
    show (w.heap.push _)[w.heap.size]? = _
    simp
  simp only [World.cell?, h]
  simp [List.getElem?_eq_getElem hi]

/-- Bytes that a slice owns. -/
theorem seg_own {w : World} {base e g n cap : Nat} {zs : List Int} (h : w.ownsRow base e 1 (.slice (some ⟨g, 0, none⟩) n cap) n (zs.map (Value.int .u8))) (hz : zs.length = n) : Seg w (some ⟨g, 0, none⟩) zs := by
  refine .inr ⟨_, _, rfl, fun i hi => ?_⟩
  rw [Nat.zero_add, h.cellAt i (by omega), List.getElem?_map, List.getElem?_eq_getElem hi]
  rfl

/-- Bytes that lie there, as an append asks for them. -/
theorem seg_news {w : World} {ad : Addr} {zs : List Int} (h : Seg w (some ad) zs) : ∀ j u, (zs.map (Value.int .u8))[j]? = some u → w.cell? (ad.add j) = some u := by
  intro j u hj
  rw [List.getElem?_map, Option.map_eq_some_iff] at hj
  obtain ⟨z, hz, rfl⟩ := hj
  have hlt : j < zs.length := by
    by_cases hj : j < zs.length
    · exact hj
    · rw [List.getElem?_eq_none (by omega)] at hz; cases hz
  rcases h with rfl | ⟨b, off, e, hc⟩
  · simp at hlt
  · cases e
    have := hc j hlt
    rw [hz] at this
    by_cases h0 : j = 0
    · subst h0; simpa [Addr.add] using this
    · simpa [Addr.add, h0] using this

theorem news_one (zs : List Int) : ∀ u ∈ zs.map (Value.int .u8), u.oneCell' = true := by
  intro u hu
  obtain ⟨z, _, rfl⟩ := List.mem_map.1 hu
  rfl

theorem own_base {w : World} {base base' : Nat} {e : TypeId} {size : Nat} {v : Value} {n : Nat} {xs : List Value} (h : w.ownsRow base e size v n xs) (hb : base' ≤ base) : w.ownsRow base' e size v n xs := by
  obtain ⟨h1, h2⟩ := h
  refine ⟨h1, ?_⟩
  rcases h2 with h2 | ⟨g, cap, cur, hv, hg, r⟩
  · exact .inl h2
  · exact .inr ⟨g, cap, cur, hv, Nat.le_trans hb hg, r⟩

theorem own_shape {w : World} {base e : Nat} {v : Value} {n : Nat} {xs : List Value} (h : w.ownsRow base e 1 v n xs) (hn : 0 < n) : ∃ g cap, v = .slice (some ⟨g, 0, none⟩) n cap ∧ n ≤ cap ∧ cap ≤ 9223372036854775807 ∧ base ≤ g := by
  rcases h.2 with ⟨_, h0⟩ | ⟨g, cap, _, hv, hg, _, h1, h2, _⟩
  · omega
  · exact ⟨g, cap, hv, h1, by unfold maxLen at h2; omega, hg⟩

theorem own_below {W W' : World} {base e size n : Nat} {v : Value} {xs : List Value} (h : W.ownsRow base e size v n xs) (hb : Below W.heap.size W W') : W'.ownsRow base e size v n xs := by
  obtain ⟨h1, h2⟩ := h
  refine ⟨h1, ?_⟩
  rcases h2 with h2 | ⟨g, cap, cur, hv, hg, hh, r⟩
  · exact .inl h2
  · exact .inr ⟨g, cap, cur, hv, hg, (hb.block g (Array.getElem?_eq_some_iff.1 hh).1).trans hh, r⟩

theorem ret_bool {a b : Bool} (h : a = b) : Ending.returned (.bool a) = .returned (.bool b) := by rw [h]
theorem ret_pair {u v u' v' : Value} (h : u = u') (k : v = v') : Ending.returned (.tuple #[u, v]) = .returned (.tuple #[u', v']) := by rw [h, k]
end Go.Proofs.YtecbhhfncklefaaDoor
