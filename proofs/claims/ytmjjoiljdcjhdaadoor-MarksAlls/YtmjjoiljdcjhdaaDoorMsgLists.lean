/- Lists of messages that 'All' has answered, as lists that lie in memory: plain words. -/
import Derived.Test.YtmjjoiljdcjhdaaDoorMAll
import Derived.Test.YtmjjoiljdcjhdaaDoorSameMsg
namespace Go.Proofs.YtmjjoiljdcjhdaaDoor
set_option linter.unusedVariables false
open Go.RowKit

theorem own_segs {w : World} {base e n c : Nat} {a : Option Addr} {ps : List Part} (h : w.ownsRow base e 1 (.slice a n c) n (ps.map Part.v)) (hn : ps.length = n) : Segs w a ps ∧ n ≤ c ∧ (a = none → n = 0 ∧ c = 0) := by
  rcases h.2 with ⟨h1, h0⟩ | ⟨g, cap, cur, h1, hg, hh, h2, h3, r⟩
  · cases h1
    exact ⟨.inl (List.length_eq_zero_iff.1 hn), by omega, fun _ => ⟨rfl, rfl⟩⟩
  · cases h1
    refine ⟨.inr ⟨g, 0, rfl, fun i hi => ?_⟩, h2, by simp⟩
    rw [Nat.zero_add, h.cellAt i (by omega), List.getElem?_map, List.getElem?_eq_getElem hi]
    rfl

theorem Segs.take {w : World} {a : Option Addr} {ps : List Part} (h : Segs w a ps) (k : Nat) : Segs w a (ps.take k) := by
  rcases h with rfl | ⟨b, off, e, hc⟩
  · exact .inl (by simp)
  · refine .inr ⟨b, off, e, fun i hi => ?_⟩
    have h2 : i < k ∧ i < ps.length := by simpa [List.length_take, Nat.lt_min] using hi
    rw [List.getElem_take]
    exact hc i h2.2

theorem Segs.drop {w : World} {b off : Nat} {ps : List Part} (h : Segs w (some ⟨b, off, none⟩) ps) (k : Nat) : Segs w (some ⟨b, off + k, none⟩) (ps.drop k) := by
  rcases h with rfl | ⟨b', off', e, hc⟩
  · exact .inl (by simp)
  · cases e
    refine .inr ⟨_, _, rfl, fun i hi => ?_⟩
    rw [List.length_drop] at hi
    rw [List.getElem_drop, Nat.add_assoc]
    exact hc (k + i) (by omega)

theorem Part.Own.isIn {p : Part} {W : World} {B : Nat} (h : p.Own W B) : p.In W := by
  obtain ⟨a, l, c, zs⟩ := p
  obtain ⟨h1, h2⟩ := h
  simp only [Part.v] at h1 h2
  obtain ⟨a', c', e, h3, _, _, h4⟩ := own_val h2 h1
  cases e
  exact ⟨h1, h3, h4⟩

theorem Part.Own.below {p : Part} {W W' : World} {B : Nat} (h : p.Own W B) (hb : Below W.heap.size W W') : p.Own W' B := ⟨h.1, own_below h.2 hb⟩

theorem mall_small (zs : List Int) : ∀ l ∈ (mall zs).1, l.length ≤ 65536 := by
  refine mall_induct (Q := fun zs => ∀ l ∈ (mall zs).1, l.length ≤ 65536) ?_ ?_ zs
  · intro zs h l hl
    rw [mall_bad zs h] at hl
    cases hl
  · intro zs h ih l hl
    rw [mall_ok zs h] at hl
    rcases List.mem_cons.1 hl with rfl | hl
    · exact (mg_len 65536 zs).2.2
    · exact ih l hl

theorem parts_small {zs : List Int} {ps : List Part} {W : World} {B : Nat} (h : ps.map Part.zs = (mall zs).1) (ho : ∀ p ∈ ps, p.Own W B) : ∀ p ∈ ps, p.len ≤ 4611686018427387904 := by
  intro p hp
  have h1 := mall_small zs p.zs (by rw [← h]; exact List.mem_map.2 ⟨p, hp, rfl⟩)
  have h2 := (ho p hp).1
  omega
end Go.Proofs.YtmjjoiljdcjhdaaDoor
