/- Words for a Book's memory: frames by the blocks that may turn, rows of three cells, rows apart by their types; nothing is claimed of the program here. -/
import Derived.WalkKit
import Derived.ProofKit
import Derived.Maps.AppendAt
import Derived.Deep.Draws
import Derived.Test.YtecbhhfncklefaaDoorBase
namespace Go.Proofs.YtecbhhfncklefaaDoor
set_option linter.unusedVariables false
open Go.RowKit

/-- Of the blocks that were there only those in D may have turned. -/
structure Kept (D : Nat → Prop) (w w' : World) : Prop where
  os : w'.os = w.os
  tape : w'.tape = w.tape
  output : w'.output = w.output
  size : w.heap.size ≤ w'.heap.size
  block : ∀ k, k < w.heap.size → ¬ D k → w'.heap[k]? = w.heap[k]?

theorem Kept.refl (D : Nat → Prop) (w : World) : Kept D w w := ⟨rfl, rfl, rfl, Nat.le_refl _, fun _ _ _ => rfl⟩

theorem Kept.trans {D : Nat → Prop} {a b c : World} (h : Kept D a b) (k : Kept D b c) : Kept D a c :=
  ⟨k.os.trans h.os, k.tape.trans h.tape, k.output.trans h.output, Nat.le_trans h.size k.size, fun i hi hD => (k.block i (Nat.lt_of_lt_of_le hi h.size) hD).trans (h.block i hi hD)⟩

theorem Kept.mono {D E : Nat → Prop} {a b : World} (h : Kept D a b) (hDE : ∀ k, k < a.heap.size → D k → E k) : Kept E a b :=
  ⟨h.os, h.tape, h.output, h.size, fun i hi hE => h.block i hi (fun hD => hE (hDE i hi hD))⟩

theorem Kept.drew {D : Nat → Prop} {a w : World} (h : Kept D a w) : Kept D a w.drew := ⟨h.os, h.tape, h.output, h.size, h.block⟩
theorem Kept.drewN {D : Nat → Prop} {a w : World} (h : Kept D a w) (n : Nat) : Kept D a (w.drewN n) := ⟨h.os, h.tape, h.output, h.size, h.block⟩

theorem Kept.alloc {D : Nat → Prop} {a w : World} (h : Kept D a w) (o : Obj) : Kept D a (w.alloc o) :=
  ⟨h.os, h.tape, h.output, by simp; have := h.size; omega, fun i hi hD => (Below.heap_alloc _ _ _ (Nat.lt_of_lt_of_le hi h.size)).trans (h.block i hi hD)⟩

theorem Kept.setCell {D : Nat → Prop} {a w : World} (h : Kept D a w) {p : Addr} (hp : D p.block ∨ a.heap.size ≤ p.block) (u : Value) : Kept D a (w.setCell p u) :=
  ⟨h.os, h.tape, h.output, by simpa [World.setCell] using h.size, fun i hi hD => (Below.heap_setCell _ _ _ _ (fun e => by subst e; rcases hp with hp | hp; exact hD hp; omega)).trans (h.block i hi hD)⟩

theorem Kept.grown {D : Nat → Prop} {a w w' : World} {row : Option Nat} (h : Kept D a w) (hg : w.grownBy w' row) (hr : ∀ k, row = some k → D k ∨ a.heap.size ≤ k) : Kept D a w' :=
  ⟨hg.os.trans h.os, hg.tape.trans h.tape, hg.output.trans h.output, Nat.le_trans h.size hg.size, fun i hi hD => (hg.block i (Nat.lt_of_lt_of_le hi h.size) (fun e => by rcases hr i e.symm with h1 | h1; exact hD h1; omega)).trans (h.block i hi hD)⟩

theorem Kept.below {D : Nat → Prop} {w w' : World} {n : Nat} (h : Kept D w w') (hD : ∀ k, D k → n ≤ k) (hn : n ≤ w.heap.size) : Below n w w' :=
  ⟨h.os, h.tape, h.output, h.size, fun k hk => h.block k (by omega) (fun hd => by have := hD k hd; omega)⟩

theorem Kept.cell {D : Nat → Prop} {w w' : World} (h : Kept D w w') {p : Addr} (hl : p.block < w.heap.size) (hD : ¬ D p.block) : w'.cell? p = w.cell? p := World.cell?_of_block (h.block p.block hl hD)

theorem own_kept {D : Nat → Prop} {w w' : World} {base e size n : Nat} {v : Value} {xs : List Value} (h : w.ownsRow base e size v n xs) (hk : Kept D w w') (hD : ∀ g, v.ownBlock = some g → ¬ D g) : w'.ownsRow base e size v n xs := by
  obtain ⟨h1, h2⟩ := h
  refine ⟨h1, ?_⟩
  rcases h2 with h2 | ⟨g, cap, cur, hv, hg, hh, r⟩
  · exact .inl h2
  · exact .inr ⟨g, cap, cur, hv, hg, (hk.block g (Array.getElem?_eq_some_iff.1 hh).1 (hD g (by rw [hv]; rfl))).trans hh, r⟩

/-- Rows of two element types are two rows. -/
theorem own_sep {w : World} {b1 e1 s1 n1 b2 e2 s2 n2 : Nat} {v1 v2 : Value} {x1 x2 : List Value} (h1 : w.ownsRow b1 e1 s1 v1 n1 x1) (h2 : w.ownsRow b2 e2 s2 v2 n2 x2) (he : e1 ≠ e2) {g : Nat} (hg1 : v1.ownBlock = some g) : v2.ownBlock ≠ some g := by
  intro hg2
  rcases h1.2 with ⟨rfl, _⟩ | ⟨a, _, _, rfl, _, hh1, _⟩
  · simp [Value.ownBlock] at hg1
  · rcases h2.2 with ⟨rfl, _⟩ | ⟨b, _, _, rfl, _, hh2, _⟩
    · simp [Value.ownBlock] at hg2
    · simp [Value.ownBlock] at hg1 hg2
      subst hg1
      subst hg2
      rw [hh1] at hh2
      simp at hh2
      exact he hh2.2

/-- A row is not a block of another type. -/
theorem own_not {w : World} {b1 e1 s1 n1 B t : Nat} {v1 : Value} {x1 : List Value} {cs : Array Value} {fz : Nat × Nat} (h1 : w.ownsRow b1 e1 s1 v1 n1 x1) (hB : w.heap[B]? = some (.cells cs t fz)) (he : e1 ≠ t) : v1.ownBlock ≠ some B := by
  intro hg
  rcases h1.2 with ⟨rfl, _⟩ | ⟨a, _, _, rfl, _, hh1, _⟩
  · simp [Value.ownBlock] at hg
  · simp [Value.ownBlock] at hg
    subst hg
    rw [hh1] at hB
    simp at hB
    exact he hB.2.1

theorem own_lt {w : World} {base e size n : Nat} {v : Value} {xs : List Value} (h : w.ownsRow base e size v n xs) {g : Nat} (hg : v.ownBlock = some g) : base ≤ g ∧ g < w.heap.size := h.lt g hg

theorem setCell_same {W : World} {B k : Nat} {cs : Array Value} {t : TypeId} {fz : Nat × Nat} (h : W.heap[B]? = some (.cells cs t fz)) (u : Value) : (W.setCell ⟨B, k, none⟩ u).heap[B]? = some (.cells (cs.setIfInBounds k u) t fz) := by
  obtain ⟨hlt, hk⟩ := Array.getElem?_eq_some_iff.1 h
  show (W.heap.modify B _)[B]? = _
  rw [Array.getElem?_eq_getElem (by rw [Array.size_modify]; exact hlt), Array.getElem_modify_self, hk]
  rfl

/-! ### Rows of three cells -/
def flat3 : List (Value × Value × Int) → List Value
  | [] => []
  | h :: r => h.1 :: h.2.1 :: .int .i64 h.2.2 :: flat3 r

theorem flat3_len (hs : List (Value × Value × Int)) : (flat3 hs).length = hs.length * 3 := by
  induction hs with
  | nil => rfl
  | cons h r ih => simp [flat3, ih]; omega

theorem flat3_append (hs ks : List (Value × Value × Int)) : flat3 (hs ++ ks) = flat3 hs ++ flat3 ks := by
  induction hs with
  | nil => rfl
  | cons h r ih => simp [flat3, ih]

theorem flat3_get (hs : List (Value × Value × Int)) : ∀ (i : Nat) (h : i < hs.length), (flat3 hs)[i * 3]? = some hs[i].1 ∧ (flat3 hs)[i * 3 + 1]? = some hs[i].2.1 ∧ (flat3 hs)[i * 3 + 1 + 1]? = some (.int .i64 hs[i].2.2) := by
  induction hs with
  | nil => intro i h; simp at h
  | cons a r ih =>
    intro i h
    cases i with
    | zero => simp [flat3]
    | succ i =>
      have := ih i (by simpa using h)
      rw [show (i + 1) * 3 = i * 3 + 3 from by omega]
      simpa [flat3] using this

theorem flat3_set (hs : List (Value × Value × Int)) (u : Value) : ∀ (i : Nat) (h : i < hs.length), (flat3 hs).set (i * 3 + 1) u = flat3 (hs.set i (hs[i].1, u, hs[i].2.2)) := by
  induction hs with
  | nil => intro i h; simp at h
  | cons a r ih =>
    intro i h
    cases i with
    | zero => simp [flat3]
    | succ i =>
      have := ih i (by simpa using h)
      rw [show (i + 1) * 3 + 1 = i * 3 + 1 + 3 from by omega]
      simp [flat3, this]
end Go.Proofs.YtecbhhfncklefaaDoor
