/- Pieces of bytes, slices that are owned, cells: plain words; nothing is claimed of the program here. -/
import Derived.Test.YtecbhhfncklefacBase
import Derived.ScopeJumps
namespace Go.Proofs.Ytecbhhfncklefac
set_option linter.unusedVariables false
open Go.RowKit

theorem jump_ret {l : Nat} {J : Act → World → Prop} {Q : Exit → Act → World → Prop} {a : Act} {w : World} : Exit.jump l J Q .ret a w = Q .ret a w := rfl

theorem Seg.drop {w : World} {b off : Nat} {zs : List Int} (h : Seg w (some ⟨b, off, none⟩) zs) (n : Nat) : Seg w (some ⟨b, off + n, none⟩) (zs.drop n) := by
  rcases h with h | ⟨b', off', e, hc⟩
  · exact .inl (by simp [h])
  · cases e
    refine .inr ⟨_, _, rfl, fun i hi => ?_⟩
    rw [List.length_drop] at hi
    rw [List.getElem?_drop, Nat.add_assoc]
    exact hc (n + i) (by omega)

theorem Byt.drop {zs : List Int} (h : Byt zs) (n : Nat) : Byt (zs.drop n) := by
  intro i
  rw [List.getElem?_drop]
  exact h _

theorem own_empty (w : World) (base e : Nat) : w.ownsRow base e 1 (.slice none 0 0) 0 [] := ⟨rfl, .inl ⟨rfl, rfl⟩⟩

/-- A slice of bytes that lie somewhere. -/
structure Part where
  a : Option Addr
  len : Nat
  cap : Nat
  zs : List Int

def Part.v (p : Part) : Value := .slice p.a p.len p.cap

structure Part.In (p : Part) (w : World) : Prop where
  len : p.zs.length = p.len
  seg : Seg w p.a p.zs
  nil : p.a = none → p.len = 0 ∧ p.cap = 0

theorem own_low {w : World} {base e size n k : Nat} {v : Value} {xs : List Value} (h : w.ownsRow base e size v n xs) (hk : v.ownBlock = some k) : base ≤ k := by
  rcases h.2 with ⟨rfl, _⟩ | ⟨g, _, _, rfl, hg, _⟩
  · simp [Value.ownBlock] at hk
  · simp [Value.ownBlock] at hk
    omega

/-- What is owned is a slice of so many, and its bytes lie there. -/
theorem own_val {w : World} {base e n : Nat} {v : Value} {zs : List Int} (h : w.ownsRow base e 1 v n (zs.map (Value.int .u8))) (hz : zs.length = n) : ∃ a c, v = .slice a n c ∧ Seg w a zs ∧ n ≤ c ∧ c ≤ 9223372036854775807 ∧ (a = none → n = 0 ∧ c = 0) := by
  rcases h.2 with ⟨rfl, h0⟩ | ⟨g, cap, cur, rfl, hg, hh, h1, h2, r⟩
  · subst h0
    exact ⟨none, 0, rfl, .inl (List.length_eq_zero_iff.1 hz), by omega, by omega, fun _ => ⟨rfl, rfl⟩⟩
  · exact ⟨_, cap, rfl, seg_own h hz, h1, by unfold maxLen at h2; omega, by simp⟩

theorem cell_pair (w : World) (t : TypeId) (x y : Nat) : ∀ i, (h : i < [x, y].length) → (w.alloc (.cells #[.int .i64 (x : Int), .int .i64 (y : Int)] t)).cell? ⟨w.heap.size, i, none⟩ = some (.int .i64 ([x, y][i] : Nat)) := by
  intro i hi
  match i, hi with
  | 0, _ => simp
  | 1, _ => simp

theorem cell_lone (w : World) (t : TypeId) (x : Nat) : ∀ i, (h : i < [x].length) → (w.alloc (.cells #[.int .i64 (x : Int)] t)).cell? ⟨w.heap.size, i, none⟩ = some (.int .i64 ([x][i] : Nat)) := by
  intro i hi
  match i, hi with
  | 0, _ => simp

theorem own_mem {w : World} {base e g n cap : Nat} {zs : List Int} (h : w.ownsRow base e 1 (.slice (some ⟨g, 0, none⟩) n cap) n (zs.map (Value.int .u8))) (hz : zs.length = n) : (Part.mk (some ⟨g, 0, none⟩) n cap zs).In w :=
  ⟨hz, seg_own h hz, by simp⟩

theorem Part.In.below {p : Part} {w w' : World} (h : p.In w) (hb : Below w.heap.size w w') : p.In w' := ⟨h.len, h.seg.below hb, h.nil⟩

theorem full_own {w : World} {base e g n : Nat} {xs : List Value} (h : w.heap[g]? = some (.cells xs.toArray e (0, 0))) (hb : base ≤ g) (hn : xs.length = n) (hm : n ≤ maxLen) : w.ownsRow base e 1 (.slice (some ⟨g, 0, none⟩) n n) n xs :=
  ⟨by omega, .inr ⟨g, n, xs.toArray, rfl, hb, h, Nat.le_refl _, hm, by simp [hn], by simp [← hn]⟩⟩
end Go.Proofs.Ytecbhhfncklefac
