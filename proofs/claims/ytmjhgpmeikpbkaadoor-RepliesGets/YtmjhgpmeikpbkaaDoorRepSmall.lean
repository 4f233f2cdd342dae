/- 'span.has', 'row.begins', 'row.may': what they answer; nothing that was there turns. -/
import Derived.Test.YtmjhgpmeikpbkaaDoorRepRows
namespace Go.Proofs.YtmjhgpmeikpbkaaDoor
set_option linter.unusedVariables false
open Go.RowKit

set_option maxRecDepth 100000 in
set_option maxHeartbeats 1000000 in
theorem has_any (a b n : Int) (w : World) : Calls Tryd.prog 54 #[.agg #[.int .u32 a, .int .u32 b], .int .u32 n] w fun e w' => e = .returned (.bool (decide (a ≤ n) && decide (n ≤ b))) ∧ Below w.heap.size w w' := by
  go_enter Tryd.func54, Tryd.ntmps54
  go_wp2
  · go_ret
    exact ⟨by simp_all <;> omega, (Below.refl _ _).alloc (Nat.le_refl _) _⟩
  · go_ret
    exact ⟨by simp_all <;> omega, (Below.refl _ _).alloc (Nat.le_refl _) _⟩

theorem span_eq (s0 s1 : Int) (w : World) : (Op.equalIn 10000 55 (.agg #[.int .u32 s0, .int .u32 s1]) (.agg #[.int .u32 0, .int .u32 0])).run Tryd.prog w = .ok ((s0 == 0) && (s1 == 0)) w := by
  cases e0 : (s0 == 0) <;> cases e1 : (s1 == 0) <;> simp [go_sem, e0, e1]
theorem span_eql (s0 s1 : Int) (w : World) : (binOp .eql 55 (.agg #[.int .u32 s0, .int .u32 s1]) (.agg #[.int .u32 0, .int .u32 0])).run Tryd.prog w = .ok (.bool ((s0 == 0) && (s1 == 0))) w := by
  rw [run_eql_struct, span_eq]; rfl
theorem span_neq (s0 s1 : Int) (w : World) : (binOp .neq 55 (.agg #[.int .u32 s0, .int .u32 s1]) (.agg #[.int .u32 0, .int .u32 0])).run Tryd.prog w = .ok (.bool (!((s0 == 0) && (s1 == 0)))) w := by
  rw [run_neq_struct, span_eq]; rfl

/-- The number of a row at a place. -/
def fxs (h : Int) (k : Nat) : Int := if k = 0 then fx0 h else if k = 1 then fx1 h else if k = 2 then 0 else fx3 h
/-- Does a row go on so? -/
def bgn (h : Int) (k : Nat) (n : Int) : Bool := decide ((k : Int) < mny h) && (fxs h k == n)

set_option maxRecDepth 100000 in
set_option maxHeartbeats 1000000 in
theorem begins_any (h : Int) (k : Nat) (hk : k < 4) (n : Int) (w : World) : Calls Tryd.prog 79 #[rowV h, .int .i64 k, .int .u32 n] w fun e w' => e = .returned (.bool (bgn h k n)) ∧ Below w.heap.size w w' := by
  have e : bgn h k n = (decide ((k : Int) < mny h) && (fxs h k == n)) := rfl
  have ek : fxs h k = (if k = 0 then fx0 h else if k = 1 then fx1 h else if k = 2 then 0 else fx3 h) := rfl
  rw [e, ek]
  clear e ek
  unfold rowV
  generalize fx0 h = x0
  generalize fx1 h = x1
  generalize fx3 h = x3
  generalize mny h = m
  generalize lo0 h = l0
  generalize lo1 h = l1
  generalize hi1 h = g1
  generalize bod h = bo
  match k, hk with
  | 0, _ =>
    go_enter Tryd.func79, Tryd.ntmps79
    go_wp2
    · go_ret
      exact ⟨by simp_all <;> omega, (Below.refl _ _).alloc (Nat.le_refl _) _⟩
    · go_ret
      exact ⟨by simp_all <;> omega, (Below.refl _ _).alloc (Nat.le_refl _) _⟩
  | 1, _ =>
    go_enter Tryd.func79, Tryd.ntmps79
    go_wp2
    · go_ret
      exact ⟨by simp_all <;> omega, (Below.refl _ _).alloc (Nat.le_refl _) _⟩
    · go_ret
      exact ⟨by simp_all <;> omega, (Below.refl _ _).alloc (Nat.le_refl _) _⟩
  | 2, _ =>
    go_enter Tryd.func79, Tryd.ntmps79
    go_wp2
    · go_ret
      exact ⟨by simp_all <;> omega, (Below.refl _ _).alloc (Nat.le_refl _) _⟩
    · go_ret
      exact ⟨by simp_all <;> omega, (Below.refl _ _).alloc (Nat.le_refl _) _⟩
  | 3, _ =>
    go_enter Tryd.func79, Tryd.ntmps79
    go_wp2
    · go_ret
      exact ⟨by simp_all <;> omega, (Below.refl _ _).alloc (Nat.le_refl _) _⟩
    · go_ret
      exact ⟨by simp_all <;> omega, (Below.refl _ _).alloc (Nat.le_refl _) _⟩

theorem grown_below {w w' : World} (h : Below w.heap.size w w') (row : Option Nat) : w.grownBy w' row := ⟨h.os, h.tape, h.output, h.size, fun i hi _ => h.block i hi⟩

theorem two_boxes (w : World) (A B : Obj) : ((w.alloc A).alloc B).heap[w.heap.size]? = some A ∧ ((w.alloc A).alloc B).heap[w.heap.size + 1]? = some B ∧ Below w.heap.size w ((w.alloc A).alloc B) ∧ ((w.alloc A).alloc B).heap.size = w.heap.size + 2 := by
  have h1 := MapKept.heap_alloc w A
  have h2 := MapKept.heap_alloc (w.alloc A) B
  have e : (w.alloc A).heap.size = w.heap.size + 1 := by simp
  rw [e] at h2
  exact ⟨(h2.2 _ (by omega)).trans h1.1, h2.1, ((Below.refl _ _).alloc (Nat.le_refl _) _).alloc (by simp) _, by simp⟩

theorem boxes_after {w W1 : World} {A B : Obj} (hb : Below ((w.alloc A).alloc B).heap.size ((w.alloc A).alloc B) W1) : W1.heap[w.heap.size]? = some A ∧ W1.heap[w.heap.size + 1]? = some B ∧ Below w.heap.size w W1 ∧ w.heap.size + 2 ≤ W1.heap.size := by
  obtain ⟨h1, h2, h3, h4⟩ := two_boxes w A B
  have hs := hb.size
  exact ⟨(hb.block _ (by omega)).trans h1, (hb.block _ (by omega)).trans h2, h3.trans (hb.mono h3.size), by omega⟩

theorem box_next {W1 W2 : World} {b : Nat} {A : Obj} (h : W1.heap[b]? = some A) (hb : Below W1.heap.size W1 W2) : W2.heap[b]? = some A := (hb.block _ (Array.getElem?_eq_some_iff.1 h).1).trans h

theorem ten_at {W : World} {h : Nat} {x0 x1 x2 x3 x4 x5 x6 x7 x8 x9 : Value} {t : TypeId} (hh : W.heap[h]? = some (.cells #[x0, x1, x2, x3, x4, x5, x6, x7, x8, x9] t)) :
    W.cell? ⟨h, 0, none⟩ = some x0 ∧ W.cell? ⟨h, 1, none⟩ = some x1 ∧ W.cell? ⟨h, 2, none⟩ = some x2 ∧ W.cell? ⟨h, 3, none⟩ = some x3 ∧ W.cell? ⟨h, 4, none⟩ = some x4 ∧ W.cell? ⟨h, 5, none⟩ = some x5 ∧ W.cell? ⟨h, 6, none⟩ = some x6 ∧ W.cell? ⟨h, 7, none⟩ = some x7 ∧ W.cell? ⟨h, 8, none⟩ = some x8 ∧ W.cell? ⟨h, 9, none⟩ = some x9 := by
  refine ⟨?_, ?_, ?_, ?_, ?_, ?_, ?_, ?_, ?_, ?_⟩ <;> simp [World.cell?, hh]

theorem five_at {W : World} {h : Nat} {x0 x1 x2 x3 x4 : Value} {t : TypeId} (hh : W.heap[h]? = some (.cells #[x0, x1, x2, x3, x4] t)) :
    W.cell? ⟨h, 0, none⟩ = some x0 ∧ W.cell? ⟨h, 1, none⟩ = some x1 ∧ W.cell? ⟨h, 2, none⟩ = some x2 ∧ W.cell? ⟨h, 3, none⟩ = some x3 ∧ W.cell? ⟨h, 4, none⟩ = some x4 := by
  refine ⟨?_, ?_, ?_, ?_, ?_⟩ <;> simp [World.cell?, hh]

/-- May a reply be by this row? -/
def mayB (h l g : Int) (n : Nat) : Bool := (decide (lo0 h ≤ l) && decide (l ≤ lo1 h)) && ((decide (0 ≤ g) && decide (g ≤ hi1 h)) && (bod h || decide (n = 0)))

set_option maxRecDepth 100000 in
set_option maxHeartbeats 1000000 in
theorem may_any (h : Int) (x how l g : Int) (ba : Option Addr) (bl bc : Nat) (w : World) : Calls Tryd.prog 26 #[rowV h, .agg #[.int .u32 x, .int .u32 how, .int .u32 l, .int .u32 g, .slice ba bl bc]] w fun e w' => e = .returned (.bool (mayB h l g bl)) ∧ Below w.heap.size w w' := by
  have e : mayB h l g bl = ((decide (lo0 h ≤ l) && decide (l ≤ lo1 h)) && ((decide (0 ≤ g) && decide (g ≤ hi1 h)) && (bod h || decide (bl = 0)))) := rfl
  rw [e]
  clear e
  unfold rowV
  generalize fx0 h = x0
  generalize fx1 h = x1
  generalize fx3 h = x3
  generalize mny h = m
  generalize lo0 h = l0
  generalize lo1 h = l1
  generalize hi1 h = g1
  generalize bod h = bo
  go_enter Tryd.func26, Tryd.ntmps26
  go_wp2_with (first
    | (go_at_call 54; refine (has_any 0 g1 g w1).mono ?_; rintro e w2 ⟨rfl, hb⟩; replace hA := box_next hA hb; replace hC := box_next hC hb; replace hB := hB.trans (hb.mono hB.size); clear a0 a1 a2 a3 a4 a5 a6 a7 a8 a9 b0 b1 b2 b3 b4 hb hs; obtain ⟨a0, a1, a2, a3, a4, a5, a6, a7, a8, a9⟩ := ten_at hA; obtain ⟨b0, b1, b2, b3, b4⟩ := five_at hC)
    | (go_at_call 54; refine (has_any l0 l1 l _).mono ?_; rintro e w1 ⟨rfl, hb⟩; obtain ⟨hA, hC, hB, hs⟩ := boxes_after hb; obtain ⟨a0, a1, a2, a3, a4, a5, a6, a7, a8, a9⟩ := ten_at hA; obtain ⟨b0, b1, b2, b3, b4⟩ := five_at hC; clear hb))
  all_goals go_ret
  all_goals refine ⟨?_, hB⟩
  · rename_i h1 h2 h3
    rw [h3, decide_eq_true h1.1, decide_eq_true h1.2, decide_eq_true h2.1, decide_eq_true h2.2]; rfl
  · rename_i h1 h2 h3
    have h3' : bo = false := by simpa using h3
    rw [h3', decide_eq_true h1.1, decide_eq_true h1.2, decide_eq_true h2.1, decide_eq_true h2.2]
    by_cases hb0 : bl = 0 <;> simp [hb0]
  · rename_i h1 h2
    have e : (decide (0 ≤ g) && decide (g ≤ g1)) = false := by rw [← Bool.decide_and]; exact decide_eq_false h2
    rw [e]; simp
  · rename_i h1
    have e : (decide (l0 ≤ l) && decide (l ≤ l1)) = false := by rw [← Bool.decide_and]; exact decide_eq_false h1
    rw [e]; simp
end Go.Proofs.YtmjhgpmeikpbkaaDoor
