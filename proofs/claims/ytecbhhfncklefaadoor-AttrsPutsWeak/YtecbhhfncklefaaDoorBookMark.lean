/- A Book's marks of bytes, and a Book in memory that holds lists of bytes alone. -/
import Derived.Test.YtecbhhfncklefaaDoorRows
import Derived.Test.YtecbhhfncklefaaDoorBookBase
namespace Go.Proofs.YtecbhhfncklefaaDoor
set_option linter.unusedVariables false
open Go.RowKit

/-- The mark of a number. -/
def markOf (n : Int) : Int := 1 + n % 250

set_option maxHeartbeats 400000 in
theorem mark_any (n : Int) (w : World) (h0 : 0 ≤ n) (h1 : n ≤ 1000000) :
    Calls Tryd.prog 82 #[.int .i64 n] w fun e w' => e = .returned (.int .u8 (markOf n)) ∧ w' = w := by
  unfold markOf
  go_enter Tryd.func82, Tryd.ntmps82
  go_wp2
  go_ret
  exact ⟨by simp, rfl⟩

set_option maxHeartbeats 400000 in
theorem is_any (n : Int) (w : World) (h0 : 0 ≤ n) (h1 : n ≤ 1000000) :
    Calls Tryd.prog 89 #[.int .u8 (markOf n), .int .i64 n] w fun e w' => e = .returned (.bool true) ∧ w' = w := by
  unfold markOf
  go_enter Tryd.func89, Tryd.ntmps89
  go_wp2
  go_ret
  exact ⟨by simp, rfl⟩

/-- No lists of other kinds. -/
def noRest : Nat → Value := fun _ => .slice none 0 0

/-- One of the Book's other fields is another one. -/
def upd (r : Nat → Value) (k : Nat) (u : Value) : Nat → Value := fun j => if j = k then u else r j

/-- A Book at block B that has held so many lists, its lists of bytes in the row vb, those of the other kinds in the rows r 2 to r 7. -/
def BookAt (W : World) (B : Nat) (n : Int) (vb : Value) (r : Nat → Value) : Prop :=
  W.heap[B]? = some (.cells #[.int .i64 n, vb, r 2, r 3, r 4, r 5, r 6, r 7] 57 (0, 0))

theorem BookAt.lt {W : World} {B : Nat} {n : Int} {vb : Value} {r : Nat → Value} (h : BookAt W B n vb r) : B < W.heap.size := (Array.getElem?_eq_some_iff.1 h).1
theorem BookAt.cell0 {W : World} {B : Nat} {n : Int} {vb : Value} {r : Nat → Value} (h : BookAt W B n vb r) : W.cell? ⟨B, 0, none⟩ = some (.int .i64 n) := by simp [World.cell?, show W.heap[B]? = _ from h]
theorem BookAt.cell1 {W : World} {B : Nat} {n : Int} {vb : Value} {r : Nat → Value} (h : BookAt W B n vb r) : W.cell? ⟨B, 1, none⟩ = some vb := by simp [World.cell?, show W.heap[B]? = _ from h]
theorem BookAt.rest {W : World} {B : Nat} {n : Int} {vb : Value} {r : Nat → Value} (h : BookAt W B n vb r) (k : Nat) (h2 : 2 ≤ k) (h7 : k ≤ 7) : W.cell? ⟨B, k, none⟩ = some (r k) := by
  match k, h2, h7 with
  | 2, _, _ => simp [World.cell?, show W.heap[B]? = _ from h]
  | 3, _, _ => simp [World.cell?, show W.heap[B]? = _ from h]
  | 4, _, _ => simp [World.cell?, show W.heap[B]? = _ from h]
  | 5, _, _ => simp [World.cell?, show W.heap[B]? = _ from h]
  | 6, _, _ => simp [World.cell?, show W.heap[B]? = _ from h]
  | 7, _, _ => simp [World.cell?, show W.heap[B]? = _ from h]
theorem BookAt.idle {W : World} {B : Nat} {n : Int} {vb : Value} (h : BookAt W B n vb noRest) (k : Nat) (h2 : 2 ≤ k) (h7 : k ≤ 7) : W.cell? ⟨B, k, none⟩ = some (.slice none 0 0) := h.rest k h2 h7
theorem BookAt.frozen {W : World} {B : Nat} {n : Int} {vb : Value} {r : Nat → Value} (h : BookAt W B n vb r) (k : Nat) : W.frozen? ⟨B, k, none⟩ = false := by simp [World.frozen?, show W.heap[B]? = _ from h]
theorem BookAt.kept {D : Nat → Prop} {W W' : World} {B : Nat} {n : Int} {vb : Value} {r : Nat → Value} (h : BookAt W B n vb r) (hk : Kept D W W') (hD : ¬ D B) : BookAt W' B n vb r := (hk.block B h.lt hD).trans h

theorem BookAt.set0 {W : World} {B : Nat} {n : Int} {vb : Value} {r : Nat → Value} (h : BookAt W B n vb r) (m : Int) : BookAt (W.setCell ⟨B, 0, none⟩ (.int .i64 m)) B m vb r := by
  unfold BookAt
  rw [setCell_same h]
  rfl
theorem BookAt.set1 {W : World} {B : Nat} {n : Int} {vb : Value} {r : Nat → Value} (h : BookAt W B n vb r) (u : Value) : BookAt (W.setCell ⟨B, 1, none⟩ u) B n u r := by
  unfold BookAt
  rw [setCell_same h]
  rfl
theorem BookAt.set4 {W : World} {B : Nat} {n : Int} {vb : Value} {r : Nat → Value} (h : BookAt W B n vb r) (u : Value) : BookAt (W.setCell ⟨B, 4, none⟩ u) B n vb (upd r 4 u) := by
  unfold BookAt
  rw [setCell_same h]
  rfl
end Go.Proofs.YtecbhhfncklefaaDoor
