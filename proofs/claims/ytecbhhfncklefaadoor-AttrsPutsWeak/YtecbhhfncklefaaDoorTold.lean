/- 'told': the bytes of a number, the highest first, told one by one to whoever asks; its function value's contract. -/
import Derived.RangeFuncBox
import Derived.RangeFuncLeaves
import Derived.RangeFuncCalls
import Derived.Shelf.Abstract
import Derived.WalkKit
import Derived.OwnWalkIn
import Derived.TacticsInMore
import Derived.LoopNIn
import Derived.LoopIn
import Derived.Maps.AppendAt
import Derived.Outline
import Derived.Test.YtecbhhfncklefaaDoorRows
import Derived.Test.YtecbhhfncklefaaDoorBase
import Derived.Test.YtecbhhfncklefaaDoorBytes
namespace Go.Proofs.YtecbhhfncklefaaDoor
set_option linter.unusedVariables false
open Go.RowKit Go.Shelf
attribute [local go_sem] Oper.semAt_some

/-- What a round keeps: the two boxes of the iterator. -/
def KeepBox (Bn Bm : Nat) (W W' : World) : Prop := W'.cell? ⟨Bn, 0, none⟩ = W.cell? ⟨Bn, 0, none⟩ ∧ W'.cell? ⟨Bm, 0, none⟩ = W.cell? ⟨Bm, 0, none⟩

set_option maxRecDepth 100000 in
set_option maxHeartbeats 1000000 in
theorem told1_in (F : Fence) (n : Nat) (hf : F.fn 101) (hro : F.round = none) (hn : 1 ≤ n) (l Bn Bm : Nat) (x : Int) (size : Nat) (hx0 : 0 ≤ x) (hx1 : x ≤ 18446744073709551615) (hsz : size ≤ 8) (J Jx : List Int → World → Prop)
    (hY : ∀ pre y W, J pre W → pre.length < size → YieldAt F (n - 1) Tryd.prog l #[.int .u8 y] W fun e W' =>
      (e = .returned (.bool true) ∧ J (pre ++ [y]) W' ∧ KeepBox Bn Bm W W') ∨ (e = .returned (.bool false) ∧ Jx (pre ++ [y]) W'))
    (W : World) (hBn : W.cell? ⟨Bn, 0, none⟩ = some (.int .u64 x)) (hBm : W.cell? ⟨Bm, 0, none⟩ = some (.int .i64 size)) (h0 : J [] W) :
    CallsIn F n Tryd.prog 101 #[.func (.yield l) #[] #[], .pointer (some ⟨Bm, 0, none⟩), .pointer (some ⟨Bn, 0, none⟩)] W fun e W' => (∃ v, e = .returned v) ∧
      ((∃ ys, ys = bytesOf x size ∧ J ys W') ∨ (∃ pre, pre <+: bytesOf x size ∧ Jx pre W')) := by
  refine callsIn_of_wp Tryd.func101 rfl hf ?_ hro
  simp only [Tryd.ntmps101, List.size_toArray, List.length_cons, List.length_nil, Nat.reduceAdd, Nat.reduceSub, Array.replicate_succ, Array.replicate_zero, List.push_toArray, List.append_toArray, List.nil_append, List.cons_append]
  gi_wp2
  gi_loopw [4] (fun p wr => ∃ k : Nat, k ≤ size ∧ p = .int .i64 ((size : Int) - (k : Int)) ∧ wr.cell? ⟨Bn, 0, none⟩ = some (.int .u64 x) ∧ J ((bytesOf x size).take k) wr)
    (fun p wr => (intOf p).toNat)
  case atStart =>
    exact ⟨0, by omega, by go_num, hBn, h0⟩
  case round =>
    obtain ⟨k, hk, rfl, hbn, hJs⟩ := hrel
    by_cases hlt : k < size
    · have hbt : Hid ((bytesOf x size).take (k + 1) = (bytesOf x size).take k ++ [x / 2 ^ (8 * (size - k - 1)) % 256]) := bytesOf_take x size k hlt
      obtain ⟨fn, tmps, assign, body, hy, hR⟩ := hY _ (x / 2 ^ (8 * (size - k - 1)) % 256) wr hJs (by rw [List.length_take, bytesOf_length]; omega)
      rw [← hbt.out] at hR
      gi_wp2
      refine hR.mono ?_
      rintro e W3 (⟨rfl, hJ3, hk3⟩ | ⟨rfl, hJx3⟩)
      · have hbn3 : W3.cell? ⟨Bn, 0, none⟩ = some (.int .u64 x) := hk3.1.trans hbn
        gi_wp2
        go_roundw
        case rel => exact ⟨k + 1, by omega, by go_num, hbn3, hJ3⟩
        case measure => simp [intOf]; omega
      · gi_wp2
        refine bodyPost_ret (results_none rfl _ _ _) rfl ?_
        exact ⟨⟨_, rfl⟩, .inr ⟨_, List.take_prefix _ _, hJx3⟩⟩
    · obtain rfl : k = size := by omega
      gi_wp2
      go_end0
      exact ⟨⟨_, rfl⟩, .inl ⟨_, by rw [List.take_of_length_le (by rw [bytesOf_length]; omega)], hJs⟩⟩

set_option maxHeartbeats 1000000 in
theorem told_in (F : Fence) (n : Nat) (hf : F.fn 99) (hro : F.round = none) (x s : Int) (w : World) :
    CallsIn F n Tryd.prog 99 #[.int .u64 x, .int .i64 s] w fun e w' => e = .returned (.func (.func 101) #[] #[.pointer (some ⟨w.heap.size + 1, 0, none⟩), .pointer (some ⟨w.heap.size, 0, none⟩)]) ∧
      w' = (w.alloc (.cells #[.int .u64 x] 24)).alloc (.cells #[.int .i64 s] 3) := by
  refine callsIn_of_wp Tryd.func99 rfl hf ?_ hro
  simp only [Tryd.ntmps99, List.size_toArray, List.length_cons, List.length_nil, Nat.reduceAdd, Nat.reduceSub, Array.replicate_succ, Array.replicate_zero, List.push_toArray, List.append_toArray, List.nil_append, List.cons_append]
  gi_wp2
  go_ret
  exact ⟨rfl, rfl⟩

theorem told_stops (F : Fence) (n : Nat) (hf : F.fn 101) (hro : F.round = none) (hn : 1 ≤ n) (Bn Bm : Nat) (x : Int) (size : Nat) (hx0 : 0 ≤ x) (hx1 : x ≤ 18446744073709551615) (hsz : size ≤ 8) (w : World)
    (hlt : Bn < w.heap.size) (hlt2 : Bm < w.heap.size) (hBn : w.cell? ⟨Bn, 0, none⟩ = some (.int .u64 x)) (hBm : w.cell? ⟨Bm, 0, none⟩ = some (.int .i64 size)) :
    SeqStopsK F n Tryd.prog 101 #[.pointer (some ⟨Bm, 0, none⟩), .pointer (some ⟨Bn, 0, none⟩)] (fun y : Int => #[Value.int .u8 y]) (KeepBox Bn Bm) (fun ys => ys = bytesOf x size) (fun pre => pre <+: bytesOf x size) size w :=
  fun l J Jx W hW _ _ hY h0 => told1_in F n hf hro hn l Bn Bm x size hx0 hx1 hsz J Jx hY W ((hW.cell (p := ⟨Bn, 0, none⟩) hlt).trans hBn) ((hW.cell (p := ⟨Bm, 0, none⟩) hlt2).trans hBm) h0

theorem keepBox_t {Bn Bm : Nat} {A B C : World} (h : KeepBox Bn Bm A B) (k : KeepBox Bn Bm B C) : KeepBox Bn Bm A C := ⟨k.1.trans h.1, k.2.trans h.2⟩

theorem keepBox_below {Bn Bm : Nat} {A B : World} (h1 : A.heap[Bn]? = B.heap[Bn]?) (h2 : A.heap[Bm]? = B.heap[Bm]?) : KeepBox Bn Bm A B :=
  ⟨World.cell?_of_block (w := A) (a := ⟨Bn, 0, none⟩) h1.symm, World.cell?_of_block (w := A) (a := ⟨Bm, 0, none⟩) h2.symm⟩

theorem keepBox_b {Bn Bm : Nat} {w : World} (hn : Bn < w.heap.size) (hm : Bm < w.heap.size) (W : World) (l : Nat) (o o' : Obj) (hl : w.heap.size ≤ l) (h : W.heap[l]? = some o) (_ : o.isCells = false) (_ : o.isWalk = false) : KeepBox Bn Bm W (W.putObj l o') :=
  keepBox_below (World.putObj_heap_other (by omega)).symm (World.putObj_heap_other (by omega)).symm
end Go.Proofs.YtecbhhfncklefaaDoor
