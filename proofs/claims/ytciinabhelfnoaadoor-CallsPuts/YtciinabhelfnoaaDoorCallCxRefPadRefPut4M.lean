/- A call that came in, in its box; and what is gone through ('great'). -/
import Derived.Test.YtciinabhelfnoaaDoorCallPutM
import Derived.WalkSmall
import Derived.Test.YtciinabhelfnoaaDoorTextsPadM
import Derived.Test.YtciinabhelfnoaaDoorRows
import Derived.Test.YtciinabhelfnoaaDoorBytesM
import Derived.WalkKit
import Derived.ArgAppend
namespace Go.Proofs.YtciinabhelfnoaaDoor
set_option linter.unusedVariables false
open Go.RowKit

/-- A call in the first box since w; w as it was. -/
structure Cx (w : World) (x p v c f : Int) (m : ByteArray) (s u g : Int) (ga : Option Addr) (gl gc : Nat) (ba : Option Addr) (bl bc : Nat) (W : World) : Prop where
  below : Below w.heap.size w W
  call : W.heap[w.heap.size]? = some (.cells #[.int .u32 x, .int .u32 p, .int .u32 v, .int .u32 c, .int .u32 f, .string m, .int .u32 s, .int .u32 u, .int .u32 g, .slice ga gl gc, .slice ba bl bc] 28)
theorem Cx.start (w : World) (x p v c f : Int) (m : ByteArray) (s u g : Int) (ga : Option Addr) (gl gc : Nat) (ba : Option Addr) (bl bc : Nat) : Cx w x p v c f m s u g ga gl gc ba bl bc (w.alloc (.cells #[.int .u32 x, .int .u32 p, .int .u32 v, .int .u32 c, .int .u32 f, .string m, .int .u32 s, .int .u32 u, .int .u32 g, .slice ga gl gc, .slice ba bl bc] 28)) := ⟨(Below.refl _ _).alloc (Nat.le_refl _) _, heap_alloc_new w _⟩
theorem Cx.next {w : World} {x p v c f : Int} {m : ByteArray} {s u g : Int} {ga : Option Addr} {gl gc : Nat} {ba : Option Addr} {bl bc : Nat} {W W' : World} (h : Cx w x p v c f m s u g ga gl gc ba bl bc W) (hb : Below W.heap.size W W') : Cx w x p v c f m s u g ga gl gc ba bl bc W' :=
  ⟨h.below.trans (hb.mono h.below.size), (hb.block _ (Array.getElem?_eq_some_iff.1 h.call).1).trans h.call⟩
theorem Cx.alloc {w : World} {x p v c f : Int} {m : ByteArray} {s u g : Int} {ga : Option Addr} {gl gc : Nat} {ba : Option Addr} {bl bc : Nat} {W : World} (h : Cx w x p v c f m s u g ga gl gc ba bl bc W) (o : Obj) : Cx w x p v c f m s u g ga gl gc ba bl bc (W.alloc o) := h.next ((Below.refl _ _).alloc (Nat.le_refl _) o)

/-- More than is gone through. -/
def isGreat (m : ByteArray) (gl bl : Nat) : Prop := 5000 < m.size ∨ 1000 < gl ∨ 200000 < bl

set_option maxHeartbeats 1000000 in
theorem great_yes (x p v c f : Int) (m : ByteArray) (s u g : Int) (ga : Option Addr) (gl gc : Nat) (ba : Option Addr) (bl bc : Nat) (w : World) (hm : m.size ≤ 140737488351232) (hg : gl ≤ 140737488351232) (hb : bl ≤ 140737488351232) (h : isGreat m gl bl) : Calls Tryd.prog 4 #[.agg #[.int .u32 x, .int .u32 p, .int .u32 v, .int .u32 c, .int .u32 f, .string m, .int .u32 s, .int .u32 u, .int .u32 g, .slice ga gl gc, .slice ba bl bc]] w fun e w' => e = .returned (.bool true) ∧ Below w.heap.size w w' := by
  have hB : Below w.heap.size w (w.alloc (.cells #[.int .u32 x, .int .u32 p, .int .u32 v, .int .u32 c, .int .u32 f, .string m, .int .u32 s, .int .u32 u, .int .u32 g, .slice ga gl gc, .slice ba bl bc] 28)) := (Below.refl _ _).alloc (Nat.le_refl _) _
  by_cases h1 : 5000 < m.size
  · have h1' : (5000 : Int) < m.size := by omega
    go_enter Tryd.func4, Tryd.ntmps4
    go_wp2
    go_ret
    exact ⟨rfl, hB⟩
  have h1' : ¬ (5000 : Int) < m.size := by omega
  by_cases h2 : 1000 < gl
  · have h2' : (1000 : Int) < gl := by omega
    go_enter Tryd.func4, Tryd.ntmps4
    go_wp2
    go_ret
    exact ⟨rfl, hB⟩
  have h2' : ¬ (1000 : Int) < gl := by omega
  have h3 : 200000 < bl := by
    rcases h with h | h | h
    · exact absurd h h1
    · exact absurd h h2
    · exact h
  have h3' : (200000 : Int) < bl := by omega
  clear h h1 h2
  go_enter Tryd.func4, Tryd.ntmps4
  go_wp2
  go_ret
  exact ⟨rfl, hB⟩

set_option maxHeartbeats 1000000 in
theorem great_no (x p v c f : Int) (m : ByteArray) (s u g : Int) (ga : Option Addr) (gl gc : Nat) (ba : Option Addr) (bl bc : Nat) (w : World) (h : ¬ isGreat m gl bl) : Calls Tryd.prog 4 #[.agg #[.int .u32 x, .int .u32 p, .int .u32 v, .int .u32 c, .int .u32 f, .string m, .int .u32 s, .int .u32 u, .int .u32 g, .slice ga gl gc, .slice ba bl bc]] w fun e w' => e = .returned (.bool false) ∧ Below w.heap.size w w' := by
  have hB : Below w.heap.size w (w.alloc (.cells #[.int .u32 x, .int .u32 p, .int .u32 v, .int .u32 c, .int .u32 f, .string m, .int .u32 s, .int .u32 u, .int .u32 g, .slice ga gl gc, .slice ba bl bc] 28)) := (Below.refl _ _).alloc (Nat.le_refl _) _
  have h1 : ¬ (5000 : Int) < m.size := fun k => h (.inl (by omega))
  have h2 : ¬ (1000 : Int) < gl := fun k => h (.inr (.inl (by omega)))
  have h3 : ¬ (200000 : Int) < bl := fun k => h (.inr (.inr (by omega)))
  have hm : m.size ≤ 5000 := by omega
  have hg : gl ≤ 1000 := by omega
  have hb : bl ≤ 200000 := by omega
  clear h
  go_enter Tryd.func4, Tryd.ntmps4
  go_wp2
  go_ret
  exact ⟨rfl, hB⟩
end Go.Proofs.YtciinabhelfnoaaDoor

/- The document's Pad: how many bytes more than so many the next multiple of four is; 0 below 0; nothing turns. -/
namespace Go.Proofs.YtciinabhelfnoaaDoor
set_option linter.unusedVariables false
open Go.RowKit

set_option maxRecDepth 100000 in
set_option maxHeartbeats 400000 in
theorem refpad_nat (n : Nat) (w : World) (hn : n ≤ 9223372036854775807) :
    Calls Tryd.prog 75 #[.int .i64 (n : Int)] w fun e w' => e = .returned (.int .i64 (padN n : Nat)) ∧ w' = w := by
  have hp := padN_lt n
  have hpe : padN n = (4 - n % 4) % 4 := rfl
  have hg : decide (0 ≤ (n : Int)) = true := by simp
  generalize padN n = p at *
  go_enter Tryd.func75, Tryd.ntmps75
  go_wp2
  go_loop [3] (fun v => ∃ k : Nat, k ≤ p ∧ v = .int .i64 k) (fun v => p - (intOf v).toNat)
  case atStart => exact ⟨0, by omega, rfl⟩
  case round =>
    obtain ⟨k, hk, rfl⟩ := hrel
    by_cases hlt : k < p
    · have hq : ((((n : Int) % 4 + (k : Int)) % 4) != 0) = true := by simp; omega
      go_wp2
      go_round
      case rel => exact ⟨k + 1, by omega, by go_num⟩
      case measure => simp [intOf]; omega
    · obtain rfl : k = p := by omega
      have hq : ((((n : Int) % 4 + (k : Int)) % 4) != 0) = false := by simp; omega
      go_wp2
      go_ret
      exact ⟨rfl, rfl⟩

set_option maxRecDepth 100000 in
set_option maxHeartbeats 400000 in
theorem refpad_neg (n : Int) (w : World) (hn : n < 0) (hm : -9223372036854775808 ≤ n) :
    Calls Tryd.prog 75 #[.int .i64 n] w fun e w' => e = .returned (.int .i64 0) ∧ w' = w := by
  have hg : decide (0 ≤ n) = false := by simp; omega
  go_enter Tryd.func75, Tryd.ntmps75
  go_wp2
  refine wp_loop_rounds 1 ?_
  rw [rounds_succ]
  go_wp2
  go_ret
  exact ⟨rfl, rfl⟩
end Go.Proofs.YtciinabhelfnoaaDoor

/- The document's Put: the bytes of a number, in memory of their own; nothing that was there turns. -/
namespace Go.Proofs.YtciinabhelfnoaaDoor
set_option linter.unusedVariables false
open Go.RowKit

theorem infoU8r : (Tryd.prog.info? 5).map (fun i => (i.zero, i.size, i.bytes)) = some (some (.int .u8 0), 1, 1) := by kernel_rfl

theorem bytes4 (n : Int) : bytesOf n 4 = [n / 16777216 % 256, n / 65536 % 256, n / 256 % 256, n % 256] := by
  simp [bytesOf, byteAt, List.range_succ]

set_option maxHeartbeats 400000 in
theorem refPut_any (n : Int) (h0 : 0 ≤ n) (h1 : n ≤ 4294967295) (w : World) :
    Calls Tryd.prog 19 #[.int .u32 n] w fun e W' => e = .returned (.slice (some ⟨w.heap.size, 0, none⟩) 4 4) ∧ W' = w.alloc (.cells ((bytesOf n 4).map (Value.int .u8)).toArray 5) := by
  have e1 : n / 16777216 % 256 = n / 16777216 := by omega
  rw [bytes4]
  go_enter Tryd.func19, Tryd.ntmps19
  go_wp2
  go_ret
  refine ⟨rfl, ?_⟩
  simp [e1]

theorem refPut_seg (n : Int) (h0 : 0 ≤ n) (h1 : n ≤ 4294967295) (w : World) :
    Calls Tryd.prog 19 #[.int .u32 n] w fun e W' => ∃ g, e = .returned (.slice (some ⟨g, 0, none⟩) 4 4) ∧ Seg W' (some ⟨g, 0, none⟩) (bytesOf n 4) ∧ Below w.heap.size w W' := by
  refine (refPut_any n h0 h1 w).mono ?_
  rintro e W' ⟨rfl, rfl⟩
  exact ⟨_, rfl, seg_lit _ _ _, (Below.refl _ _).alloc (Nat.le_refl _) _⟩
end Go.Proofs.YtciinabhelfnoaaDoor
