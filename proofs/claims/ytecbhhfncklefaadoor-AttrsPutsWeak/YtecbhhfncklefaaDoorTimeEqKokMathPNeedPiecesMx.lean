/- Two points of time: alike or not; a point of time in a block; 'Check' of the program; nothing that was there turns. -/
import Derived.Test.YtecbhhfncklefaaDoorTimeMath
import Derived.Test.YtecbhhfncklefaaDoorRows
import Derived.Test.YtecbhhfncklefaaDoorBookBase
import Derived.ChangeKeysEq
import Derived.RangeFuncRecord
import Derived.Laws.Rows
import Derived.Deep.RegionLaw
import Derived.Deep.RegionHeld3
import Derived.Test.YtecbhhfncklefaaDoorAttrMath
import Derived.Defers
import Derived.Recover
import Derived.WalkSmall
import Derived.WalkLawsBesides
import Derived.Test.YtecbhhfncklefaaDoorBase
import Derived.ScopeJumps
namespace Go.Proofs.YtecbhhfncklefaaDoor
set_option linter.unusedVariables false
open Go.RowKit

theorem time_eq (n g m k : Int) (w : World) : (Op.equalIn 10000 26 (.agg #[.int .u32 n, .int .u32 g]) (.agg #[.int .u32 m, .int .u32 k])).run Tryd.prog w = .ok ((n == m) && (g == k)) w := by
  cases e0 : (n == m) <;> cases e1 : (g == k) <;> simp [go_sem, e0, e1]
theorem time_eql (n g m k : Int) (w : World) : (binOp .eql 26 (.agg #[.int .u32 n, .int .u32 g]) (.agg #[.int .u32 m, .int .u32 k])).run Tryd.prog w = .ok (.bool ((n == m) && (g == k))) w := by
  rw [run_eql_struct, time_eq]; rfl
theorem time_neq (n g m k : Int) (w : World) : (binOp .neq 26 (.agg #[.int .u32 n, .int .u32 g]) (.agg #[.int .u32 m, .int .u32 k])).run Tryd.prog w = .ok (.bool (!((n == m) && (g == k)))) w := by
  rw [run_neq_struct, time_eq]; rfl

theorem two_set {W : World} {k : Nat} {a b : Value} {t : TypeId} (h : W.heap[k]? = some (.cells #[a, b] t)) (x y : Value) : ((W.setCell ⟨k, 0, none⟩ x).setCell ⟨k, 1, none⟩ y).heap[k]? = some (.cells #[x, y] t) := by
  have h1 := setCell_same (k := 0) h x
  have h2 := setCell_same (k := 1) h1 y
  exact h2

/-- A point of time lies in a block. -/
def Tp (W : World) (h : Nat) (s n : Int) : Prop := W.heap[h]? = some (.cells #[.int .u32 s, .int .u32 n] 26)
theorem Tp.new (W : World) (s n : Int) : Tp (W.alloc (.cells #[.int .u32 s, .int .u32 n] 26)) W.heap.size s n := World.alloc_heap_new W _
theorem Tp.lt {W : World} {h : Nat} {s n : Int} (t : Tp W h s n) : h < W.heap.size := (Array.getElem?_eq_some_iff.1 t).1
theorem Tp.next {W W' : World} {h : Nat} {s n : Int} (t : Tp W h s n) (hb : Below W.heap.size W W') : Tp W' h s n := (hb.block _ t.lt).trans t
theorem Tp.alloc {W : World} {h : Nat} {s n : Int} (t : Tp W h s n) (o : Obj) : Tp (W.alloc o) h s n := t.next ((Below.refl _ _).alloc (Nat.le_refl _) o)
theorem Tp.c0 {W : World} {h : Nat} {s n : Int} (t : Tp W h s n) : W.cell? ⟨h, 0, none⟩ = some (.int .u32 s) := by simp [World.cell?, show W.heap[h]? = _ from t]
theorem Tp.c1 {W : World} {h : Nat} {s n : Int} (t : Tp W h s n) : W.cell? ⟨h, 1, none⟩ = some (.int .u32 n) := by simp [World.cell?, show W.heap[h]? = _ from t]
theorem below_draw (W : World) : Below W.heap.size W W.drew := ⟨rfl, rfl, rfl, Nat.le_refl _, fun _ _ => rfl⟩

set_option maxRecDepth 100000 in
set_option maxHeartbeats 400000 in
theorem tcheck_any (s n : Int) (w : World) : Calls Tryd.prog 80 #[.agg #[.int .u32 s, .int .u32 n]] w fun e w' => e = .returned (.bool (tok n)) ∧ Below w.heap.size w w' := by
  have hB1 : Below w.heap.size w (w.alloc (.cells #[.int .u32 s, .int .u32 n] 26)) := (Below.refl _ _).alloc (Nat.le_refl _) _
  go_enter Tryd.func80, Tryd.ntmps80
  go_wp2
  go_ret
  exact ⟨rfl, hB1⟩

end Go.Proofs.YtecbhhfncklefaaDoor

/- Of which kind may a node be? Plain mathematics. -/
namespace Go.Proofs.YtecbhhfncklefaaDoor
set_option linter.unusedVariables false

theorem kok_cases {k : Int} : ((k == 1) = true ∧ kok k = true) ∨ ((k == 1) = false ∧ (k == 2) = true ∧ kok k = true) ∨ ((k == 1) = false ∧ (k == 2) = false ∧ (k == 5) = true ∧ kok k = true) ∨ ((k == 1) = false ∧ (k == 2) = false ∧ (k == 5) = false ∧ kok k = false) := by
  by_cases h1 : k = 1
  · exact .inl ⟨by simp [h1], by simp [kok, h1]⟩
  · by_cases h2 : k = 2
    · exact .inr (.inl ⟨by simp [h1], by simp [h2], by simp [kok, h2]⟩)
    · by_cases h5 : k = 5
      · exact .inr (.inr (.inl ⟨by simp [h1], by simp [h2], by simp [h5], by simp [kok, h5]⟩))
      · exact .inr (.inr (.inr ⟨by simp [h1], by simp [h2], by simp [h5], by simp [kok, h1, h2, h5]⟩))

end Go.Proofs.YtecbhhfncklefaaDoor

/- 'need', 'isKind', 'leftOff' of the program: the first error leaves a call off, and is told; nothing turns. -/
namespace Go.Proofs.YtecbhhfncklefaaDoor
set_option linter.unusedVariables false
open Go.RowKit

/-- A call that was left off with this error. -/
def bad (e : Int) : List PanicEntry := [{ v := .iface 30 (.int .i64 e), recovered := false }]
/-- The ending of a call that answers v, or was left off with the error e. -/
def Ends (e : Int) (v : Value) : Ending := if e = 0 then .returned v else .panicked (bad e)
theorem ends_ok (v : Value) : Ends 0 v = .returned v := rfl
theorem ends_bad {e : Int} (h : e ≠ 0) (v : Value) : Ends e v = .panicked (bad e) := by unfold Ends; rw [if_neg h]

theorem need_yes (x : Int) (w : World) : Calls Tryd.prog 65 #[.bool true, .int .i64 x] w fun e w' => e = .returned (.tuple #[]) ∧ w' = w := by
  go_enter Tryd.func65, Tryd.ntmps65
  go_wp2
  go_end0
  exact ⟨rfl, rfl⟩

theorem need_no (x : Int) (w : World) : Calls Tryd.prog 65 #[.bool false, .int .i64 x] w fun e w' => e = .panicked (bad x) ∧ w' = w := by
  go_enter Tryd.func65, Tryd.ntmps65
  go_wp2
  exact ⟨rfl, rfl, rfl⟩

theorem iskind_any (k : Int) (w : World) : Calls Tryd.prog 78 #[.int .u32 k] w fun e w' => e = .returned (.bool (kok k)) ∧ w' = w := by
  rcases kok_cases (k := k) with ⟨q1, r⟩ | ⟨q1, q2, r⟩ | ⟨q1, q2, q5, r⟩ | ⟨q1, q2, q5, r⟩ <;> rw [r] <;> clear r
  · go_enter Tryd.func78, Tryd.ntmps78
    go_wp2
    go_ret
    exact ⟨rfl, rfl⟩
  · go_enter Tryd.func78, Tryd.ntmps78
    go_wp2
    go_ret
    exact ⟨rfl, rfl⟩
  · go_enter Tryd.func78, Tryd.ntmps78
    go_wp2
    go_ret
    exact ⟨rfl, rfl⟩
  · go_enter Tryd.func78, Tryd.ntmps78
    go_wp2
    go_ret
    exact ⟨rfl, rfl⟩

theorem leftoff_none (w : World) : Calls Tryd.prog 36 #[.nilIface] w fun e w' => e = .returned (.int .i64 0) ∧ w' = w := by
  go_enter Tryd.func36, Tryd.ntmps36
  go_wp2
  go_ret
  exact ⟨rfl, rfl⟩

set_option maxRecDepth 100000 in
theorem leftoff_some (x : Int) (w : World) : Calls Tryd.prog 36 #[.iface 30 (.int .i64 x)] w fun e w' => e = .returned (.int .i64 x) ∧ w' = w := by
  have hta : ∀ w : World, (Instr.typeAssert (.iface 30 (.int .i64 x)) 20 30 true).run Tryd.prog w = .ok (.tuple #[.int .i64 x, .bool true]) w := fun w => by
    simp [Instr.typeAssert, go_sem]
  go_enter Tryd.func36, Tryd.ntmps36
  go_wp2
  go_ret
  exact ⟨rfl, rfl⟩
end Go.Proofs.YtecbhhfncklefaaDoor

/- Pieces of bytes, slices that are owned, cells: plain words; nothing is claimed of the program here. -/
namespace Go.Proofs.YtecbhhfncklefaaDoor
set_option linter.unusedVariables false
open Go.RowKit

theorem jump_ret {l : Nat} {J : Act → World → Prop} {Q : Exit → Act → World → Prop} {a : Act} {w : World} : Exit.jump l J Q .ret a w = Q .ret a w := rfl

theorem Seg.drop {w : World} {b off : Nat} {zs : List Int} (h : Seg w (some ⟨b, off, none⟩) zs) (n : Nat) : Seg w (some ⟨b, off + n, none⟩) (zs.drop n) := by
  rcases h with h | ⟨b', off', e, hc⟩
  · exact .inl (by simp [h])
  · cases e
    refine .inr ⟨_, _, rfl, fun i hi => ?_⟩
    rw [List.length_drop] at hi
    rw [List.getElem?_drop, Nat.add_assoc]
    exact hc (n + i) (by omega)

theorem Byt.drop {zs : List Int} (h : Byt zs) (n : Nat) : Byt (zs.drop n) := by
  intro i
  rw [List.getElem?_drop]
  exact h _

theorem own_empty (w : World) (base e : Nat) : w.ownsRow base e 1 (.slice none 0 0) 0 [] := ⟨rfl, .inl ⟨rfl, rfl⟩⟩

/-- A slice of bytes that lie somewhere. -/
structure Part where
  a : Option Addr
  len : Nat
  cap : Nat
  zs : List Int

def Part.v (p : Part) : Value := .slice p.a p.len p.cap

structure Part.In (p : Part) (w : World) : Prop where
  len : p.zs.length = p.len
  seg : Seg w p.a p.zs
  nil : p.a = none → p.len = 0 ∧ p.cap = 0

theorem own_low {w : World} {base e size n k : Nat} {v : Value} {xs : List Value} (h : w.ownsRow base e size v n xs) (hk : v.ownBlock = some k) : base ≤ k := by
  rcases h.2 with ⟨rfl, _⟩ | ⟨g, _, _, rfl, hg, _⟩
  · simp [Value.ownBlock] at hk
  · simp [Value.ownBlock] at hk
    omega

/-- What is owned is a slice of so many, and its bytes lie there. -/
theorem own_val {w : World} {base e n : Nat} {v : Value} {zs : List Int} (h : w.ownsRow base e 1 v n (zs.map (Value.int .u8))) (hz : zs.length = n) : ∃ a c, v = .slice a n c ∧ Seg w a zs ∧ n ≤ c ∧ c ≤ 9223372036854775807 ∧ (a = none → n = 0 ∧ c = 0) := by
  rcases h.2 with ⟨rfl, h0⟩ | ⟨g, cap, cur, rfl, hg, hh, h1, h2, r⟩
  · subst h0
    exact ⟨none, 0, rfl, .inl (List.length_eq_zero_iff.1 hz), by omega, by omega, fun _ => ⟨rfl, rfl⟩⟩
  · exact ⟨_, cap, rfl, seg_own h hz, h1, by unfold maxLen at h2; omega, by simp⟩

theorem cell_pair (w : World) (t : TypeId) (x y : Nat) : ∀ i, (h : i < [x, y].length) → (w.alloc (.cells #[.int .i64 (x : Int), .int .i64 (y : Int)] t)).cell? ⟨w.heap.size, i, none⟩ = some (.int .i64 ([x, y][i] : Nat)) := by
  intro i hi
  match i, hi with
  | 0, _ => simp
  | 1, _ => simp

theorem cell_lone (w : World) (t : TypeId) (x : Nat) : ∀ i, (h : i < [x].length) → (w.alloc (.cells #[.int .i64 (x : Int)] t)).cell? ⟨w.heap.size, i, none⟩ = some (.int .i64 ([x][i] : Nat)) := by
  intro i hi
  match i, hi with
  | 0, _ => simp

theorem own_mem {w : World} {base e g n cap : Nat} {zs : List Int} (h : w.ownsRow base e 1 (.slice (some ⟨g, 0, none⟩) n cap) n (zs.map (Value.int .u8))) (hz : zs.length = n) : (Part.mk (some ⟨g, 0, none⟩) n cap zs).In w :=
  ⟨hz, seg_own h hz, by simp⟩

theorem Part.In.below {p : Part} {w w' : World} (h : p.In w) (hb : Below w.heap.size w w') : p.In w' := ⟨h.len, h.seg.below hb, h.nil⟩

theorem full_own {w : World} {base e g n : Nat} {xs : List Value} (h : w.heap[g]? = some (.cells xs.toArray e (0, 0))) (hb : base ≤ g) (hn : xs.length = n) (hm : n ≤ maxLen) : w.ownsRow base e 1 (.slice (some ⟨g, 0, none⟩) n n) n xs :=
  ⟨by omega, .inr ⟨g, n, xs.toArray, rfl, hb, h, Nat.le_refl _, hm, by simp [hn], by simp [← hn]⟩⟩
end Go.Proofs.YtecbhhfncklefaaDoor
