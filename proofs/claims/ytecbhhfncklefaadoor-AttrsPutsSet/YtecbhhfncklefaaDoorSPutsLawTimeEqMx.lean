/- The walk of 'AttrsPutsSet', from what the program's Put answers (a hypothesis): true for what is to be set; nothing that was there turns. -/
import Derived.Test.YtecbhhfncklefaaDoorAForms
import Derived.Test.YtecbhhfncklefaaDoorSCell
import Derived.Test.YtecbhhfncklefaaDoorTwoLaw
import Derived.Test.YtecbhhfncklefaaDoorTimeMath
import Derived.Test.YtecbhhfncklefaaDoorRows
import Derived.Test.YtecbhhfncklefaaDoorBookBase
import Derived.ChangeKeysEq
import Derived.RangeFuncRecord
import Derived.Laws.Rows
import Derived.Deep.RegionLaw
import Derived.Deep.RegionHeld3
namespace Go.Proofs.YtecbhhfncklefaaDoor
set_option linter.unusedVariables false
open Go.RowKit

set_option maxRecDepth 100000 in
set_option maxHeartbeats 2000000 in
theorem sputs_walk (hput : SPut 9) (href : SPut 10) (x : Stt) (w : World) (hx : x.In) :
    Calls Tryd.prog 4 #[.agg #[.bool x.hm, .int .u32 x.mode, .bool x.hu, .int .u32 x.user, .bool x.hg, .int .u32 x.group, .bool x.hs, .int .u64 x.size, .int .u32 x.rh, .int .u32 x.rs, .int .u32 x.rn, .int .u32 x.wh, .int .u32 x.ws, .int .u32 x.wn]] w fun e w' => e = .returned (.bool true) ∧ Below w.heap.size w w' := by
  have a0 := Sp.new w x
  have hB0 : Below w.heap.size w (w.alloc (.cells #[.bool x.hm, .int .u32 x.mode, .bool x.hu, .int .u32 x.user, .bool x.hg, .int .u32 x.group, .bool x.hs, .int .u64 x.size, .int .u32 x.rh, .int .u32 x.rs, .int .u32 x.rn, .int .u32 x.wh, .int .u32 x.ws, .int .u32 x.wn] 37)) := (Below.refl _ _).alloc (Nat.le_refl _) _
  have hp := fun W => hput x W hx
  have hr := fun W => href x W hx
  have hl : (paZ (smay x) (sB x)).length ≤ 1000 := by unfold paZ; split; · have := sB_le x; omega
                                                      · simp
  obtain ⟨q, hq⟩ : ∃ q, (paZ (smay x) (sB x)).length = q := ⟨_, rfl⟩
  rw [hq] at hl
  simp only [hq] at hp hr
  generalize paZ (smay x) (sB x) = zs at *
  generalize paE (smay x) = E at *
  have hE : (E == E) = true := by simp
  obtain ⟨c0, c1, c2, c3, c4, c5, c6, c7, c8, c9, c10, c11, c12, c13⟩ := a0.c
  go_enter Tryd.func4, Tryd.ntmps4
  go_wp2_with fail
  generalize (w.alloc (.cells #[.bool x.hm, .int .u32 x.mode, .bool x.hu, .int .u32 x.user, .bool x.hg, .int .u32 x.group, .bool x.hs, .int .u64 x.size, .int .u32 x.rh, .int .u32 x.rs, .int .u32 x.rn, .int .u32 x.wh, .int .u32 x.ws, .int .u32 x.wn] 37)) = w1 at *
  refine (hp w1).mono ?_
  rintro e w2 ⟨vx, rfl, ox, hb2⟩
  have hxl : ∀ k, vx.ownBlock = some k → w1.heap.size ≤ k ∧ k < w2.heap.size := fun k hk => own_lt ox hk
  have hB2 := hB0.trans (hb2.mono hB0.size)
  have a2 := a0.next hb2
  replace ox := own_base ox hB0.size
  clear hb2 hB0 a0 c0 c1 c2 c3 c4 c5 c6 c7 c8 c9 c10 c11 c12 c13
  obtain ⟨c0, c1, c2, c3, c4, c5, c6, c7, c8, c9, c10, c11, c12, c13⟩ := a2.c
  go_wp2_with fail
  refine (hp w2).mono ?_
  rintro e w3 ⟨vy, rfl, oy, hb3⟩
  have hyl : ∀ k, vy.ownBlock = some k → w2.heap.size ≤ k ∧ k < w3.heap.size := fun k hk => own_lt oy hk
  have hB3 := hB2.trans (hb3.mono hB2.size)
  have a3 := a2.next hb3
  replace oy := own_base oy hB2.size
  replace ox := own_below ox hb3
  clear hb3 hB2 a2 hp c0 c1 c2 c3 c4 c5 c6 c7 c8 c9 c10 c11 c12 c13
  obtain ⟨c0, c1, c2, c3, c4, c5, c6, c7, c8, c9, c10, c11, c12, c13⟩ := a3.c
  go_wp2_with fail
  refine (hr w3).mono ?_
  rintro e w4 ⟨vz, rfl, oz, hb4⟩
  have hB4 := hB3.trans (hb4.mono hB3.size)
  replace oz := own_base oz hB3.size
  replace ox := own_below ox hb4
  replace oy := own_below oy hb4
  obtain ⟨ax, cx, rfl, _, _⟩ := got_val ox hq
  obtain ⟨ay, cy, rfl, _, _⟩ := got_val oy hq
  obtain ⟨az, cz, rfl, _, _⟩ := got_val oz hq
  have K4 : Kp w [⟨ax, q, cx, 1, zs⟩, ⟨ay, q, cy, 2, zs⟩, ⟨az, q, cz, 3, zs⟩] w4 := ⟨hB4, lists3 ox oy oz⟩
  have hA : Apt [⟨ax, q, cx, 1, zs⟩, ⟨ay, q, cy, 2, zs⟩] := apt2 (fun k hk hk2 => by have := hxl k hk; have := hyl k hk2; omega)
  clear ox oy oz hxl hyl hB3 hB4 hb4 a3 hr c0 c1 c2 c3 c4 c5 c6 c7 c8 c9 c10 c11 c12 c13
  go_wp2_with fail
  refine (two_any w4 hq (by omega) K4 hA).mono ?_
  rintro e w5 ⟨rfl, hfin⟩
  clear K4
  go_wp2
  go_ret
  exact ⟨rfl, hfin⟩
end Go.Proofs.YtecbhhfncklefaaDoor

/- Two points of time: alike or not; a point of time in a block; 'Check' of the program; nothing that was there turns. -/
namespace Go.Proofs.YtecbhhfncklefaaDoor
set_option linter.unusedVariables false
open Go.RowKit

theorem time_eq (n g m k : Int) (w : World) : (Op.equalIn 10000 26 (.agg #[.int .u32 n, .int .u32 g]) (.agg #[.int .u32 m, .int .u32 k])).run Tryd.prog w = .ok ((n == m) && (g == k)) w := by
  cases e0 : (n == m) <;> cases e1 : (g == k) <;> simp [go_sem, e0, e1]
theorem time_eql (n g m k : Int) (w : World) : (binOp .eql 26 (.agg #[.int .u32 n, .int .u32 g]) (.agg #[.int .u32 m, .int .u32 k])).run Tryd.prog w = .ok (.bool ((n == m) && (g == k))) w := by
  rw [run_eql_struct, time_eq]; rfl
theorem time_neq (n g m k : Int) (w : World) : (binOp .neq 26 (.agg #[.int .u32 n, .int .u32 g]) (.agg #[.int .u32 m, .int .u32 k])).run Tryd.prog w = .ok (.bool (!((n == m) && (g == k)))) w := by
  rw [run_neq_struct, time_eq]; rfl

theorem two_set {W : World} {k : Nat} {a b : Value} {t : TypeId} (h : W.heap[k]? = some (.cells #[a, b] t)) (x y : Value) : ((W.setCell ⟨k, 0, none⟩ x).setCell ⟨k, 1, none⟩ y).heap[k]? = some (.cells #[x, y] t) := by
  have h1 := setCell_same (k := 0) h x
  have h2 := setCell_same (k := 1) h1 y
  exact h2

/-- A point of time lies in a block. -/
def Tp (W : World) (h : Nat) (s n : Int) : Prop := W.heap[h]? = some (.cells #[.int .u32 s, .int .u32 n] 26)
theorem Tp.new (W : World) (s n : Int) : Tp (W.alloc (.cells #[.int .u32 s, .int .u32 n] 26)) W.heap.size s n := World.alloc_heap_new W _
theorem Tp.lt {W : World} {h : Nat} {s n : Int} (t : Tp W h s n) : h < W.heap.size := (Array.getElem?_eq_some_iff.1 t).1
theorem Tp.next {W W' : World} {h : Nat} {s n : Int} (t : Tp W h s n) (hb : Below W.heap.size W W') : Tp W' h s n := (hb.block _ t.lt).trans t
theorem Tp.alloc {W : World} {h : Nat} {s n : Int} (t : Tp W h s n) (o : Obj) : Tp (W.alloc o) h s n := t.next ((Below.refl _ _).alloc (Nat.le_refl _) o)
theorem Tp.c0 {W : World} {h : Nat} {s n : Int} (t : Tp W h s n) : W.cell? ⟨h, 0, none⟩ = some (.int .u32 s) := by simp [World.cell?, show W.heap[h]? = _ from t]
theorem Tp.c1 {W : World} {h : Nat} {s n : Int} (t : Tp W h s n) : W.cell? ⟨h, 1, none⟩ = some (.int .u32 n) := by simp [World.cell?, show W.heap[h]? = _ from t]
theorem below_draw (W : World) : Below W.heap.size W W.drew := ⟨rfl, rfl, rfl, Nat.le_refl _, fun _ _ => rfl⟩

set_option maxRecDepth 100000 in
set_option maxHeartbeats 400000 in
theorem tcheck_any (s n : Int) (w : World) : Calls Tryd.prog 80 #[.agg #[.int .u32 s, .int .u32 n]] w fun e w' => e = .returned (.bool (tok n)) ∧ Below w.heap.size w w' := by
  have hB1 : Below w.heap.size w (w.alloc (.cells #[.int .u32 s, .int .u32 n] 26)) := (Below.refl _ _).alloc (Nat.le_refl _) _
  go_enter Tryd.func80, Tryd.ntmps80
  go_wp2
  go_ret
  exact ⟨rfl, hB1⟩

end Go.Proofs.YtecbhhfncklefaaDoor
