/- 'rows': the map of all rows, laid anew; how its elements read. -/
import Derived.Test.YtmjhgpmeikpbkaaDoorRows
import Derived.Test.YtmjhgpmeikpbkaaDoorBase
import Derived.Maps.RangeWalk
import Derived.Outline
namespace Go.Proofs.YtmjhgpmeikpbkaaDoor
set_option linter.unusedVariables false
open Go.RowKit Go.Maps

/-- The variable that is laid. -/
structure Any (w : World) : Prop where
  c0 : w.cell? ⟨0, 0, none⟩ = some (.int .u32 0)
  c1 : w.cell? ⟨0, 1, none⟩ = some (.int .u32 4294967295)
theorem Any.below {w w' : World} (h : Any w) (hb : Below w.heap.size w w') : Any w' := by
  have h0 : 0 < w.heap.size := World.block_lt_of_cell? _ _ h.c0
  exact ⟨(hb.cell (p := ⟨0, 0, none⟩) h0).trans h.c0, (hb.cell (p := ⟨0, 1, none⟩) h0).trans h.c1⟩
theorem Any.pos {w : World} (h : Any w) : 0 < w.heap.size := World.block_lt_of_cell? _ _ h.c0

/-- What stands in the row of a How (999: in none). -/
def fx0 (h : Int) : Int := if h = 100 ∨ h = 101 then 1 else 0
def fx1 (h : Int) : Int := if h = 101 then 1 else 0
def fx3 (h : Int) : Int := if h = 1 ∨ h = 2 ∨ h = 3 ∨ h = 4 then h else 0
def mny (h : Int) : Int := if h = 100 ∨ h = 101 then 2 else if h = 999 then 0 else 4
def lo0 (h : Int) : Int := if h = 101 then 1 else 0
def lo1 (h : Int) : Int := if h = 101 then 7 else if h = 2 ∨ h = 100 then 4294967295 else 0
def hi1 (h : Int) : Int := if h = 2 ∨ h = 100 then 4294967295 else 0
def bod (h : Int) : Bool := h == 0

abbrev rowV (h : Int) : Value :=
  .agg #[.int .u32 (fx0 h), .int .u32 (fx1 h), .int .u32 0, .int .u32 (fx3 h), .int .i64 (mny h), .int .u32 (lo0 h), .int .u32 (lo1 h), .int .u32 0, .int .u32 (hi1 h), .bool (bod h)]

def hows : List Int := [0, 1, 2, 3, 4, 100, 101]
def howsZ : List Int := [0, 1, 2, 3, 4, 100, 101, 999]

/-- A row's How, read off it. -/
def hash (h : Int) : Int := fx0 h + 10 * fx1 h + 100 * fx3 h + 1000 * mny h
theorem hash_inj : ∀ a ∈ howsZ, ∀ b ∈ howsZ, hash a = hash b → a = b := by decide

theorem rowV_inj {a b : Int} (ha : a ∈ howsZ) (hb : b ∈ howsZ) (h : rowV a = rowV b) : a = b := by
  refine hash_inj a ha b hb ?_
  simp only [rowV, Value.agg.injEq, Array.mk.injEq, List.cons.injEq, Value.int.injEq, true_and, and_true] at h
  obtain ⟨h0, h1, h3, h4, _⟩ := h
  unfold hash
  rw [h0, h1, h3, h4]

open Classical in
/-- How an element reads. -/
noncomputable def rowR (v : Value) : Option (DataW Unit × List MemPlace) := if h : ∃ a, a ∈ howsZ ∧ v = rowV a then some (.lit (.int .u32 h.choose), []) else none

theorem rowR_mk {a : Int} (ha : a ∈ howsZ) : rowR (rowV a) = some (.lit (.int .u32 a), []) := by
  have h : ∃ b, b ∈ howsZ ∧ rowV a = rowV b := ⟨a, ha, rfl⟩
  unfold rowR
  rw [dif_pos h]
  have := h.choose_spec
  rw [← rowV_inj ha this.1 this.2]

theorem rowR_inv {v : Value} {y : DataW Unit × List MemPlace} (h : rowR v = some y) : ∃ a, a ∈ howsZ ∧ v = rowV a ∧ y = (.lit (.int .u32 a), []) := by
  unfold rowR at h
  split at h
  · rename_i hx
    have := hx.choose_spec
    exact ⟨_, this.1, this.2, (Option.some.inj h).symm⟩
  · cases h

/-- The datum of a map that has these rows. -/
def Dp (L : List Int) : DataW Unit := .map (L.map fun a => (Lit.int .u32 a, .lit (.int .u32 a)))

theorem lawA : Keyed Tryd.prog 23 := int_keyed Tryd.underlying23

/-- An entry of a map that is written out. -/
theorem wpList_insert_own {H : Type} {P : Program} (w : World) {ops : Array Oper} {rest : List Oper} {o : Oper} {a : Act} {Q : Exit → Act → World → Prop}
    (hg : o.guard = none) (m x v : Operand) (t : TypeId) (hop : o.op = Op.insert t m x v)
    (k e : TypeId) (K : Keyed P k) (ht : P.underlying t = some (.map k e)) (R : Value → Option (DataW H × List MemPlace)) (b n : Nat) (D : DataW H)
    (hm : a.eval m = .map (some b)) (hown : w.ownsMap P k R b n D) (hn : n < maxLen) (key val : Value) (kl : Lit) (hx : a.eval x = key) (hv : a.eval v = val) (hkey : keyOf P k key = some kl)
    (d : DataW H) (ps : List MemPlace) (hval : R val = some (d, ps))
    (hK : ∀ w', w'.ownsMap P k R b (n + 1) (D.put kl d) → w.grownBy w' (some b) → wpList P ops Q rest (a.put o.dst undef) w') :
    wpList P ops Q (o :: rest) a w := by
  refine wpList_plain hg fun K' hK' => ?_
  obtain ⟨w', hrun, r1, r2⟩ := hown.update K ht hn hkey hval
  unfold Oper.wp
  simp [execOp, hop, hm, hx, hv, hrun, Result.andThen]
  exact hK' _ _ (hK w' r1 r2)

theorem below_grown {w w1 : World} {b : Nat} (h : w.grownBy w1 (some b)) {base : Nat} (hb : base ≤ b) (hs : base ≤ w.heap.size) : Below base w w1 := (Below.refl _ _).grown h hs (fun k e => by cases e; exact hb)

theorem keyA {x : Int} (h0 : 0 ≤ x) (h1 : x ≤ 4294967295) : keyOf Tryd.prog 23 (.int .u32 x) = some (.int .u32 x) :=
  keyOf_int_mk Tryd.underlying23 (by simp [Lit.wf, IntKind.min, IntKind.max, IntKind.bits, IntKind.signed]; omega)

theorem rowR_0 : rowR (.agg #[.int .u32 0, .int .u32 0, .int .u32 0, .int .u32 0, .int .i64 4, .int .u32 0, .int .u32 0, .int .u32 0, .int .u32 0, .bool true]) = some (.lit (.int .u32 0), []) := rowR_mk (a := 0) (by decide)
theorem rowR_1 : rowR (.agg #[.int .u32 0, .int .u32 0, .int .u32 0, .int .u32 1, .int .i64 4, .int .u32 0, .int .u32 0, .int .u32 0, .int .u32 0, .bool false]) = some (.lit (.int .u32 1), []) := rowR_mk (a := 1) (by decide)
theorem rowR_2 : rowR (.agg #[.int .u32 0, .int .u32 0, .int .u32 0, .int .u32 2, .int .i64 4, .int .u32 0, .int .u32 4294967295, .int .u32 0, .int .u32 4294967295, .bool false]) = some (.lit (.int .u32 2), []) := rowR_mk (a := 2) (by decide)
theorem rowR_3 : rowR (.agg #[.int .u32 0, .int .u32 0, .int .u32 0, .int .u32 3, .int .i64 4, .int .u32 0, .int .u32 0, .int .u32 0, .int .u32 0, .bool false]) = some (.lit (.int .u32 3), []) := rowR_mk (a := 3) (by decide)
theorem rowR_4 : rowR (.agg #[.int .u32 0, .int .u32 0, .int .u32 0, .int .u32 4, .int .i64 4, .int .u32 0, .int .u32 0, .int .u32 0, .int .u32 0, .bool false]) = some (.lit (.int .u32 4), []) := rowR_mk (a := 4) (by decide)
theorem rowR_100 : rowR (.agg #[.int .u32 1, .int .u32 0, .int .u32 0, .int .u32 0, .int .i64 2, .int .u32 0, .int .u32 4294967295, .int .u32 0, .int .u32 4294967295, .bool false]) = some (.lit (.int .u32 100), []) := rowR_mk (a := 100) (by decide)
theorem rowR_101 : rowR (.agg #[.int .u32 1, .int .u32 1, .int .u32 0, .int .u32 0, .int .i64 2, .int .u32 1, .int .u32 7, .int .u32 0, .int .u32 0, .bool false]) = some (.lit (.int .u32 101), []) := rowR_mk (a := 101) (by decide)
theorem rowR_z : rowR (.agg #[.int .u32 0, .int .u32 0, .int .u32 0, .int .u32 0, .int .i64 0, .int .u32 0, .int .u32 0, .int .u32 0, .int .u32 0, .bool false]) = some (.lit (.int .u32 999), []) := rowR_mk (a := 999) (by decide)

set_option maxRecDepth 100000 in
set_option maxHeartbeats 4000000 in
theorem rows_any (w : World) (ha : Any w) : Calls Tryd.prog 25 #[] w fun e w' => e = .returned (.map (some w.heap.size)) ∧ w'.ownsMap Tryd.prog 23 rowR w.heap.size 7 (Dp hows) ∧ Below w.heap.size w w' := by
  have hmm := @run_makeMap Tryd.prog
  go_enter Tryd.func25, Tryd.ntmps25
  have hown0 := World.ownsMap_made w Tryd.prog 23 rowR
  have hB0 : Below w.heap.size w (w.alloc (.map #[] 0)) := (Below.refl _ _).alloc (Nat.le_refl _) _
  go_wp2_with (first
    | (refine wpList_insert_own _ rfl _ _ _ 59 rfl 23 57 lawA Tryd.underlying59 rowR w.heap.size 0 _ rfl hown0 (by unfold maxLen; omega) _ _ _ rfl rfl (keyA (x := 0) (by decide) (by decide)) _ [] rowR_0 ?_; intro w1 hown1 hg1; replace hB0 := hB0.trans (below_grown hg1 (Nat.le_refl _) hB0.size); have hB1 := hB0; have c0 := (ha.below hB1).c0; have c1 := (ha.below hB1).c1; clear hown0 hg1 hB0)
    | (refine wpList_insert_own _ rfl _ _ _ 59 rfl 23 57 lawA Tryd.underlying59 rowR w.heap.size 1 _ rfl hown1 (by unfold maxLen; omega) _ _ _ rfl rfl (keyA (x := 1) (by decide) (by decide)) _ [] rowR_1 ?_; intro w2 hown2 hg2; replace hB1 := hB1.trans (below_grown hg2 (Nat.le_refl _) hB1.size); have hB2 := hB1; have c0 := (ha.below hB2).c0; have c1 := (ha.below hB2).c1; clear hown1 hg2 hB1)
    | (refine wpList_insert_own _ rfl _ _ _ 59 rfl 23 57 lawA Tryd.underlying59 rowR w.heap.size 2 _ rfl hown2 (by unfold maxLen; omega) _ _ _ rfl rfl (keyA (x := 2) (by decide) (by decide)) _ [] rowR_2 ?_; intro w3 hown3 hg3; replace hB2 := hB2.trans (below_grown hg3 (Nat.le_refl _) hB2.size); have hB3 := hB2; have c0 := (ha.below hB3).c0; have c1 := (ha.below hB3).c1; clear hown2 hg3 hB2)
    | (refine wpList_insert_own _ rfl _ _ _ 59 rfl 23 57 lawA Tryd.underlying59 rowR w.heap.size 3 _ rfl hown3 (by unfold maxLen; omega) _ _ _ rfl rfl (keyA (x := 3) (by decide) (by decide)) _ [] rowR_3 ?_; intro w4 hown4 hg4; replace hB3 := hB3.trans (below_grown hg4 (Nat.le_refl _) hB3.size); have hB4 := hB3; have c0 := (ha.below hB4).c0; have c1 := (ha.below hB4).c1; clear hown3 hg4 hB3)
    | (refine wpList_insert_own _ rfl _ _ _ 59 rfl 23 57 lawA Tryd.underlying59 rowR w.heap.size 4 _ rfl hown4 (by unfold maxLen; omega) _ _ _ rfl rfl (keyA (x := 4) (by decide) (by decide)) _ [] rowR_4 ?_; intro w5 hown5 hg5; replace hB4 := hB4.trans (below_grown hg5 (Nat.le_refl _) hB4.size); have hB5 := hB4; have c0 := (ha.below hB5).c0; have c1 := (ha.below hB5).c1; clear hown4 hg5 hB4)
    | (refine wpList_insert_own _ rfl _ _ _ 59 rfl 23 57 lawA Tryd.underlying59 rowR w.heap.size 5 _ rfl hown5 (by unfold maxLen; omega) _ _ _ rfl rfl (keyA (x := 100) (by decide) (by decide)) _ [] rowR_100 ?_; intro w6 hown6 hg6; replace hB5 := hB5.trans (below_grown hg6 (Nat.le_refl _) hB5.size); have hB6 := hB5; have c0 := (ha.below hB6).c0; have c1 := (ha.below hB6).c1; clear hown5 hg6 hB5)
    | (refine wpList_insert_own _ rfl _ _ _ 59 rfl 23 57 lawA Tryd.underlying59 rowR w.heap.size 6 _ rfl hown6 (by unfold maxLen; omega) _ _ _ rfl rfl (keyA (x := 101) (by decide) (by decide)) _ [] rowR_101 ?_; intro w7 hown7 hg7; replace hB6 := hB6.trans (below_grown hg7 (Nat.le_refl _) hB6.size); have hB7 := hB6; have c0 := (ha.below hB7).c0; have c1 := (ha.below hB7).c1; clear hown6 hg7 hB6))
  go_ret
  exact ⟨rfl, hown7, hB7⟩
end Go.Proofs.YtmjhgpmeikpbkaaDoor
