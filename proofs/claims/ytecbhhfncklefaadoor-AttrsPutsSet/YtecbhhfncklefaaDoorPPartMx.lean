/- A part of the program: a function value that tells its bytes when it is asked, now or later, or leaves off with ErrArg; nothing that was there turns. -/
import Derived.Test.YtecbhhfncklefaaDoorKokMathPNeedPiecesMx
import Derived.Test.YtecbhhfncklefaaDoorGrowConcatMx
import Derived.Test.YtecbhhfncklefaaDoorAppendEach
namespace Go.Proofs.YtecbhhfncklefaaDoor
set_option linter.unusedVariables false
open Go.RowKit

/-- What is told when a part is asked: its bytes, in memory of their own, or that it may not be. -/
def Told1 (m : Bool) (zs : List Int) (w : World) (e : Ending) (w' : World) : Prop :=
  Below w.heap.size w w' ∧ ((m = true ∧ ∃ v, e = .returned v ∧ w'.ownsRow w.heap.size 5 1 v zs.length (zs.map (Value.int .u8))) ∨ (m = false ∧ e = .panicked (bad 1)))
theorem told_yes {w w' : World} {k : Nat} {v : Value} {zs : List Int} (hb : Below w.heap.size w w') (hl : zs.length = k) (ho : w'.ownsRow w.heap.size 5 1 v k (zs.map (Value.int .u8))) : Told1 true zs w (.returned v) w' :=
  ⟨hb, .inl ⟨rfl, v, rfl, by rw [hl]; exact ho⟩⟩
theorem told_no {w w' : World} {zs : List Int} (hb : Below w.heap.size w w') : Told1 false zs w (.panicked (bad 1)) w' := ⟨hb, .inr ⟨rfl, rfl⟩⟩

theorem told_true {w w' : World} {e : Ending} {zs : List Int} (h : Told1 true zs w e w') : Below w.heap.size w w' ∧ ∃ v, e = .returned v ∧ w'.ownsRow w.heap.size 5 1 v zs.length (zs.map (Value.int .u8)) := by
  rcases h with ⟨hb, ⟨_, hv⟩ | ⟨hm, _⟩⟩
  · exact ⟨hb, hv⟩
  · cases hm
theorem told_false {w w' : World} {e : Ending} {zs : List Int} (h : Told1 false zs w e w') : Below w.heap.size w w' ∧ e = .panicked (bad 1) := by
  rcases h with ⟨hb, ⟨hm, _⟩ | ⟨_, he⟩⟩
  · cases hm
  · exact ⟨hb, he⟩

/-- A part: it tells so, in this world and in each that grows out of it. -/
def Tells (W : World) (v : Value) (m : Bool) (zs : List Int) : Prop :=
  ∃ (k : FuncId) (caps : Array Value), v = .func (.func k) #[] caps ∧ (∀ (args : Array Value) (w : World), (callFunc k args).run Tryd.prog w = .ok (.enter k args) w) ∧ ∀ w, Below W.heap.size W w → Calls Tryd.prog k caps w (Told1 m zs w)
theorem Tells.next {W W' : World} {v : Value} {m : Bool} {zs : List Int} (h : Tells W v m zs) (hb : Below W.heap.size W W') : Tells W' v m zs :=
  let ⟨k, caps, hv, hk, hc⟩ := h
  ⟨k, caps, hv, hk, fun w hw => hc w (hb.trans (hw.mono hb.size))⟩

/-- A part, whether it may be, its bytes. -/
structure Tl where
  v : Value
  m : Bool
  zs : List Int
def allM (xs : List Tl) : Bool := xs.all (·.m)
def allZ (xs : List Tl) : List Int := xs.flatMap (·.zs)
def Tl.At (x : Tl) (W : World) : Prop := Tells W x.v x.m x.zs

theorem allM_take {xs : List Tl} {k : Nat} (hk : k < xs.length) : allM (xs.take (k + 1)) = (allM (xs.take k) && xs[k].m) := by
  unfold allM
  rw [List.take_succ_eq_append_getElem hk, List.all_append]
  simp
theorem allM_low {xs : List Tl} {k : Nat} (hk : k < xs.length) (h : xs[k].m = false) : allM xs = false := by
  unfold allM
  rw [List.all_eq_false]
  exact ⟨xs[k], List.getElem_mem _, by rw [h]; simp⟩
theorem allZ_take {xs : List Tl} {k : Nat} (hk : k < xs.length) : allZ (xs.take (k + 1)) = allZ (xs.take k) ++ xs[k].zs := by
  unfold allZ
  rw [List.take_succ_eq_append_getElem hk, List.flatMap_append]
  simp
theorem allZ_le (xs : List Tl) (k : Nat) : (allZ (xs.take k)).length ≤ (allZ xs).length := by
  have h : allZ xs = allZ (xs.take k) ++ allZ (xs.drop k) := by
    unfold allZ
    rw [← List.flatMap_append, List.take_append_drop]
  rw [h, List.length_append]
  omega

/-- Bytes of one's own. -/
def Part.Mine (p : Part) (W : World) (B : Nat) : Prop := p.zs.length = p.len ∧ W.ownsRow B 5 1 p.v p.len (p.zs.map (Value.int .u8))
theorem Part.Mine.isIn {p : Part} {W : World} {B : Nat} (h : p.Mine W B) : p.In W := by
  obtain ⟨a, l, c, zs⟩ := p
  obtain ⟨h1, h2⟩ := h
  simp only [Part.v] at h1 h2
  obtain ⟨a', c', e, h3, _, _, h4⟩ := own_val h2 h1
  cases e
  exact ⟨h1, h3, h4⟩
theorem Part.Mine.below {p : Part} {W W' : World} {B : Nat} (h : p.Mine W B) (hb : Below W.heap.size W W') : p.Mine W' B := ⟨h.1, own_below h.2 hb⟩
theorem Part.Mine.base {p : Part} {W : World} {B B' : Nat} (h : p.Mine W B) (hb : B' ≤ B) : p.Mine W B' := ⟨h.1, own_base h.2 hb⟩
/-- A row of lists turns: the bytes of a list stay. -/
theorem Part.Mine.other {p : Part} {W W' : World} {B base n : Nat} {v : Value} {xs : List Value} (h : p.Mine W B) (hr : W.ownsRow base 29 1 v n xs) (hg : W.grownBy W' v.ownBlock) : p.Mine W' B := by
  refine ⟨h.1, h.2.kept hg ?_⟩
  rcases h.2.2 with ⟨hv, _⟩ | ⟨g, cap, cur, hv, _, hgb, _⟩
  · exact .inl (by rw [hv]; rfl)
  · refine .inr fun e => ?_
    have e' : v.ownBlock = some g := by rw [← e, hv]; rfl
    rcases hr.2 with ⟨rfl, _⟩ | ⟨g', cap', cur', rfl, _, hgb', _⟩
    · cases e'
    · have : g' = g := by simpa [Value.ownBlock] using e'
      subst this
      rw [hgb] at hgb'
      cases hgb'

/-- A row of lists that is one's own: where its lists stand. -/
theorem own_cells {w : World} {base e n : Nat} {v : Value} {ps : List Part} (h : w.ownsRow base e 1 v n (ps.map Part.v)) (hn : ps.length = n) (h0 : 0 < n) : ∃ g c, v = .slice (some ⟨g, 0, none⟩) n c ∧ n ≤ c ∧ ∀ i, (hi : i < ps.length) → w.cell? ⟨g, i, none⟩ = some ps[i].v := by
  obtain ⟨g, c, rfl, h1, _, _⟩ := own_shape h h0
  refine ⟨g, c, rfl, h1, fun i hi => ?_⟩
  rw [h.cellAt i (by omega), List.getElem?_map, List.getElem?_eq_getElem hi]
  rfl
end Go.Proofs.YtecbhhfncklefaaDoor
