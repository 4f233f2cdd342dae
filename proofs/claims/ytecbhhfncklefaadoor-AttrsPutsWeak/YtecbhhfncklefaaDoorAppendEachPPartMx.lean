/- 'append(own, any...)': the source may be nil; one law for both; nothing is claimed of the program here. -/
import Derived.Laws.AppendOwnNone
import Derived.Maps.AppendAt
import Derived.WalkKit
import Derived.Lib.AppendZeros
import Derived.Deep.RegionLaw
import Derived.Test.YtecbhhfncklefaaDoorTimeEqKokMathPNeedPiecesMx
import Derived.Test.YtecbhhfncklefaaDoorGrowConcatMx
namespace Go.Proofs.YtecbhhfncklefaaDoor
set_option linter.unusedVariables false
open Go.RowKit

theorem grown_refl (w : World) (row : Option Nat) : w.grownBy w row := ⟨rfl, rfl, rfl, Nat.le_refl _, fun _ _ _ => rfl⟩

theorem wpList_append_each {P : Program} (w : World) {ops : Array Oper} {rest : List Oper} {o : Oper} {a : Act} {Q : Exit → Act → World → Prop} (hgd : o.guard = none) (s x : Operand) (t : TypeId)
    (ho : o.op = .call { callee := .builtin .append, args := #[s, x], argTypes := #[t, t] })
    (base : Nat) (e : TypeId) (i : TypeInfo) (z : Value) (size bytes : Nat) (ht : P.underlying t = some (.slice e)) (hi : P.info? e = some i) (hz : i.zero = some z)
    (hsize : i.size = size) (hby : i.bytes = bytes) (hzs : z.cells.size = size) (hsz : 0 < size)
    (v : Value) (n : Nat) (xs : List Value) (hs : a.eval s = v) (hown : w.ownsRow base e size v n xs)
    (ad : Option Addr) (m c : Nat) (news : List Value) (hx : a.eval x = .slice ad m c) (hnil : ad = none → m = 0 ∧ c = 0) (hl : news.length = m * size) (hnews : ∀ b, ad = some b → ∀ j u, news[j]? = some u → w.cell? (b.add j) = some u) (h1 : ∀ u ∈ news, u.oneCell' = true)
    (h63 : n + m ≤ maxLen) (hbytes : (n + m) * bytes ≤ 140737488355328) (hbase : base ≤ w.heap.size)
    (h : ∀ v' w', w'.ownsRow base e size v' (n + m) (xs ++ news) → w.grownBy w' v.ownBlock → wpList P ops Q rest (a.put o.dst v') w') : wpList P ops Q (o :: rest) a w := by
  cases ad with
  | none =>
    obtain ⟨rfl, rfl⟩ := hnil rfl
    have hn : news = [] := List.length_eq_zero_iff.1 (by simpa using hl)
    subst hn
    exact wpList_append_own_none hgd s x t ho base e i size ht hi v n xs hs hown hx (h v w (by simpa using hown) (grown_refl _ _))
  | some b => exact wpList_append_own w hgd s x t ho base e i z size bytes ht hi hz hsize hby hzs hsz v n xs hs hown b m c news hx hl (hnews b rfl) h1 h63 hbytes hbase (fun v' w' ho' hg _ => h v' w' ho' hg)

/-- As wpList_append_each, at a step of a region that draws its order. -/
theorem step_append_each {P : Program} (w : World) {ops : Array Oper} {o : Oper} {a : Act} {K : Act → World → Prop} {Q : Exit → Act → World → Prop} {E : Prop} (hgd : o.guard = none) (s x : Operand) (t : TypeId)
    (ho : o.op = .call { callee := .builtin .append, args := #[s, x], argTypes := #[t, t] })
    (base : Nat) (e : TypeId) (i : TypeInfo) (z : Value) (size bytes : Nat) (ht : P.underlying t = some (.slice e)) (hi : P.info? e = some i) (hz : i.zero = some z)
    (hsize : i.size = size) (hby : i.bytes = bytes) (hzs : z.cells.size = size) (hsz : 0 < size)
    (v : Value) (n : Nat) (xs : List Value) (hs : a.eval s = v) (hown : w.ownsRow base e size v n xs)
    (ad : Option Addr) (m c : Nat) (news : List Value) (hx : a.eval x = .slice ad m c) (hnil : ad = none → m = 0 ∧ c = 0) (hl : news.length = m * size) (hnews : ∀ b, ad = some b → ∀ j u, news[j]? = some u → w.cell? (b.add j) = some u) (h1 : ∀ u ∈ news, u.oneCell' = true)
    (h63 : n + m ≤ maxLen) (hbytes : (n + m) * bytes ≤ 140737488355328) (hbase : base ≤ w.heap.size)
    (h : ∀ v' w', w'.ownsRow base e size v' (n + m) (xs ++ news) → w.grownBy w' v.ownBlock → K (a.put o.dst v') w') : if Region.wanted o (yielded ops a.tmps) = true then Oper.wp P o a w K Q else E := by
  rw [if_pos (by simp [Region.wanted, hgd])]
  cases ad with
  | none =>
    obtain ⟨rfl, rfl⟩ := hnil rfl
    have hn : news = [] := List.length_eq_zero_iff.1 (by simpa using hl)
    subst hn
    exact Lib.wp_append_run w s x t t ho v (.slice none 0 0) hs hx v w (run_append_owned_none w base t o.type e i size ht hi v n xs hown) (h v w (by simpa using hown) (grown_refl _ _))
  | some b => exact wp_append_own w s x t ho base e i z size bytes ht hi hz hsize hby hzs hsz v n xs hs hown b m c news hx hl (hnews b rfl) h1 h63 hbytes hbase (fun v' w' ho' hg _ => h v' w' ho' hg)

/-- At an operation that stands behind a guard that says yes. -/
theorem wpList_append_wanted {P : Program} (w : World) {ops : Array Oper} {rest : List Oper} {o : Oper} {a : Act} {Q : Exit → Act → World → Prop} (hw : Region.wanted o (yielded ops a.tmps) = true) (s x : Operand) (t : TypeId)
    (ho : o.op = .call { callee := .builtin .append, args := #[s, x], argTypes := #[t, t] })
    (base : Nat) (e : TypeId) (i : TypeInfo) (z : Value) (size bytes : Nat) (ht : P.underlying t = some (.slice e)) (hi : P.info? e = some i) (hz : i.zero = some z)
    (hsize : i.size = size) (hby : i.bytes = bytes) (hzs : z.cells.size = size) (hsz : 0 < size)
    (v : Value) (n : Nat) (xs : List Value) (hs : a.eval s = v) (hown : w.ownsRow base e size v n xs)
    (b : Addr) (m c : Nat) (news : List Value) (hx : a.eval x = .slice (some b) m c) (hl : news.length = m * size) (hnews : ∀ j u, news[j]? = some u → w.cell? (b.add j) = some u) (h1 : ∀ u ∈ news, u.oneCell' = true)
    (h63 : n + m ≤ maxLen) (hbytes : (n + m) * bytes ≤ 140737488355328) (hbase : base ≤ w.heap.size)
    (h : ∀ v' w', w'.ownsRow base e size v' (n + m) (xs ++ news) → w.grownBy w' v.ownBlock → wpList P ops Q rest (a.put o.dst v') w') : wpList P ops Q (o :: rest) a w := by
  show if Region.wanted o (yielded ops a.tmps) = true then _ else _
  rw [if_pos hw]
  exact .inl (wp_append_own w s x t ho base e i z size bytes ht hi hz hsize hby hzs hsz v n xs hs hown b m c news hx hl hnews h1 h63 hbytes hbase (fun v' w' ho' hg _ => h v' w' ho' hg))

end Go.Proofs.YtecbhhfncklefaaDoor

/- A part of the program: a function value that tells its bytes when it is asked, now or later, or leaves off with ErrArg; nothing that was there turns. -/
namespace Go.Proofs.YtecbhhfncklefaaDoor
set_option linter.unusedVariables false
open Go.RowKit

/-- What is told when a part is asked: its bytes, in memory of their own, or that it may not be. -/
def Told1 (m : Bool) (zs : List Int) (w : World) (e : Ending) (w' : World) : Prop :=
  Below w.heap.size w w' ∧ ((m = true ∧ ∃ v, e = .returned v ∧ w'.ownsRow w.heap.size 5 1 v zs.length (zs.map (Value.int .u8))) ∨ (m = false ∧ e = .panicked (bad 1)))
theorem told_yes {w w' : World} {k : Nat} {v : Value} {zs : List Int} (hb : Below w.heap.size w w') (hl : zs.length = k) (ho : w'.ownsRow w.heap.size 5 1 v k (zs.map (Value.int .u8))) : Told1 true zs w (.returned v) w' :=
  ⟨hb, .inl ⟨rfl, v, rfl, by rw [hl]; exact ho⟩⟩
theorem told_no {w w' : World} {zs : List Int} (hb : Below w.heap.size w w') : Told1 false zs w (.panicked (bad 1)) w' := ⟨hb, .inr ⟨rfl, rfl⟩⟩

theorem told_true {w w' : World} {e : Ending} {zs : List Int} (h : Told1 true zs w e w') : Below w.heap.size w w' ∧ ∃ v, e = .returned v ∧ w'.ownsRow w.heap.size 5 1 v zs.length (zs.map (Value.int .u8)) := by
  rcases h with ⟨hb, ⟨_, hv⟩ | ⟨hm, _⟩⟩
  · exact ⟨hb, hv⟩
  · cases hm
theorem told_false {w w' : World} {e : Ending} {zs : List Int} (h : Told1 false zs w e w') : Below w.heap.size w w' ∧ e = .panicked (bad 1) := by
  rcases h with ⟨hb, ⟨hm, _⟩ | ⟨_, he⟩⟩
  · cases hm
  · exact ⟨hb, he⟩

/-- A part: it tells so, in this world and in each that grows out of it. -/
def Tells (W : World) (v : Value) (m : Bool) (zs : List Int) : Prop :=
  ∃ (k : FuncId) (caps : Array Value), v = .func (.func k) #[] caps ∧ (∀ (args : Array Value) (w : World), (callFunc k args).run Tryd.prog w = .ok (.enter k args) w) ∧ ∀ w, Below W.heap.size W w → Calls Tryd.prog k caps w (Told1 m zs w)
theorem Tells.next {W W' : World} {v : Value} {m : Bool} {zs : List Int} (h : Tells W v m zs) (hb : Below W.heap.size W W') : Tells W' v m zs :=
  let ⟨k, caps, hv, hk, hc⟩ := h
  ⟨k, caps, hv, hk, fun w hw => hc w (hb.trans (hw.mono hb.size))⟩

/-- A part, whether it may be, its bytes. -/
structure Tl where
  v : Value
  m : Bool
  zs : List Int
def allM (xs : List Tl) : Bool := xs.all (·.m)
def allZ (xs : List Tl) : List Int := xs.flatMap (·.zs)
def Tl.At (x : Tl) (W : World) : Prop := Tells W x.v x.m x.zs

theorem allM_take {xs : List Tl} {k : Nat} (hk : k < xs.length) : allM (xs.take (k + 1)) = (allM (xs.take k) && xs[k].m) := by
  unfold allM
  rw [List.take_succ_eq_append_getElem hk, List.all_append]
  simp
theorem allM_low {xs : List Tl} {k : Nat} (hk : k < xs.length) (h : xs[k].m = false) : allM xs = false := by
  unfold allM
  rw [List.all_eq_false]
  exact ⟨xs[k], List.getElem_mem _, by rw [h]; simp⟩
theorem allZ_take {xs : List Tl} {k : Nat} (hk : k < xs.length) : allZ (xs.take (k + 1)) = allZ (xs.take k) ++ xs[k].zs := by
  unfold allZ
  rw [List.take_succ_eq_append_getElem hk, List.flatMap_append]
  simp
theorem allZ_le (xs : List Tl) (k : Nat) : (allZ (xs.take k)).length ≤ (allZ xs).length := by
  have h : allZ xs = allZ (xs.take k) ++ allZ (xs.drop k) := by
    unfold allZ
    rw [← List.flatMap_append, List.take_append_drop]
  rw [h, List.length_append]
  omega

/-- Bytes of one's own. -/
def Part.Mine (p : Part) (W : World) (B : Nat) : Prop := p.zs.length = p.len ∧ W.ownsRow B 5 1 p.v p.len (p.zs.map (Value.int .u8))
theorem Part.Mine.isIn {p : Part} {W : World} {B : Nat} (h : p.Mine W B) : p.In W := by
  obtain ⟨a, l, c, zs⟩ := p
  obtain ⟨h1, h2⟩ := h
  simp only [Part.v] at h1 h2
  obtain ⟨a', c', e, h3, _, _, h4⟩ := own_val h2 h1
  cases e
  exact ⟨h1, h3, h4⟩
theorem Part.Mine.below {p : Part} {W W' : World} {B : Nat} (h : p.Mine W B) (hb : Below W.heap.size W W') : p.Mine W' B := ⟨h.1, own_below h.2 hb⟩
theorem Part.Mine.base {p : Part} {W : World} {B B' : Nat} (h : p.Mine W B) (hb : B' ≤ B) : p.Mine W B' := ⟨h.1, own_base h.2 hb⟩
/-- A row of lists turns: the bytes of a list stay. -/
theorem Part.Mine.other {p : Part} {W W' : World} {B base n : Nat} {v : Value} {xs : List Value} (h : p.Mine W B) (hr : W.ownsRow base 29 1 v n xs) (hg : W.grownBy W' v.ownBlock) : p.Mine W' B := by
  refine ⟨h.1, h.2.kept hg ?_⟩
  rcases h.2.2 with ⟨hv, _⟩ | ⟨g, cap, cur, hv, _, hgb, _⟩
  · exact .inl (by rw [hv]; rfl)
  · refine .inr fun e => ?_
    have e' : v.ownBlock = some g := by rw [← e, hv]; rfl
    rcases hr.2 with ⟨rfl, _⟩ | ⟨g', cap', cur', rfl, _, hgb', _⟩
    · cases e'
    · have : g' = g := by simpa [Value.ownBlock] using e'
      subst this
      rw [hgb] at hgb'
      cases hgb'

/-- A row of lists that is one's own: where its lists stand. -/
theorem own_cells {w : World} {base e n : Nat} {v : Value} {ps : List Part} (h : w.ownsRow base e 1 v n (ps.map Part.v)) (hn : ps.length = n) (h0 : 0 < n) : ∃ g c, v = .slice (some ⟨g, 0, none⟩) n c ∧ n ≤ c ∧ ∀ i, (hi : i < ps.length) → w.cell? ⟨g, i, none⟩ = some ps[i].v := by
  obtain ⟨g, c, rfl, h1, _, _⟩ := own_shape h h0
  refine ⟨g, c, rfl, h1, fun i hi => ?_⟩
  rw [h.cellAt i (by omega), List.getElem?_map, List.getElem?_eq_getElem hi]
  rfl
end Go.Proofs.YtecbhhfncklefaaDoor
