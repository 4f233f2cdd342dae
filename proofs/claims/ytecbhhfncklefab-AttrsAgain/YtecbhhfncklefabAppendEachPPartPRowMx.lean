/- 'append(own, any...)': the source may be nil; one law for both; nothing is claimed of the program here. -/
import Derived.Laws.AppendOwnNone
import Derived.Maps.AppendAt
import Derived.WalkKit
import Derived.Lib.AppendZeros
import Derived.Deep.RegionLaw
import Derived.Test.YtecbhhfncklefabPNeed
import Derived.Test.YtecbhhfncklefabConcat
namespace Go.Proofs.Ytecbhhfncklefab
set_option linter.unusedVariables false
open Go.RowKit

theorem grown_refl (w : World) (row : Option Nat) : w.grownBy w row := ⟨rfl, rfl, rfl, Nat.le_refl _, fun _ _ _ => rfl⟩

theorem wpList_append_each {P : Program} (w : World) {ops : Array Oper} {rest : List Oper} {o : Oper} {a : Act} {Q : Exit → Act → World → Prop} (hgd : o.guard = none) (s x : Operand) (t : TypeId)
    (ho : o.op = .call { callee := .builtin .append, args := #[s, x], argTypes := #[t, t] })
    (base : Nat) (e : TypeId) (i : TypeInfo) (z : Value) (size bytes : Nat) (ht : P.underlying t = some (.slice e)) (hi : P.info? e = some i) (hz : i.zero = some z)
    (hsize : i.size = size) (hby : i.bytes = bytes) (hzs : z.cells.size = size) (hsz : 0 < size)
    (v : Value) (n : Nat) (xs : List Value) (hs : a.eval s = v) (hown : w.ownsRow base e size v n xs)
    (ad : Option Addr) (m c : Nat) (news : List Value) (hx : a.eval x = .slice ad m c) (hnil : ad = none → m = 0 ∧ c = 0) (hl : news.length = m * size) (hnews : ∀ b, ad = some b → ∀ j u, news[j]? = some u → w.cell? (b.add j) = some u) (h1 : ∀ u ∈ news, u.oneCell' = true)
    (h63 : n + m ≤ maxLen) (hbytes : (n + m) * bytes ≤ 140737488355328) (hbase : base ≤ w.heap.size)
    (h : ∀ v' w', w'.ownsRow base e size v' (n + m) (xs ++ news) → w.grownBy w' v.ownBlock → wpList P ops Q rest (a.put o.dst v') w') : wpList P ops Q (o :: rest) a w := by
  cases ad with
  | none =>
    obtain ⟨rfl, rfl⟩ := hnil rfl
    have hn : news = [] := List.length_eq_zero_iff.1 (by simpa using hl)
    subst hn
    exact wpList_append_own_none hgd s x t ho base e i size ht hi v n xs hs hown hx (h v w (by simpa using hown) (grown_refl _ _))
  | some b => exact wpList_append_own w hgd s x t ho base e i z size bytes ht hi hz hsize hby hzs hsz v n xs hs hown b m c news hx hl (hnews b rfl) h1 h63 hbytes hbase (fun v' w' ho' hg _ => h v' w' ho' hg)

/-- As wpList_append_each, at a step of a region that draws its order. -/
theorem step_append_each {P : Program} (w : World) {ops : Array Oper} {o : Oper} {a : Act} {K : Act → World → Prop} {Q : Exit → Act → World → Prop} {E : Prop} (hgd : o.guard = none) (s x : Operand) (t : TypeId)
    (ho : o.op = .call { callee := .builtin .append, args := #[s, x], argTypes := #[t, t] })
    (base : Nat) (e : TypeId) (i : TypeInfo) (z : Value) (size bytes : Nat) (ht : P.underlying t = some (.slice e)) (hi : P.info? e = some i) (hz : i.zero = some z)
    (hsize : i.size = size) (hby : i.bytes = bytes) (hzs : z.cells.size = size) (hsz : 0 < size)
    (v : Value) (n : Nat) (xs : List Value) (hs : a.eval s = v) (hown : w.ownsRow base e size v n xs)
    (ad : Option Addr) (m c : Nat) (news : List Value) (hx : a.eval x = .slice ad m c) (hnil : ad = none → m = 0 ∧ c = 0) (hl : news.length = m * size) (hnews : ∀ b, ad = some b → ∀ j u, news[j]? = some u → w.cell? (b.add j) = some u) (h1 : ∀ u ∈ news, u.oneCell' = true)
    (h63 : n + m ≤ maxLen) (hbytes : (n + m) * bytes ≤ 140737488355328) (hbase : base ≤ w.heap.size)
    (h : ∀ v' w', w'.ownsRow base e size v' (n + m) (xs ++ news) → w.grownBy w' v.ownBlock → K (a.put o.dst v') w') : if Region.wanted o (yielded ops a.tmps) = true then Oper.wp P o a w K Q else E := by
  rw [if_pos (by simp [Region.wanted, hgd])]
  cases ad with
  | none =>
    obtain ⟨rfl, rfl⟩ := hnil rfl
    have hn : news = [] := List.length_eq_zero_iff.1 (by simpa using hl)
    subst hn
    exact Lib.wp_append_run w s x t t ho v (.slice none 0 0) hs hx v w (run_append_owned_none w base t o.type e i size ht hi v n xs hown) (h v w (by simpa using hown) (grown_refl _ _))
  | some b => exact wp_append_own w s x t ho base e i z size bytes ht hi hz hsize hby hzs hsz v n xs hs hown b m c news hx hl (hnews b rfl) h1 h63 hbytes hbase (fun v' w' ho' hg _ => h v' w' ho' hg)

/-- At an operation that stands behind a guard that says yes. -/
theorem wpList_append_wanted {P : Program} (w : World) {ops : Array Oper} {rest : List Oper} {o : Oper} {a : Act} {Q : Exit → Act → World → Prop} (hw : Region.wanted o (yielded ops a.tmps) = true) (s x : Operand) (t : TypeId)
    (ho : o.op = .call { callee := .builtin .append, args := #[s, x], argTypes := #[t, t] })
    (base : Nat) (e : TypeId) (i : TypeInfo) (z : Value) (size bytes : Nat) (ht : P.underlying t = some (.slice e)) (hi : P.info? e = some i) (hz : i.zero = some z)
    (hsize : i.size = size) (hby : i.bytes = bytes) (hzs : z.cells.size = size) (hsz : 0 < size)
    (v : Value) (n : Nat) (xs : List Value) (hs : a.eval s = v) (hown : w.ownsRow base e size v n xs)
    (b : Addr) (m c : Nat) (news : List Value) (hx : a.eval x = .slice (some b) m c) (hl : news.length = m * size) (hnews : ∀ j u, news[j]? = some u → w.cell? (b.add j) = some u) (h1 : ∀ u ∈ news, u.oneCell' = true)
    (h63 : n + m ≤ maxLen) (hbytes : (n + m) * bytes ≤ 140737488355328) (hbase : base ≤ w.heap.size)
    (h : ∀ v' w', w'.ownsRow base e size v' (n + m) (xs ++ news) → w.grownBy w' v.ownBlock → wpList P ops Q rest (a.put o.dst v') w') : wpList P ops Q (o :: rest) a w := by
  show if Region.wanted o (yielded ops a.tmps) = true then _ else _
  rw [if_pos hw]
  exact .inl (wp_append_own w s x t ho base e i z size bytes ht hi hz hsize hby hzs hsz v n xs hs hown b m c news hx hl hnews h1 h63 hbytes hbase (fun v' w' ho' hg _ => h v' w' ho' hg))

end Go.Proofs.Ytecbhhfncklefab

/- A part of the program: a function value that tells its bytes when it is asked, now or later, or leaves off with ErrArg; nothing that was there turns. -/
namespace Go.Proofs.Ytecbhhfncklefab
set_option linter.unusedVariables false
open Go.RowKit

/-- What is told when a part is asked: its bytes, in memory of their own, or that it may not be. -/
def Told1 (m : Bool) (zs : List Int) (w : World) (e : Ending) (w' : World) : Prop :=
  Below w.heap.size w w' ∧ ((m = true ∧ ∃ v, e = .returned v ∧ w'.ownsRow w.heap.size 5 1 v zs.length (zs.map (Value.int .u8))) ∨ (m = false ∧ e = .panicked (bad 1)))
theorem told_yes {w w' : World} {k : Nat} {v : Value} {zs : List Int} (hb : Below w.heap.size w w') (hl : zs.length = k) (ho : w'.ownsRow w.heap.size 5 1 v k (zs.map (Value.int .u8))) : Told1 true zs w (.returned v) w' :=
  ⟨hb, .inl ⟨rfl, v, rfl, by rw [hl]; exact ho⟩⟩
theorem told_no {w w' : World} {zs : List Int} (hb : Below w.heap.size w w') : Told1 false zs w (.panicked (bad 1)) w' := ⟨hb, .inr ⟨rfl, rfl⟩⟩

theorem told_true {w w' : World} {e : Ending} {zs : List Int} (h : Told1 true zs w e w') : Below w.heap.size w w' ∧ ∃ v, e = .returned v ∧ w'.ownsRow w.heap.size 5 1 v zs.length (zs.map (Value.int .u8)) := by
  rcases h with ⟨hb, ⟨_, hv⟩ | ⟨hm, _⟩⟩
  · exact ⟨hb, hv⟩
  · cases hm
theorem told_false {w w' : World} {e : Ending} {zs : List Int} (h : Told1 false zs w e w') : Below w.heap.size w w' ∧ e = .panicked (bad 1) := by
  rcases h with ⟨hb, ⟨hm, _⟩ | ⟨_, he⟩⟩
  · cases hm
  · exact ⟨hb, he⟩

/-- A part: it tells so, in this world and in each that grows out of it. -/
def Tells (W : World) (v : Value) (m : Bool) (zs : List Int) : Prop :=
  ∃ (k : FuncId) (caps : Array Value), v = .func (.func k) #[] caps ∧ (∀ (args : Array Value) (w : World), (callFunc k args).run Try.prog w = .ok (.enter k args) w) ∧ ∀ w, Below W.heap.size W w → Calls Try.prog k caps w (Told1 m zs w)
theorem Tells.next {W W' : World} {v : Value} {m : Bool} {zs : List Int} (h : Tells W v m zs) (hb : Below W.heap.size W W') : Tells W' v m zs :=
  let ⟨k, caps, hv, hk, hc⟩ := h
  ⟨k, caps, hv, hk, fun w hw => hc w (hb.trans (hw.mono hb.size))⟩

/-- A part, whether it may be, its bytes. -/
structure Tl where
  v : Value
  m : Bool
  zs : List Int
def allM (xs : List Tl) : Bool := xs.all (·.m)
def allZ (xs : List Tl) : List Int := xs.flatMap (·.zs)
def Tl.At (x : Tl) (W : World) : Prop := Tells W x.v x.m x.zs

theorem allM_take {xs : List Tl} {k : Nat} (hk : k < xs.length) : allM (xs.take (k + 1)) = (allM (xs.take k) && xs[k].m) := by
  unfold allM
  rw [List.take_succ_eq_append_getElem hk, List.all_append]
  simp
theorem allM_low {xs : List Tl} {k : Nat} (hk : k < xs.length) (h : xs[k].m = false) : allM xs = false := by
  unfold allM
  rw [List.all_eq_false]
  exact ⟨xs[k], List.getElem_mem _, by rw [h]; simp⟩
theorem allZ_take {xs : List Tl} {k : Nat} (hk : k < xs.length) : allZ (xs.take (k + 1)) = allZ (xs.take k) ++ xs[k].zs := by
  unfold allZ
  rw [List.take_succ_eq_append_getElem hk, List.flatMap_append]
  simp
theorem allZ_le (xs : List Tl) (k : Nat) : (allZ (xs.take k)).length ≤ (allZ xs).length := by
  have h : allZ xs = allZ (xs.take k) ++ allZ (xs.drop k) := by
    unfold allZ
    rw [← List.flatMap_append, List.take_append_drop]
  rw [h, List.length_append]
  omega

/-- Bytes of one's own. -/
def Part.Mine (p : Part) (W : World) (B : Nat) : Prop := p.zs.length = p.len ∧ W.ownsRow B 5 1 p.v p.len (p.zs.map (Value.int .u8))
theorem Part.Mine.isIn {p : Part} {W : World} {B : Nat} (h : p.Mine W B) : p.In W := by
  obtain ⟨a, l, c, zs⟩ := p
  obtain ⟨h1, h2⟩ := h
  simp only [Part.v] at h1 h2
  obtain ⟨a', c', e, h3, _, _, h4⟩ := own_val h2 h1
  cases e
  exact ⟨h1, h3, h4⟩
theorem Part.Mine.below {p : Part} {W W' : World} {B : Nat} (h : p.Mine W B) (hb : Below W.heap.size W W') : p.Mine W' B := ⟨h.1, own_below h.2 hb⟩
theorem Part.Mine.base {p : Part} {W : World} {B B' : Nat} (h : p.Mine W B) (hb : B' ≤ B) : p.Mine W B' := ⟨h.1, own_base h.2 hb⟩
/-- A row of lists turns: the bytes of a list stay. -/
theorem Part.Mine.other {p : Part} {W W' : World} {B base n : Nat} {v : Value} {xs : List Value} (h : p.Mine W B) (hr : W.ownsRow base 29 1 v n xs) (hg : W.grownBy W' v.ownBlock) : p.Mine W' B := by
  refine ⟨h.1, h.2.kept hg ?_⟩
  rcases h.2.2 with ⟨hv, _⟩ | ⟨g, cap, cur, hv, _, hgb, _⟩
  · exact .inl (by rw [hv]; rfl)
  · refine .inr fun e => ?_
    have e' : v.ownBlock = some g := by rw [← e, hv]; rfl
    rcases hr.2 with ⟨rfl, _⟩ | ⟨g', cap', cur', rfl, _, hgb', _⟩
    · cases e'
    · have : g' = g := by simpa [Value.ownBlock] using e'
      subst this
      rw [hgb] at hgb'
      cases hgb'

/-- A row of lists that is one's own: where its lists stand. -/
theorem own_cells {w : World} {base e n : Nat} {v : Value} {ps : List Part} (h : w.ownsRow base e 1 v n (ps.map Part.v)) (hn : ps.length = n) (h0 : 0 < n) : ∃ g c, v = .slice (some ⟨g, 0, none⟩) n c ∧ n ≤ c ∧ ∀ i, (hi : i < ps.length) → w.cell? ⟨g, i, none⟩ = some ps[i].v := by
  obtain ⟨g, c, rfl, h1, _, _⟩ := own_shape h h0
  refine ⟨g, c, rfl, h1, fun i hi => ?_⟩
  rw [h.cellAt i (by omega), List.getElem?_map, List.getElem?_eq_getElem hi]
  rfl
end Go.Proofs.Ytecbhhfncklefab

/- 'row' of the program: parts one behind another are a part; nothing that was there turns. -/
namespace Go.Proofs.Ytecbhhfncklefab
set_option linter.unusedVariables false
open Go.RowKit

theorem infoRows : (Try.prog.info? 29).map (fun i => (i.zero, i.size, i.bytes)) = some (some (.slice none 0 0), 1, 24) := by kernel_rfl

theorem one_news {w : World} {p : Addr} {v : Value} (h : w.cell? p = some v) : ∀ j u, [v][j]? = some u → w.cell? (p.add j) = some u := by
  intro j u hj
  match j with
  | 0 => cases hj; simpa [Addr.add] using h
  | j + 1 => simp at hj

set_option maxRecDepth 100000 in
set_option maxHeartbeats 2000000 in
theorem row1_any (xs : List Tl) (b n cap h : Nat) (w : World) (hn : xs.length = n) (hn0 : 0 < n) (hnm : n ≤ 1000) (hm : (allZ xs).length ≤ 1000000)
    (hcell : w.cell? ⟨h, 0, none⟩ = some (.slice (some ⟨b, 0, none⟩) n cap)) (hc : ∀ i, (hi : i < xs.length) → w.cell? ⟨b, i, none⟩ = some xs[i].v) (ht : ∀ x ∈ xs, x.At w) :
    Calls Try.prog 69 #[.pointer (some ⟨h, 0, none⟩)] w (Told1 (allM xs) (allZ xs) w) := by
  obtain ⟨i0, hi, hz0, hz1, hz2⟩ := info_parts infoRows
  go_enter Try.func69, Try.ntmps69
  go_wp2
  go_loopw [2, 7] (fun v i wr => ∃ (k : Nat) (ps : List Part), k ≤ n ∧ i = .int .i64 k ∧ ps.length = k ∧ allM (xs.take k) = true ∧ allOf ps = allZ (xs.take k) ∧ wr.ownsRow w.heap.size 29 1 v k (ps.map Part.v) ∧ (∀ p ∈ ps, p.Mine wr w.heap.size) ∧ Below w.heap.size w wr) (fun _ i _ => n - (intOf i).toNat)
  case atStart => exact ⟨0, [], by omega, rfl, rfl, rfl, rfl, own_empty _ _ _, by simp, Below.refl _ _⟩
  case round =>
    obtain ⟨k, ps, hk, rfl, hpk, hall, hof, hown, hmine, hB⟩ := hrel
    by_cases hlt : k < n
    · have hcx := hc k (by omega)
      have hlb : b < w.heap.size := World.block_lt_of_cell? _ _ hcx
      replace hcx : wr.cell? ⟨b, k, none⟩ = _ := (hB.cell (p := ⟨b, k, none⟩) hlb).trans hcx
      obtain ⟨K, caps, hv, hen, hcall⟩ := ht xs[k] (List.getElem_mem _)
      rw [hv] at hcx
      have hcall1 := hcall wr hB
      go_wp2_with fail
      refine hcall1.mono ?_
      rintro e w1 ⟨hb1, ⟨hm1, v1, rfl, ho1⟩ | ⟨hm1, rfl⟩⟩
      · obtain ⟨a1, c1, rfl, hs1, hn1, hn2, hn3⟩ := own_val ho1 rfl
        have hB1 := hB.trans (hb1.mono hB.size)
        have hbl : Below w1.heap.size w1 (w1.alloc (.cells #[.slice a1 xs[k].zs.length c1] 29)) := (Below.refl _ _).alloc (Nat.le_refl _) _
        have hB2 := hB1.trans (hbl.mono hB1.size)
        have hown2 := own_below (own_below hown hb1) hbl
        have hmine2 : ∀ p ∈ ps, p.Mine (w1.alloc (.cells #[.slice a1 xs[k].zs.length c1] 29)) w.heap.size := fun p hp => ((hmine p hp).below hb1).below hbl
        have hnew2 : Part.Mine ⟨a1, xs[k].zs.length, c1, xs[k].zs⟩ (w1.alloc (.cells #[.slice a1 xs[k].zs.length c1] 29)) w.heap.size := ⟨rfl, own_base (own_below ho1 hbl) hB.size⟩
        have hl2 : (w1.alloc (.cells #[.slice a1 xs[k].zs.length c1] 29)).cell? ⟨w1.heap.size, 0, none⟩ = some (.slice a1 xs[k].zs.length c1) := by simp
        have hz2' := allZ_take (xs := xs) (k := k) (by omega)
        have hall2 := allM_take (xs := xs) (k := k) (by omega)
        rw [hall, hm1] at hall2
        go_wp2_with (at_builtin; go_loud (refine wpList_append_each _ rfl _ _ 112 rfl w.heap.size 29 i0 (.slice none 0 0) 1 24 Try.underlying112 hi hz0 hz1 hz2 rfl (by decide) u2 k _ rfl hown2 (some ⟨w1.heap.size, 0, none⟩) 1 1 [.slice a1 xs[k].zs.length c1] rfl (by simp) (by simp) (fun b e => by cases e; exact one_news hl2) (by simp [Value.oneCell']) (by unfold maxLen; omega) (by omega) hB2.size ?_); intro v3 w3 hown3 hgrow3)
        have hB3 : Below w.heap.size w w3 := hB2.grown hgrow3 hB2.size (fun k e => own_low hown2 e)
        have hmine3 : ∀ p ∈ ps ++ [⟨a1, xs[k].zs.length, c1, xs[k].zs⟩], p.Mine w3 w.heap.size := fun p hp => by
          rcases List.mem_append.1 hp with hp | hp
          · exact (hmine2 p hp).other hown2 hgrow3
          · obtain rfl := List.mem_singleton.1 hp
            exact hnew2.other hown2 hgrow3
        go_round
        case rel => exact ⟨k + 1, ps ++ [⟨a1, xs[k].zs.length, c1, xs[k].zs⟩], by omega, by go_num, by simp [hpk], hall2, by rw [hz2', ← hof]; simp [allOf], by simpa [Part.v] using hown3, hmine3, hB3⟩
        case measure => simp [intOf]; omega
      · go_wp2
        exact ⟨rfl, hB.trans (hb1.mono hB.size), .inr ⟨allM_low (by omega) hm1, rfl⟩⟩
    · obtain rfl : k = n := by omega
      rw [List.take_of_length_le (by omega)] at hall hof
      obtain ⟨g, c, rfl, hgc, hcells⟩ := own_cells hown hpk hn0
      have hin : ∀ p ∈ ps, p.In wr := fun p hp => (hmine p hp).isIn
      clear hcell hc ht hmine hown
      go_wp2_with (go_at_call 50; refine (concat_cap ps g k c wr hpk (by omega) hcells hin (by rw [hof]; omega)).mono ?_; rintro e w2 ⟨v2, rfl, hown2, hb2⟩)
      go_ret
      rw [hof] at hown2
      rw [hall]
      exact ⟨hB.trans (hb2.mono hB.size), .inl ⟨rfl, v2, rfl, own_base hown2 hB.size⟩⟩

/-- The closure's number is a function's of the program's own. -/
theorem enter_row : ∀ (args : Array Value) (w : World), (callFunc 69 args).run Try.prog w = .ok (.enter 69 args) w := fun _ _ => by simp [go_sem]

set_option maxRecDepth 100000 in
set_option maxHeartbeats 1000000 in
theorem row_any (xs : List Tl) (b n cap : Nat) (w : World) (hn : xs.length = n) (hn0 : 0 < n) (hnm : n ≤ 1000) (hm : (allZ xs).length ≤ 1000000)
    (hc : ∀ i, (hi : i < xs.length) → w.cell? ⟨b, i, none⟩ = some xs[i].v) (ht : ∀ x ∈ xs, x.At w) :
    Calls Try.prog 39 #[.slice (some ⟨b, 0, none⟩) n cap] w fun e w' => ∃ v, e = .returned v ∧ Tells w' v (allM xs) (allZ xs) ∧ Below w.heap.size w w' := by
  have hmf : ∀ (fn : Fn) (first cap : Array Value) (w : World), (Instr.makeFunc fn first cap).run Try.prog w = .ok (.func fn first cap) w := fun _ _ _ _ => rfl
  go_enter Try.func39, Try.ntmps39
  go_wp2
  go_ret
  have hb1 : Below w.heap.size w (w.alloc (.cells #[.slice (some ⟨b, 0, none⟩) n cap] 81)) := (Below.refl _ _).alloc (Nat.le_refl _) _
  have hcell : (w.alloc (.cells #[.slice (some ⟨b, 0, none⟩) n cap] 81)).cell? ⟨w.heap.size, 0, none⟩ = some (.slice (some ⟨b, 0, none⟩) n cap) := by simp
  have hlt := World.block_lt_of_cell? _ _ hcell
  refine ⟨_, rfl, ⟨_, _, rfl, enter_row, fun W hW => ?_⟩, hb1⟩
  refine row1_any xs b n cap w.heap.size W hn hn0 hnm hm ((hW.cell (p := ⟨w.heap.size, 0, none⟩) hlt).trans hcell) (fun i hi => ?_) (fun x hx => ((ht x hx).next hb1).next hW)
  have h0 := hc i hi
  have hl0 := World.block_lt_of_cell? _ _ h0
  exact ((hb1.trans (hW.mono (by simp))).cell (p := ⟨b, i, none⟩) hl0).trans h0
end Go.Proofs.Ytecbhhfncklefab
