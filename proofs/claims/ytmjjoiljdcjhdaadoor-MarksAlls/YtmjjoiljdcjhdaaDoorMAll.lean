/- 'All' of marks: all messages, each in memory of its own, how many bytes they have, the error of the next; nothing that was there turns. -/
import Derived.Test.YtmjjoiljdcjhdaaDoorMsgs
import Derived.Maps.AppendAt
import Derived.Shelf.RegionOpen
namespace Go.Proofs.YtmjjoiljdcjhdaaDoor
set_option linter.unusedVariables false
open Go.RowKit Go.Shelf
attribute [local go_sem] Oper.semAt_some

theorem infoR : (Tryd.prog.info? 22).map (fun i => (i.zero, i.size, i.bytes)) = some (some (.slice none 0 0), 1, 24) := by kernel_rfl

theorem row_kept {W W' : World} {base e n : Nat} {v : Value} {xs : List Value} {row : Option Nat} (h : W.ownsRow base e 1 v n xs) (hg : W.grownBy W' row) (hn : ∀ r, row = some r → r < base ∨ ∃ o : Obj, W.heap[r]? = some o ∧ o.isCells = false) : W'.ownsRow base e 1 v n xs := by
  refine h.kept hg ?_
  rcases h.2 with ⟨rfl, _⟩ | ⟨g, cap, cur, rfl, hb, hgb, _⟩
  · exact .inl rfl
  · refine .inr fun e' => ?_
    rcases hn g (by simpa [Value.ownBlock] using e'.symm) with h1 | ⟨o, ho, hc⟩
    · omega
    · rw [hgb] at ho
      cases ho
      cases hc

theorem boxed_kept {W W' : World} {B t : Nat} {v : Value} {row : Option Nat} (h : Boxed W B t v) (hg : W.grownBy W' row) (hn : ∀ r, row = some r → r ≠ B ∨ ∃ o : Obj, W.heap[r]? = some o ∧ o.isCells = false) : Boxed W' B t v := by
  refine h.kept hg fun e' => ?_
  rcases hn B e'.symm with h1 | ⟨o, ho, hc⟩
  · exact h1 rfl
  · rw [show W.heap[B]? = _ from h] at ho
    cases ho
    cases hc

theorem heap_push (w : World) (o : Obj) : (w.alloc o).heap = w.heap.push o := rfl

theorem six_new (w : World) (o0 o1 o2 o3 o4 o5 : Obj) : ∀ W, W = (((((w.alloc o0).alloc o1).alloc o2).alloc o3).alloc o4).alloc o5 →
    W.heap[w.heap.size]? = some o0 ∧ W.heap[w.heap.size + 1]? = some o1 ∧ W.heap[w.heap.size + 2]? = some o2 ∧ W.heap[w.heap.size + 3]? = some o3 ∧ W.heap[w.heap.size + 4]? = some o4 ∧ W.heap[w.heap.size + 5]? = some o5 := by
  rintro W rfl
  simp only [heap_push, Array.getElem?_push, Array.size_push]
  refine ⟨?_, ?_, ?_, ?_, ?_, ?_⟩ <;> simp [Nat.add_assoc]

/-- What stands in memory between two rounds. -/
structure AllAt (w : World) (zs : List Int) (v u2 u3 u4 : Value) (pre : List Msg) (W : World) : Prop where
  fine : ∀ y ∈ pre, y.e = 0
  le : total pre ≤ zs.length
  many : 4 * pre.length ≤ total pre
  all : Boxed W (w.heap.size + 3) 44 v
  row : W.ownsRow (w.heap.size + 6) 22 1 v pre.length (pre.map fun y => y.p.v)
  size : Boxed W (w.heap.size + 4) 3 (.int .i64 (total pre : Nat))
  r2 : Boxed W w.heap.size 44 u2
  r3 : Boxed W (w.heap.size + 1) 3 u3
  r4 : Boxed W (w.heap.size + 2) 24 u4
  msgs : ∀ y ∈ pre, y.p.Own W (w.heap.size + 6)
  apart : pre.Pairwise fun y z => ∀ k, y.p.v.ownBlock = some k → z.p.v.ownBlock ≠ some k
  below : Below w.heap.size w W
  big : w.heap.size + 6 ≤ W.heap.size
  tally : after (pre.map fun y => y.p.zs) (total pre) (mall (zs.drop (total pre))) = mall zs

theorem AllAt.kept {w : World} {zs : List Int} {v u2 u3 u4 : Value} {pre : List Msg} {A B : World} {row : Option Nat} (h : AllAt w zs v u2 u3 u4 pre A) (hg : A.grownBy B row)
    (hr : ∀ r, row = some r → w.heap.size ≤ r ∧ (r = w.heap.size + 5 ∨ ∃ o : Obj, A.heap[r]? = some o ∧ o.isCells = false)) : AllAt w zs v u2 u3 u4 pre B := by
  have hb : ∀ k, k < 5 → ∀ r, row = some r → r ≠ w.heap.size + k ∨ ∃ o : Obj, A.heap[r]? = some o ∧ o.isCells = false := fun k hk r e => by
    rcases (hr r e).2 with h1 | h1
    · exact .inl (by omega)
    · exact .inr h1
  have hw : ∀ r, row = some r → r < w.heap.size + 6 ∨ ∃ o : Obj, A.heap[r]? = some o ∧ o.isCells = false := fun r e => by
    rcases (hr r e).2 with h1 | h1
    · exact .inl (by omega)
    · exact .inr h1
  exact ⟨h.fine, h.le, h.many, boxed_kept h.all hg (hb 3 (by omega)), row_kept h.row hg hw, boxed_kept h.size hg (hb 4 (by omega)), boxed_kept h.r2 hg (hb 0 (by omega)), boxed_kept h.r3 hg (hb 1 (by omega)), boxed_kept h.r4 hg (hb 2 (by omega)),
    fun y hy => ⟨(h.msgs y hy).1, row_kept (h.msgs y hy).2 hg hw⟩, h.apart, h.below.grown hg h.below.size (fun k e => (hr k e).1), Nat.le_trans h.big hg.size, h.tally⟩

theorem Told.kept {zs : List Int} {n₀ : Nat} {pre : List Msg} {x : Msg} {A B : World} {row : Option Nat} (h : Told zs n₀ pre x A) (hg : A.grownBy B row) (hr : ∀ r, row = some r → ∃ o : Obj, A.heap[r]? = some o ∧ o.isCells = false) : Told zs n₀ pre x B := by
  obtain ⟨h1, h2, h3, Bk, h4, h5, h6, h7⟩ := h
  exact ⟨h1, h2, h3, Bk, h4, h5, h6, row_kept h7 hg (fun r e => .inr (hr r e))⟩

/-- A step that turns one block which holds no pair. -/
theorem keepIt_grown {n₀ Bb : Nat} {A B : World} {row : Option Nat} (hg : A.grownBy B row) (hr : ∀ r, row = some r → n₀ ≤ r ∧ r ≠ Bb ∧ ∀ (cs : Array Value) (fz : Nat × Nat), A.heap[r]? ≠ some (Obj.cells cs 61 fz)) (hn : n₀ ≤ A.heap.size) (hb : Bb < A.heap.size) : KeepIt n₀ Bb A B := by
  refine ⟨(Below.refl _ _).grown hg hn (fun k e => (hr k e).1), hg.block Bb hb (fun e => (hr Bb e.symm).2.1 rfl), fun k cs fz hk => ?_⟩
  exact (hg.block k (Array.getElem?_eq_some_iff.1 hk).1 (fun e => (hr k e.symm).2.2 cs fz hk)).trans hk

theorem row_shape {W : World} {base e n : Nat} {v : Value} {xs : List Value} (h : W.ownsRow base e 1 v n xs) : ∃ a c, v = .slice a n c := by
  rcases h.2 with ⟨rfl, rfl⟩ | ⟨g, cap, cur, rfl, _⟩
  · exact ⟨_, _, rfl⟩
  · exact ⟨_, _, rfl⟩

theorem row_type {W : World} {base e n g : Nat} {v : Value} {xs : List Value} (h : W.ownsRow base e 1 v n xs) (hg : v.ownBlock = some g) : base ≤ g ∧ ∃ cur, W.heap[g]? = some (Obj.cells cur e (0, 0)) := by
  rcases h.2 with ⟨rfl, _⟩ | ⟨g', cap, cur, rfl, hb, hgb, _⟩
  · simp [Value.ownBlock] at hg
  · simp [Value.ownBlock] at hg
    subst hg
    exact ⟨hb, cur, hgb⟩

/-- A message more: what the round has turned, and what stands in memory behind it. -/
theorem AllAt.next {w : World} {zs : List Int} {v v' : Value} {pre : List Msg} {W w1 : World} {p : Part} {sz : Nat} (h : AllAt w zs v (.slice none 0 0) (.int .i64 0) (.int .i64 0) pre W) (hT : Told zs (w.heap.size + 5) pre ⟨p, sz, 0⟩ W)
    (hown : w1.ownsRow (w.heap.size + 6) 22 1 v' (pre.length + 1) ((pre.map fun y => y.p.v) ++ [p.v])) (hgrow : (W.alloc (.cells #[p.v] 22)).grownBy w1 v.ownBlock) :
    (Boxed w1 (w.heap.size + 3) 44 v ∧ Boxed (w1.setCell ⟨w.heap.size + 3, 0, none⟩ v') (w.heap.size + 4) 3 (.int .i64 (total pre : Nat)) ∧
      ∀ (k : Nat) (cs : Array Value) (fz : Nat × Nat), W.heap[k]? = some (Obj.cells cs 61 fz) → (w1.setCell ⟨w.heap.size + 3, 0, none⟩ v').heap[k]? = some (Obj.cells cs 61 fz)) ∧
    KeepsFrom (w.heap.size + 6) W ((w1.setCell ⟨w.heap.size + 3, 0, none⟩ v').setCell ⟨w.heap.size + 4, 0, none⟩ (.int .i64 ((total pre + sz : Nat) : Int))) ∧
    KeepIt w.heap.size (w.heap.size + 5) W ((w1.setCell ⟨w.heap.size + 3, 0, none⟩ v').setCell ⟨w.heap.size + 4, 0, none⟩ (.int .i64 ((total pre + sz : Nat) : Int))) ∧
    AllAt w zs v' (.slice none 0 0) (.int .i64 0) (.int .i64 0) (pre ++ [⟨p, sz, 0⟩]) ((w1.setCell ⟨w.heap.size + 3, 0, none⟩ v').setCell ⟨w.heap.size + 4, 0, none⟩ (.int .i64 ((total pre + sz : Nat) : Int))) := by
  have hbig := h.big
  have hrow : ∀ g, v.ownBlock = some g → w.heap.size + 6 ≤ g ∧ ∃ cur, W.heap[g]? = some (Obj.cells cur 22 (0, 0)) := fun g hg => row_type h.row hg
  have hch1 : ∀ k, k < W.heap.size → (∀ cur, W.heap[k]? ≠ some (Obj.cells cur 22 (0, 0))) ∨ k < w.heap.size + 6 → w1.heap[k]? = W.heap[k]? := by
    intro k hk hne
    refine (hgrow.block k (by simp; omega) (fun e => ?_)).trans (Below.heap_alloc _ _ _ hk)
    obtain ⟨h1, cur, h2⟩ := hrow k e.symm
    rcases hne with hne | hne
    · exact hne cur h2
    · omega
  have hs1 : W.heap.size ≤ w1.heap.size := by
    have := hgrow.size
    simp at this
    omega
  have hb3 : Boxed w1 (w.heap.size + 3) 44 v := (hch1 _ (by omega) (.inr (by omega))).trans h.all
  have hb4 : Boxed w1 (w.heap.size + 4) 3 (.int .i64 (total pre : Nat)) := (hch1 _ (by omega) (.inr (by omega))).trans h.size
  have hb42 : Boxed (w1.setCell ⟨w.heap.size + 3, 0, none⟩ v') (w.heap.size + 4) 3 (.int .i64 (total pre : Nat)) := hb4.other (by omega) v'
  have hpr : ∀ (k : Nat) (cs : Array Value) (fz : Nat × Nat), W.heap[k]? = some (Obj.cells cs 61 fz) → (w1.setCell ⟨w.heap.size + 3, 0, none⟩ v').heap[k]? = some (Obj.cells cs 61 fz) := by
    intro k cs fz hk
    rw [Below.heap_setCell _ _ _ _ (fun e => ?_)]
    · refine (hch1 k (Array.getElem?_eq_some_iff.1 hk).1 (.inl fun cur e => ?_)).trans hk
      rw [hk] at e
      cases e
    · have e' : k = w.heap.size + 3 := e
      subst e'
      have := hk.symm.trans h.all
      cases this
  refine ⟨⟨hb3, hb42, hpr⟩, ?_⟩
  obtain ⟨hmg, hfine, hle, Bk, hBk, hold, hpl, hpown⟩ := hT
  dsimp only at hmg hpl hpown
  have hsz := mg_size 65536 (zs.drop (total pre)) (by rw [hmg])
  rw [hmg, List.length_drop] at hsz
  dsimp only at hsz
  have hst := after_step (pre.map fun y => y.p.zs) (total pre) (zs.drop (total pre)) (by rw [hmg])
  rw [hmg, List.drop_drop] at hst
  dsimp only at hst
  generalize hw3 : (w1.setCell ⟨w.heap.size + 3, 0, none⟩ v').setCell ⟨w.heap.size + 4, 0, none⟩ (.int .i64 ((total pre + sz : Nat) : Int)) = w3
  have hs3 : w3.heap.size = w1.heap.size := by rw [← hw3]; simp [World.setCell]
  have hch : ∀ k, k < W.heap.size → k ≠ w.heap.size + 3 → k ≠ w.heap.size + 4 → (∀ cur, W.heap[k]? ≠ some (Obj.cells cur 22 (0, 0))) ∨ k < w.heap.size + 6 → w3.heap[k]? = W.heap[k]? := by
    intro k hk h3 h4 hne
    rw [← hw3, Below.heap_setCell _ _ _ _ (by simpa using h4), Below.heap_setCell _ _ _ _ (by simpa using h3)]
    exact hch1 k hk hne
  have hB3 : Below w.heap.size W w3 := by
    rw [← hw3]
    exact ((((Below.refl _ W).alloc (by omega) _).grown hgrow (by simp; omega) (fun k e => by have := (hrow k e).1; omega)).setCell (p := ⟨w.heap.size + 3, 0, none⟩) (by simp) _).setCell (p := ⟨w.heap.size + 4, 0, none⟩) (by simp) _
  have hmsg : ∀ (q : Part) (b : Nat), w.heap.size + 6 ≤ b → q.Own W b → q.Own w3 b := by
    intro q b hb hq
    refine ⟨hq.1, hq.2.1, ?_⟩
    rcases hq.2.2 with hn | ⟨g, c, cur, h1, h2, h3, h4⟩
    · exact .inl hn
    · refine .inr ⟨g, c, cur, h1, h2, (hch g (Array.getElem?_eq_some_iff.1 h3).1 (by omega) (by omega) (.inl fun cur' e => ?_)).trans h3, h4⟩
      rw [h3] at e
      cases e
  have hrow3 : w3.ownsRow (w.heap.size + 6) 22 1 v' (pre.length + 1) ((pre.map fun y => y.p.v) ++ [p.v]) := by
    rw [← hw3]
    exact ownsRow_setCell_below (ownsRow_setCell_below hown (a := ⟨w.heap.size + 3, 0, none⟩) (by simp) _) (a := ⟨w.heap.size + 4, 0, none⟩) (by simp) _
  refine ⟨⟨by omega, fun k o hk ho hc => ?_⟩, ⟨hB3, hch _ (by omega) (by omega) (by omega) (.inr (by omega)), fun k cs fz hk => ?_⟩, ?_⟩
  · refine (hch k (Array.getElem?_eq_some_iff.1 ho).1 (by omega) (by omega) (.inl fun cur e => ?_)).trans ho
    rw [ho] at e
    cases e
    cases hc
  · refine (hch k (Array.getElem?_eq_some_iff.1 hk).1 (fun e => ?_) (fun e => ?_) (.inl fun cur e => ?_)).trans hk
    · subst e
      have := hk.symm.trans h.all
      cases this
    · subst e
      have := hk.symm.trans h.size
      cases this
    · rw [hk] at e
      cases e
  · refine ⟨?_, ?_, ?_, ?_, ?_, ?_, ?_, ?_, ?_, ?_, ?_, h.below.trans hB3, by omega, ?_⟩
    · intro y hy
      rcases List.mem_append.1 hy with hy | hy
      · exact h.fine y hy
      · obtain rfl := List.mem_singleton.1 hy
        rfl
    · rw [total_snoc]
      show total pre + sz ≤ _
      omega
    · rw [total_snoc, List.length_append]
      have := h.many
      show 4 * (pre.length + 1) ≤ total pre + sz
      omega
    · rw [← hw3]
      exact (hb3.set v').other (by omega) _
    · rw [List.length_append, List.map_append]
      exact hrow3
    · rw [total_snoc, ← hw3]
      exact hb42.set _
    · exact (hch _ (by omega) (by omega) (by omega) (.inr (by omega))).trans h.r2
    · exact (hch _ (by omega) (by omega) (by omega) (.inr (by omega))).trans h.r3
    · exact (hch _ (by omega) (by omega) (by omega) (.inr (by omega))).trans h.r4
    · intro y hy
      rcases List.mem_append.1 hy with hy | hy
      · exact hmsg _ _ (Nat.le_refl _) (h.msgs y hy)
      · obtain rfl := List.mem_singleton.1 hy
        exact hmsg _ _ (Nat.le_refl _) (Part.Own.base ⟨hpl, hpown⟩ (by omega))
    · rw [List.pairwise_append]
      refine ⟨h.apart, List.pairwise_singleton _ _, fun y hy z hz k hk hk2 => ?_⟩
      obtain rfl := List.mem_singleton.1 hz
      have h1 := hold y hy k hk
      have h2 := (row_type hpown hk2).1
      omega
    · rw [total_snoc, List.map_append]
      show after ((pre.map fun y => y.p.zs) ++ [p.zs]) (total pre + sz) (mall (zs.drop (total pre + sz))) = mall zs
      rw [← hst]
      exact h.tally

/-- How a round may leave the loop. -/
def AllOut (w : World) (zs : List Int) (c : Code) (pre : List Msg) (W : World) : Prop :=
  ∃ pre' x v, pre = pre' ++ [x] ∧ ((c = .exit 0 ∧ mall (zs.drop (total pre')) = ([], 0, 0) ∧ AllAt w zs v (.slice none 0 0) (.int .i64 0) (.int .i64 0) pre' W) ∨
    (c = .ret ∧ mall (zs.drop (total pre')) = ([], 0, x.e) ∧ AllAt w zs v v (.int .i64 (total pre' : Nat)) (.int .i64 x.e) pre' W))

/-- What 'All' answers. -/
def allPost (w : World) (zs : List Int) (e : Ending) (w' : World) : Prop :=
  ∃ v, ∃ ps : List Part, e = .returned (.tuple #[v, .int .i64 ((mall zs).2.1 : Nat), .int .i64 (mall zs).2.2]) ∧ ps.map Part.zs = (mall zs).1 ∧
    w'.ownsRow w.heap.size 22 1 v ps.length (ps.map Part.v) ∧ (∀ p ∈ ps, p.Own w' w.heap.size) ∧ (ps.Pairwise fun p q => ∀ k, p.v.ownBlock = some k → q.v.ownBlock ≠ some k) ∧ Below w.heap.size w w'

theorem AllAt.set2 {w : World} {zs : List Int} {v u2 u3 u4 : Value} {pre : List Msg} {W : World} (h : AllAt w zs v u2 u3 u4 pre W) (x : Value) : AllAt w zs v x u3 u4 pre (W.setCell ⟨w.heap.size, 0, none⟩ x) :=
  ⟨h.fine, h.le, h.many, h.all.other (by omega) _, ownsRow_setCell_below h.row (by simp) _, h.size.other (by omega) _, h.r2.set x, h.r3.other (by omega) _, h.r4.other (by omega) _, fun y hy => ⟨(h.msgs y hy).1, ownsRow_setCell_below (h.msgs y hy).2 (by simp) _⟩, h.apart,
    h.below.setCell (p := ⟨w.heap.size, 0, none⟩) (by simp) _, by simp only [World.setCell, Array.size_modify]; exact h.big, h.tally⟩

theorem AllAt.set3 {w : World} {zs : List Int} {v u2 u3 u4 : Value} {pre : List Msg} {W : World} (h : AllAt w zs v u2 u3 u4 pre W) (x : Value) : AllAt w zs v u2 x u4 pre (W.setCell ⟨w.heap.size + 1, 0, none⟩ x) :=
  ⟨h.fine, h.le, h.many, h.all.other (by omega) _, ownsRow_setCell_below h.row (by simp) _, h.size.other (by omega) _, h.r2.other (by omega) _, h.r3.set x, h.r4.other (by omega) _, fun y hy => ⟨(h.msgs y hy).1, ownsRow_setCell_below (h.msgs y hy).2 (by simp) _⟩, h.apart,
    h.below.setCell (p := ⟨w.heap.size + 1, 0, none⟩) (by simp) _, by simp only [World.setCell, Array.size_modify]; exact h.big, h.tally⟩

theorem AllAt.set4 {w : World} {zs : List Int} {v u2 u3 u4 : Value} {pre : List Msg} {W : World} (h : AllAt w zs v u2 u3 u4 pre W) (x : Value) : AllAt w zs v u2 u3 x pre (W.setCell ⟨w.heap.size + 2, 0, none⟩ x) :=
  ⟨h.fine, h.le, h.many, h.all.other (by omega) _, ownsRow_setCell_below h.row (by simp) _, h.size.other (by omega) _, h.r2.other (by omega) _, h.r3.other (by omega) _, h.r4.set x, fun y hy => ⟨(h.msgs y hy).1, ownsRow_setCell_below (h.msgs y hy).2 (by simp) _⟩, h.apart,
    h.below.setCell (p := ⟨w.heap.size + 2, 0, none⟩) (by simp) _, by simp only [World.setCell, Array.size_modify]; exact h.big, h.tally⟩

theorem grown_drew (W : World) : W.grownBy W.drew none := ⟨rfl, rfl, rfl, Nat.le_refl _, fun _ _ _ => rfl⟩

theorem AllAt.drew {w : World} {zs : List Int} {v u2 u3 u4 : Value} {pre : List Msg} {W : World} (h : AllAt w zs v u2 u3 u4 pre W) : AllAt w zs v u2 u3 u4 pre W.drew := h.kept (grown_drew W) (by simp)

/-- What is answered, once the result cells hold it. -/
theorem AllAt.post {w : World} {zs : List Int} {v u2 u3 u4 : Value} {pre : List Msg} {W : World} {E : Int} {D : Nat} (h : AllAt w zs v u2 u3 u4 pre W) (hE : mall (zs.drop (total pre)) = ([], 0, E)) (hD : w.heap.size + 6 ≤ D) (hK : W.heap[D]? = some (.deferred (some []))) :
    allPost w zs (.returned (.tuple #[v, .int .i64 (total pre : Nat), .int .i64 E])) (W.putObj D (.deferred none)) := by
  have hk := h.kept (grownBy_putObj' W D (.deferred none)) (fun r e => by cases e; exact ⟨by omega, .inr ⟨_, hK, rfl⟩⟩)
  have ht := h.tally
  rw [hE] at ht
  simp only [after, List.append_nil, Nat.add_zero] at ht
  refine ⟨v, pre.map Msg.p, ?_, ?_, ?_, ?_, ?_, hk.below⟩
  · rw [← ht]
  · rw [← ht, List.map_map]
    rfl
  · rw [List.length_map, List.map_map]
    exact own_base hk.row (by omega)
  · intro p hp
    obtain ⟨y, hy, rfl⟩ := List.mem_map.1 hp
    exact (hk.msgs y hy).base (by omega)
  · rw [List.pairwise_map]
    exact hk.apart

set_option maxRecDepth 100000 in
set_option maxHeartbeats 2000000 in
theorem all_in (n : Nat) (hn : 4 ≤ n) (a : Option Addr) (len cap : Nat) (zs : List Int) (w : World) (hl : len ≤ 1000000) (hlc : len ≤ cap) (hm : cap ≤ 9223372036854775807) (hz : zs.length = len) (hb : Byt zs) (hs : Seg w a zs) (hnil : a = none → len = 0 ∧ cap = 0) :
    CallsIn Fence.wide n Tryd.prog 17 #[.slice a len cap] w (allPost w zs) := by
  have h1 : 1 ≤ n := by omega
  obtain ⟨i0, hi, hz0, hz1, hz2⟩ := info_parts infoR
  refine callsIn_of_wp_marks Tryd.func17 rfl trivial ?_ rfl
  simp only [Tryd.ntmps17, List.size_toArray, List.length_cons, List.length_nil, Nat.reduceAdd, Nat.reduceSub, Array.replicate_succ, Array.replicate_zero, List.push_toArray, List.append_toArray, List.nil_append, List.cons_append]
  gi_wp2_with fail
  refine ⟨trivial, (messages_in (n - 1) a len cap _).mono ?_⟩
  rintro e W0 ⟨rfl, hW0⟩
  simp only [World.size_alloc, Nat.add_assoc, Nat.reduceAdd]
  have hs0 : W0.heap.size = w.heap.size + 6 := by rw [hW0]; simp
  have hB0 : Below w.heap.size w W0 := by
    rw [hW0]
    exact ((((((Below.refl _ w).alloc (Nat.le_refl _) _).alloc (by simp) _).alloc (by simp; omega) _).alloc (by simp; omega) _).alloc (by simp; omega) _).alloc (by simp; omega) _
  have h6 := six_new w _ _ _ _ _ _ W0 hW0
  have hA0 : AllAt w zs (.slice none 0 0) (.slice none 0 0) (.int .i64 0) (.int .i64 0) [] W0 := by
    exact ⟨by simp, by simp [total], by simp [total], h6.2.2.2.1, World.ownsRow_nil _ _ _ _, h6.2.2.2.2.1, h6.1, h6.2.1, h6.2.2.1, by simp, List.Pairwise.nil, hB0, by omega, after_none _⟩
  have hIt0 : ItAt w zs len cap (w.heap.size + 5) [] W0 := by
    exact ⟨by simp, by simp, by simp [total], ⟨a, cap, h6.2.2.2.2.2, by simp [total]; omega, Nat.le_refl _, by simpa [total] using hs, fun e => by simpa [total] using hnil e⟩, hB0⟩
  clear hW0
  gi_wp2_with fail
  have hseq : SeqTurn Fence.wide (n - 1) Tryd.prog 66 #[.pointer (some ⟨w.heap.size + 5, 0, none⟩)] Msg.encs (w.heap.size + 5) (KeepIt w.heap.size (w.heap.size + 5)) (Told zs (w.heap.size + 5)) (fun xs => ∃ x ∈ xs, x.e ≠ 0) (fun _ => True) W0 := by
    intro l J Jx W hW hJ hJx hY h0
    refine msgs1_in (n - 1) l (w.heap.size + 5) (by omega) w zs len cap hz hb hm (by omega) J Jx hJ hJx hY W ?_ h0
    obtain ⟨ax, cx, hbx, r⟩ := hIt0.box
    exact ⟨by simp, by simp, hIt0.le, ⟨ax, cx, (hW.block _ (by omega)).trans hbx, r⟩, hB0.trans (hW.mono hB0.size)⟩
  have hbb : ∀ r, W0.heap.size ≤ r → w.heap.size ≤ r := fun r h => by omega
  refine range_turn rfl h1 (gf := 66) (lb := #[.pointer (some ⟨w.heap.size + 5, 0, none⟩)]) rfl trivial (enters_of Tryd.func66 (by kernel_rfl) rfl) hseq (by omega) keepIt_t
    (fun W l o o' hl h hc => keepIt_put o' h hc (by omega) (by omega)) (Below.refl _ _) (fun _ => rfl)
    (fun pre W => ∃ v, AllAt w zs v (.slice none 0 0) (.int .i64 0) (.int .i64 0) pre W) (AllOut w zs)
    (fun s A B row hs hg hr => by obtain ⟨v, hv⟩ := hs; exact ⟨v, hv.kept hg (fun r e => ⟨hbb r (hr r e).1, .inr (hr r e).2⟩)⟩)
    (fun c s A B row hs hg hr => by
      obtain ⟨pre', x, v, h1, h2⟩ := hs
      refine ⟨pre', x, v, h1, ?_⟩
      rcases h2 with ⟨h3, h4, h5⟩ | ⟨h3, h4, h5⟩
      · exact .inl ⟨h3, h4, h5.kept hg (fun r e => ⟨hbb r (hr r e).1, .inr (hr r e).2⟩)⟩
      · exact .inr ⟨h3, h4, h5.kept hg (fun r e => ⟨hbb r (hr r e).1, .inr (hr r e).2⟩)⟩)
    (fun s A B hs hg => by obtain ⟨v, hv⟩ := hs; exact ⟨v, hv.kept hg (fun r e => by cases e; exact ⟨by omega, .inl rfl⟩)⟩)
    (fun c s A B hs hg => by
      obtain ⟨pre', x, v, h1, h2⟩ := hs
      refine ⟨pre', x, v, h1, ?_⟩
      rcases h2 with ⟨h3, h4, h5⟩ | ⟨h3, h4, h5⟩
      · exact .inl ⟨h3, h4, h5.kept hg (fun r e => by cases e; exact ⟨by omega, .inl rfl⟩)⟩
      · exact .inr ⟨h3, h4, h5.kept hg (fun r e => by cases e; exact ⟨by omega, .inl rfl⟩)⟩)
    ⟨_, hA0⟩
    (fun pre x a' W => ∃ Bx, W.heap[Bx]? = some (Obj.cells #[x.p.v, .int .i64 (x.size : Nat)] 61) ∧ W0.heap.size ≤ Bx ∧ Told zs (w.heap.size + 5) pre x W ∧
      a' = { tmps := #[.slice a len cap, undef, .pointer (some ⟨w.heap.size, 0, none⟩), .pointer (some ⟨w.heap.size + 1, 0, none⟩), .pointer (some ⟨w.heap.size + 2, 0, none⟩), .pointer (some ⟨w.heap.size + 3, 0, none⟩), .pointer (some ⟨w.heap.size + 4, 0, none⟩), .pointer (some ⟨Bx, 0, none⟩), .int .i64 x.e, .slice a len cap, .func (.func 66) #[] #[.pointer (some ⟨w.heap.size + 5, 0, none⟩)], .agg #[x.p.v, .int .i64 (x.size : Nat)], .int .i64 x.e, undef, undef, undef, undef, undef, undef, undef, undef, undef, undef, undef, undef, undef, undef, undef, undef, undef, undef], defers := [] })
    (fun pre x a' _ A B row hs hg hr => by
      obtain ⟨Bx, e1, e2, e3, e4⟩ := hs
      refine ⟨Bx, (hg.block Bx (Array.getElem?_eq_some_iff.1 e1).1 (fun e => ?_)).trans e1, e2, e3.kept hg (fun r e => (hr r e).2), e4⟩
      obtain ⟨o, ho, hc⟩ := (hr Bx e.symm).2
      rw [e1] at ho
      cases ho
      cases hc)
    ?assign ?body ?done ?stop
  case assign =>
    rintro l pre ⟨⟨pa, pl, pc, pz⟩, sz, e⟩ W K ⟨v, hA⟩ hT hK
    dsimp only [Msg.encs, Part.v]
    gi_wp2
    have hbg := hA.big
    exact hK _ _ ((KeepsOthers.alloc _ _).from _) (keepIt_grown (World.grownBy_alloc W _ none) (by simp) (by omega) (by omega)) ⟨v, hA.kept (World.grownBy_alloc W _ none) (by simp)⟩
      ⟨W.heap.size, World.alloc_heap_new _ _, by omega, hT.kept (World.grownBy_alloc W _ none) (by simp), rfl⟩
  case body =>
    rintro l pre ⟨⟨pa, pl, pc, pz⟩, sz, e⟩ a' W ⟨v, hA⟩ ⟨Bx, hBx, hBx0, hT, rfl⟩
    dsimp only [Part.v] at hBx
    have hmg := hT.1
    dsimp only at hmg
    have cA := hA.all.cell
    have cS := hA.size.cell
    have cX0 : W.cell? ⟨Bx, 0, none⟩ = some (.slice pa pl pc) := by simp [World.cell?, hBx]
    have cX1 : W.cell? ⟨Bx, 1, none⟩ = some (.int .i64 (sz : Nat)) := by simp [World.cell?, hBx]
    by_cases h4 : e = 4
    · subst h4
      gi_wp2
      exact ⟨KeepsFrom.refl _ _, pre, _, v, rfl, .inl ⟨rfl, by rw [mall_bad _ (by rw [hmg]; simp), hmg]; rfl, hA⟩⟩
    · have h4b : (e == 4) = false := by simp [h4]
      by_cases h0 : e = 0
      · subst h0
        have hbg := hA.big
        have hmn := hA.many
        have hle := hA.le
        have cS4 := hA.size.cell
        gi_wp2_with (gi_at_builtin; refine wpListIn_append_own _ rfl _ _ 44 rfl (w.heap.size + 6) 22 i0 (.slice none 0 0) 1 24 Tryd.underlying44 hi hz0 hz1 hz2 rfl (by decide) v pre.length _ rfl (hA.row.alloc _) ⟨W.heap.size, 0, none⟩ 1 1 [.slice pa pl pc] rfl rfl (cell_one_new _ _ _) (by simp [Value.oneCell']) (by unfold maxLen; omega) (by omega) (by simp; omega) ?_; intro v' w1 hown' hgrow _; obtain ⟨g', cap', rfl⟩ := ownsRow_succ hown'; obtain ⟨⟨hb3, hb4, hpr⟩, hNx⟩ := hA.next hT hown' hgrow; have hX2 := hpr _ _ _ hBx; have cX2 : (w1.setCell ⟨w.heap.size + 3, 0, none⟩ (.slice (some ⟨g', 0, none⟩) (pre.length + 1) cap')).cell? ⟨Bx, 1, none⟩ = some (.int .i64 (sz : Nat)) := (by simp [World.cell?, hX2]); have cA1 := hb3.cell; have fA1 := hb3.frozen; have cS1 := hb4.cell; have fS1 := hb4.frozen)
        have hsz := mg_size 65536 (zs.drop (total pre)) (by rw [hmg])
        rw [hmg, List.length_drop] at hsz
        dsimp only at hsz
        have hwr : wrap64 ((total pre : Int) + (sz : Int)) = ((total pre + sz : Nat) : Int) := by
          unfold wrap64
          omega
        rw [hwr, hs0]
        exact ⟨hNx.1, hNx.2.1, _, hNx.2.2⟩
      · have h0b : (e != 0) = true := by simp [h0]
        obtain ⟨va, vc, rfl⟩ := row_shape hA.row
        have c2 := hA.r2.cell
        have c3 := hA.r3.cell
        have c4 := hA.r4.cell
        have f2 := hA.r2.frozen
        have f3 := hA.r3.frozen
        have f4 := hA.r4.frozen
        gi_wp2_with fail
        have hmx : Tryd.prog.follows .mixedOrders = true := by kernel_rfl
        gi_region_with_o (fail)
        all_goals gi_wp2
        all_goals exact ⟨((((KeepsOthers.setCell _ _ _).trans (KeepsOthers.setCell _ _ _)).trans (KeepsOthers.setCell _ _ _)).trans (KeepsOthers.drew _)).from _, pre, _, _, rfl, .inr ⟨rfl, by rw [mall_bad _ (by rw [hmg]; exact h0), hmg]; simp [h4], (((hA.set2 _).set3 _).set4 _).drew⟩⟩
  case done =>
    rintro D xs W hD ⟨x, hx, he⟩ ⟨v, hA⟩ hK
    exact absurd (hA.fine x hx) he
  case stop =>
    rintro D c pre W hD _ ⟨pre', x, v, rfl, (⟨rfl, hE, hA⟩ | ⟨rfl, hE, hA⟩)⟩ hK
    · obtain ⟨va, vc, rfl⟩ := row_shape hA.row
      have cA := hA.all.cell
      have cS := hA.size.cell
      have c2 := hA.r2.cell
      have c3 := hA.r3.cell
      have c4 := hA.r4.cell
      have f2 := hA.r2.frozen
      have f3 := hA.r3.frozen
      have f4 := hA.r4.frozen
      have hmx : Tryd.prog.follows .mixedOrders = true := by kernel_rfl
      gi_wp2_with fail
      gi_region
      gi_wp2
      have hA3 := (((hA.set2 (.slice va pre'.length vc)).set3 (.int .i64 (total pre' : Nat))).set4 (.int .i64 0)).drew
      have hK3 := ((((KeepsOthers.setCell W ⟨w.heap.size, 0, none⟩ (.slice va pre'.length vc)).trans (KeepsOthers.setCell _ ⟨w.heap.size + 1, 0, none⟩ (.int .i64 (total pre' : Nat)))).trans (KeepsOthers.setCell _ ⟨w.heap.size + 2, 0, none⟩ (.int .i64 0))).trans (KeepsOthers.drew _)).same D _ hK rfl
      generalize (((W.setCell ⟨w.heap.size, 0, none⟩ (.slice va pre'.length vc)).setCell ⟨w.heap.size + 1, 0, none⟩ (.int .i64 (total pre' : Nat))).setCell ⟨w.heap.size + 2, 0, none⟩ (.int .i64 0)).drew = W3 at hA3 hK3 ⊢
      refine ⟨by simp, .inl ⟨_, _, rfl, run_takeDeferred hK3, ?_⟩⟩
      have g2 := cell_kept hA3.r2.cell (grownBy_putObj' _ D (.deferred none)) (fun r e => by cases e; exact ⟨_, hK3, rfl⟩)
      have g3 := cell_kept hA3.r3.cell (grownBy_putObj' _ D (.deferred none)) (fun r e => by cases e; exact ⟨_, hK3, rfl⟩)
      have g4 := cell_kept hA3.r4.cell (grownBy_putObj' _ D (.deferred none)) (fun r e => by cases e; exact ⟨_, hK3, rfl⟩)
      refine ⟨_, ?_, hA3.post hE (by omega) hK3⟩
      simp [results, Tryd.f17, go_sem, g2, g3, g4]
    · have c2 := hA.r2.cell
      have c3 := hA.r3.cell
      have c4 := hA.r4.cell
      obtain ⟨va, vc, rfl⟩ := row_shape hA.row
      gi_wp2
      have hA3 := hA
      have hK3 := hK
      refine ⟨by simp, .inl ⟨_, _, rfl, run_takeDeferred hK3, ?_⟩⟩
      have g2 := cell_kept hA3.r2.cell (grownBy_putObj' _ D (.deferred none)) (fun r e => by cases e; exact ⟨_, hK3, rfl⟩)
      have g3 := cell_kept hA3.r3.cell (grownBy_putObj' _ D (.deferred none)) (fun r e => by cases e; exact ⟨_, hK3, rfl⟩)
      have g4 := cell_kept hA3.r4.cell (grownBy_putObj' _ D (.deferred none)) (fun r e => by cases e; exact ⟨_, hK3, rfl⟩)
      refine ⟨_, ?_, hA3.post hE (by omega) hK3⟩
      simp [results, Tryd.f17, go_sem, g2, g3, g4]

/-- 'All', at any bytes, no more than a million. -/
theorem all_any (a : Option Addr) (len cap : Nat) (zs : List Int) (w : World) (hl : len ≤ 1000000) (hlc : len ≤ cap) (hm : cap ≤ 9223372036854775807) (hz : zs.length = len) (hb : Byt zs) (hs : Seg w a zs) (hnil : a = none → len = 0 ∧ cap = 0) :
    Calls Tryd.prog 17 #[.slice a len cap] w (allPost w zs) :=
  callsIn_wide.1 (all_in 4 (by omega) a len cap zs w hl hlc hm hz hb hs hnil)
end Go.Proofs.YtmjjoiljdcjhdaaDoor
