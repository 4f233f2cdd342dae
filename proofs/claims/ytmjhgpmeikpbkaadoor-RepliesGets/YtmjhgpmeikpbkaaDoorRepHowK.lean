/- Words for the walk of 'how': what stays while rows are struck; stores of a whole row; the step over the map of rows. -/
import Derived.Test.YtmjhgpmeikpbkaaDoorHowMath
import Derived.Test.YtmjhgpmeikpbkaaDoorRepNum
import Derived.Deep.WholeRow
namespace Go.Proofs.YtmjhgpmeikpbkaaDoor
set_option linter.unusedVariables false
open Go.RowKit Go.Maps

/-- A whole variable is stored. -/
theorem wpList_store_whole {P : Program} {ops : Array Oper} {rest : List Oper} {op : Oper} {a : Act} {w : World} {Q : Exit → Act → World → Prop} (hgd : op.guard = none) (ty : TypeId) (x y : Operand) (ho : op.op = .store ty x y)
    (g : Nat) (cells : Array Value) (hx : a.eval x = .pointer (some ⟨g, 0, none⟩)) (hy : a.eval y = .agg cells)
    (t : TypeId) (old : Array Value) (hg : w.heap[g]? = some (.cells old t (0, 0))) (hi : (P.info? ty).map (·.size) = some cells.size)
    (hold : old.size = cells.size) (h1 : cells.all (·.oneCell') = true)
    (h : ∀ w' : World, w'.heap[g]? = some (.cells cells t (0, 0)) → w.grownBy w' (some g) → w'.heap.size = w.heap.size → wpList P ops Q rest (a.put op.dst undef) w') : wpList P ops Q (op :: rest) a w := by
  refine wpList_plain hgd fun _ hK => wp_store_row ty x y ho g cells hx hy t old hg hi hold h1 (hK _ _ (h _ ?_ ⟨rfl, rfl, rfl, ?_, ?_⟩ ?_))
  · have hl := (Array.getElem?_eq_some_iff.1 hg).1
    simp [World.setRow, Array.getElem?_modify, hg]
  · simp [World.setRow]
  · intro i hi' hne
    have : ¬ g = i := fun e => hne (by rw [e])
    simp [World.setRow, Array.getElem?_modify, this]
  · simp [World.setRow]

def zeroRow : Array Value := #[.int .u32 0, .int .u32 0, .int .u32 0, .int .u32 0, .int .i64 0, .int .u32 0, .int .u32 0, .int .u32 0, .int .u32 0, .bool false]

/-- What stays in 'how'. -/
structure Hw (w W : World) (d C : Nat) (zs : List Int) (wr : World) : Prop where
  rd : ∃ a len cap, Rd w wr d a len cap zs
  res : wr.heap[C]? = some (.cells #[.int .u32 0, .int .u32 0, .int .u32 0, .int .u32 0, .int .i64 0, .int .u32 0, .int .u32 0, .int .u32 0, .int .u32 0, .bool false] 57)
  any : Any wr
  grown : W.grownBy wr (some d)
  hd : d < W.heap.size
  hC : W.heap.size ≤ C
  pos : 0 < w.heap.size

theorem Rd.stay {w W W' : World} {d : Nat} {a : Option Addr} {len cap : Nat} {zs : List Int} (h : Rd w W d a len cap zs) (hd : W'.heap[d]? = W.heap[d]?) (hb : Below w.heap.size w W') : Rd w W' d a len cap zs :=
  ⟨hd.trans h.box, h.hz, h.le, h.max, h.byt, h.seg, h.nil, h.low, hb⟩

theorem Hw.low {w W : World} {d C : Nat} {zs : List Int} {wr : World} (h : Hw w W d C zs wr) : w.heap.size ≤ d := by
  obtain ⟨_, _, _, h⟩ := h.rd
  exact h.low

theorem Hw.kept {w W : World} {d C : Nat} {zs : List Int} {wr wr' : World} (h : Hw w W d C zs wr) {row : Option Nat} (hg : wr.grownBy wr' row) (hr : ∀ j, row = some j → W.heap.size ≤ j ∧ j ≠ C) : Hw w W d C zs wr' := by
  have hlow := h.low
  have hs := h.grown.size
  have hd := h.hd
  have hpos := h.pos
  have hlC := (Array.getElem?_eq_some_iff.1 h.res).1
  refine ⟨?_, ?_, ?_, ?_, h.hd, h.hC, h.pos⟩
  · obtain ⟨a, len, cap, hr0⟩ := h.rd
    exact ⟨a, len, cap, hr0.stay (hg.block d (by omega) (fun e => by have := (hr d e.symm).1; omega)) (hr0.below.grown hg hr0.below.size (fun k e => by have := (hr k e).1; omega))⟩
  · exact (hg.block C hlC (fun e => (hr C e.symm).2 rfl)).trans h.res
  · have h0 : wr'.heap[0]? = wr.heap[0]? := hg.block 0 (by omega) (fun e => by have := (hr 0 e.symm).1; omega)
    exact ⟨(World.cell?_of_block (a := ⟨0, 0, none⟩) h0).trans h.any.c0, (World.cell?_of_block (a := ⟨0, 1, none⟩) h0).trans h.any.c1⟩
  · exact h.grown.andThen hg (fun j hj => .inl (hr j hj).1)

/-- A number is read. -/
theorem Hw.num {w W : World} {d C : Nat} {zs : List Int} {wr w1 : World} (h : Hw w W d C zs wr) {s0 s1 : Int} (hp : NumPost w wr d s0 s1 zs w1) (he : nuE s0 s1 zs = 0) : Hw w W d C (nuZ s0 s1 zs) w1 := by
  have hlow := h.low
  have hs := h.grown.size
  have hd := h.hd
  have hpos := h.pos
  have hlC := (Array.getElem?_eq_some_iff.1 h.res).1
  have hC := h.hC
  refine ⟨hp.left he, ?_, ?_, ?_, h.hd, h.hC, h.pos⟩
  · exact (hp.grown.block C hlC (fun e => by cases e; omega)).trans h.res
  · have h0 : w1.heap[0]? = wr.heap[0]? := hp.grown.block 0 (by omega) (fun e => by cases e; omega)
    exact ⟨(World.cell?_of_block (a := ⟨0, 0, none⟩) h0).trans h.any.c0, (World.cell?_of_block (a := ⟨0, 1, none⟩) h0).trans h.any.c1⟩
  · exact h.grown.andThen hp.grown (fun j hj => .inr hj)

/-- The error of a number, whatever it is: what has turned. -/
theorem Hw.err {w W : World} {d C : Nat} {zs : List Int} {wr w1 : World} (h : Hw w W d C zs wr) {s0 s1 : Int} (hp : NumPost w wr d s0 s1 zs w1) : W.grownBy w1 (some d) ∧ w1.heap[C]? = some (.cells #[.int .u32 0, .int .u32 0, .int .u32 0, .int .u32 0, .int .i64 0, .int .u32 0, .int .u32 0, .int .u32 0, .int .u32 0, .bool false] 57) := by
  have hd := h.hd
  have hC := h.hC
  have hlC := (Array.getElem?_eq_some_iff.1 h.res).1
  exact ⟨h.grown.andThen hp.grown (fun j hj => .inr hj), (hp.grown.block C hlC (fun e => by cases e; omega)).trans h.res⟩

/-- The step over the map of rows. -/
theorem wpList_next_rows (w : World) {ops : Array Oper} {rest : List Oper} {o : Oper} {a : Act} {Q : Exit → Act → World → Prop} (hg : o.guard = none) (it : Operand) (hop : o.op = Op.next it false)
    (b r n : Nat) (L : List Int) (left : Lit → Bool) (cnt : Nat) (hit : a.eval it = .pointer (some ⟨r, 0, none⟩)) (h : w.ranges Tryd.prog 23 rowR b r n (Dp L) left cnt)
    (hDone : (∀ kl, left kl = false) → wpList Tryd.prog ops Q rest (a.put o.dst (.tuple #[.bool false])) w)
    (hMore : ∀ (x : Int) (w' : World) (cnt' : Nat), x ∈ L → w'.ranges Tryd.prog 23 rowR b r n (Dp L) (fun z => left z && !z.sameKey (.int .u32 x)) cnt' → cnt' < cnt →
      w.grownBy w' (some r) → (Instr.entry (.pointer (some ⟨r, 0, none⟩))).run Tryd.prog w' = .ok (.tuple #[.int .u32 x, rowV x]) w' → wpList Tryd.prog ops Q rest (a.put o.dst (.tuple #[.bool true, .int .u32 x, rowV x])) w') :
    wpList Tryd.prog ops Q (o :: rest) a w := by
  refine wpList_next_ranges w hg it hop 23 lawA rowR (Value.int .u32) rowV (fun key kl hkey => by obtain ⟨x, rfl, _⟩ := Maps.keyOf_int_inv Tryd.underlying23 hkey; exact ⟨x, rfl⟩) (fun v y hv => by obtain ⟨c, _, rfl, _⟩ := rowR_inv hv; exact ⟨c, rfl⟩)
    b r n (Dp L) left cnt hit h (fun _ hl => hDone hl) (fun x c kl y w' cnt' hkey hlk hv hat hrg hlt hgr hsz hen => ?_)
  obtain ⟨x', ex, rfl, hwx⟩ := Maps.keyOf_int_inv Tryd.underlying23 hkey
  cases ex
  obtain ⟨hxL, hcx⟩ := came hv hat
  rw [hcx] at hen
  rw [hcx]
  exact hMore x w' cnt' hxL hrg hlt hgr hen
end Go.Proofs.YtmjhgpmeikpbkaaDoor
