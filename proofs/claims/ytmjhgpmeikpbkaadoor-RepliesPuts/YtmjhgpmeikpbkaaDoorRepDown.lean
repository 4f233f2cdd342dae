/- From what a row's frame tells of a reply that came in to its fields themselves. -/
import Derived.Test.YtmjhgpmeikpbkaaDoorBytesDown
import Derived.Test.YtmjhgpmeikpbkaaDoorRepMath
import Derived.Lib.SmallJoins
namespace Go.Proofs.YtmjhgpmeikpbkaaDoor
set_option linter.unusedVariables false
open Go.RowKit Go.ChangeShapes Go.WideShapes Go.ChangeAt

theorem array5 {α : Type} {cs : Array α} (h : cs.size = 5) : ∃ c0 c1 c2 c3 c4, cs = #[c0, c1, c2, c3, c4] := by
  obtain ⟨l⟩ := cs
  match l, h with
  | [c0, c1, c2, c3, c4], _ => exact ⟨c0, c1, c2, c3, c4, rfl⟩
theorem list5 {α : Type} {cs : List α} (h : cs.length = 5) : ∃ c0 c1 c2 c3 c4, cs = [c0, c1, c2, c3, c4] := by
  match cs, h with
  | [c0, c1, c2, c3, c4], _ => exact ⟨c0, c1, c2, c3, c4, rfl⟩

set_option maxRecDepth 100000 in
theorem reply_down {H : Type} {enc : TypeId × Value → H} {W : World} {held : Bool} {r : Reach} {b0 : Nat} {v : Value} {d : DataW H} {p : List MemPlace} (hv : Value.okWide Tryd.prog W r b0 26 v)
    (h : DataW.Trod enc Tryd.prog W 0 (fun _ => true) held 26 v d p) (hw : ∀ n ∈ d.weights Tryd.prog 26, n ≤ reachBytes) :
    ∃ x h' l g ba bl bc, v = .agg #[.int .u32 x, .int .u32 h', .int .u32 l, .int .u32 g, .slice ba bl bc] ∧ U x ∧ U h' ∧ U l ∧ U g ∧ (bl ≤ bc ∧ bc ≤ 140737488351232) ∧ ∃ bs : List Int, bs.length = bl ∧ Byt bs ∧ Seg W ba bs ∧ (ba = none → bl = 0 ∧ bc = 0) := by
  obtain ⟨cs, rfl, hsz⟩ := okWide_struct Tryd.underlying26 hv
  obtain ⟨c0, c1, c2, c3, c4, rfl⟩ := array5 (hsz.trans (by kernel_rfl))
  obtain ⟨fuel, hf⟩ := h
  obtain ⟨xs, n, _, hx, hl, hlen, hfs⟩ := DataW.trod_struct Tryd.underlying26 hf
  obtain ⟨y0, y1, y2, y3, y4, rfl⟩ := list5 hlen
  have h0 : DataW.trod enc Tryd.prog W 0 (fun _ => true) held n 22 [c0] = some y0 := hfs 0 _ rfl
  have h1 : DataW.trod enc Tryd.prog W 0 (fun _ => true) held n 23 [c1] = some y1 := hfs 1 _ rfl
  have h2 : DataW.trod enc Tryd.prog W 0 (fun _ => true) held n 22 [c2] = some y2 := hfs 2 _ rfl
  have h3 : DataW.trod enc Tryd.prog W 0 (fun _ => true) held n 22 [c3] = some y3 := hfs 3 _ rfl
  have h4 : DataW.trod enc Tryd.prog W 0 (fun _ => true) held n 24 [c4] = some y4 := hfs 4 _ rfl
  simp only [Prod.mk.injEq] at hx
  obtain ⟨rfl, _⟩ := hx
  obtain ⟨x, rfl, bx⟩ := num_down h0
  obtain ⟨u, e1, _, wu⟩ := DataW.trod_int Tryd.underlying23 h1
  simp at e1
  subst e1
  have bu := bounds_u32 wu
  obtain ⟨l, rfl, bl⟩ := num_down h2
  obtain ⟨g, rfl, bg⟩ := num_down h3
  obtain ⟨ba, bn, bc, rfl, blc, bcm, bz, bzl, bb, bseg, bnn⟩ := bytes_down h4 (fun n hn => hw n (by
    simp only [DataW.weights, Tryd.underlying26]
    exact DataW.weights_mem_each (j := 4) rfl rfl n hn))
  exact ⟨x, u, l, g, ba, bn, bc, rfl, ⟨bx.1, bx.2⟩, ⟨bu.1, by omega⟩, ⟨bl.1, bl.2⟩, ⟨bg.1, bg.2⟩, ⟨blc, bcm⟩, bz, bzl, bb, bseg, bnn⟩
end Go.Proofs.YtmjhgpmeikpbkaaDoor
