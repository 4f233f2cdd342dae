/- The walk of 'AttrsPutsWeak', whole. -/
import Derived.Test.YtecbhhfncklefaaDoorWPutsLaw
import Derived.Test.YtecbhhfncklefaaDoorPPutWStoreWholeRegRowMx
import Derived.Test.YtecbhhfncklefaaDoorRefWPutMx
import Derived.Test.YtecbhhfncklefaaDoorAttrMath
import Derived.Test.YtecbhhfncklefaaDoorRows
import Derived.OpenShut
import Derived.ChangeArms
import Derived.WideShapes
import Derived.RowKit
import Derived.ProofKit
namespace Go.Proofs.YtecbhhfncklefaaDoor
set_option linter.unusedVariables false
open Go.RowKit

theorem wputs_end (x : Wk) (w : World) (hx : x.In) : Calls Tryd.prog 5 #[.agg #[.bool x.hb, .int .u64 x.size, .int .u32 x.ws, .int .u32 x.wn, .int .u32 x.ts, .int .u32 x.tn, .bool x.ha, .int .u32 x.af.kind, .int .u32 x.af.mode, .int .u32 x.af.links, .int .u32 x.af.user, .int .u32 x.af.group, .int .u64 x.af.size, .int .u64 x.af.used, .int .u64 x.af.id, .int .u32 x.af.rs, .int .u32 x.af.rn, .int .u32 x.af.ws, .int .u32 x.af.wn, .int .u32 x.af.ts, .int .u32 x.af.tn]] w fun e w' => e = .returned (.bool true) ∧ Below w.heap.size w w' := wputs_walk wput_any refwput_any x w hx
end Go.Proofs.YtecbhhfncklefaaDoor

/- From what a row's frame tells of a number, a point of time that came in to itself. -/
namespace Go.Proofs.YtecbhhfncklefaaDoor
set_option linter.unusedVariables false
open Go.RowKit Go.ChangeShapes Go.WideShapes Go.ChangeAt

theorem lst2 {α : Type} {cs : List α} (h : cs.length = 2) : ∃ c0 c1, cs = [c0, c1] := by
  match cs, h with
  | [c0, c1], _ => exact ⟨c0, c1, rfl⟩
theorem lst11 {α : Type} {cs : List α} (h : cs.length = 11) : ∃ c0 c1 c2 c3 c4 c5 c6 c7 c8 c9 c10, cs = [c0, c1, c2, c3, c4, c5, c6, c7, c8, c9, c10] := by
  match cs, h with
  | [c0, c1, c2, c3, c4, c5, c6, c7, c8, c9, c10], _ => exact ⟨c0, c1, c2, c3, c4, c5, c6, c7, c8, c9, c10, rfl⟩
theorem lst12 {α : Type} {cs : List α} (h : cs.length = 12) : ∃ c0 c1 c2 c3 c4 c5 c6 c7 c8 c9 c10 c11, cs = [c0, c1, c2, c3, c4, c5, c6, c7, c8, c9, c10, c11] := by
  match cs, h with
  | [c0, c1, c2, c3, c4, c5, c6, c7, c8, c9, c10, c11], _ => exact ⟨c0, c1, c2, c3, c4, c5, c6, c7, c8, c9, c10, c11, rfl⟩
theorem lst6 {α : Type} {cs : List α} (h : cs.length = 6) : ∃ c0 c1 c2 c3 c4 c5, cs = [c0, c1, c2, c3, c4, c5] := by
  match cs, h with
  | [c0, c1, c2, c3, c4, c5], _ => exact ⟨c0, c1, c2, c3, c4, c5, rfl⟩
theorem arr14 {α : Type} {cs : Array α} (h : cs.size = 14) : ∃ c0 c1 c2 c3 c4 c5 c6 c7 c8 c9 c10 c11 c12 c13, cs = #[c0, c1, c2, c3, c4, c5, c6, c7, c8, c9, c10, c11, c12, c13] := by
  obtain ⟨l⟩ := cs
  match l, h with
  | [c0, c1, c2, c3, c4, c5, c6, c7, c8, c9, c10, c11, c12, c13], _ => exact ⟨c0, c1, c2, c3, c4, c5, c6, c7, c8, c9, c10, c11, c12, c13, rfl⟩
theorem arr21 {α : Type} {cs : Array α} (h : cs.size = 21) : ∃ c0 c1 c2 c3 c4 c5 c6 c7 c8 c9 c10 c11 c12 c13 c14 c15 c16 c17 c18 c19 c20, cs = #[c0, c1, c2, c3, c4, c5, c6, c7, c8, c9, c10, c11, c12, c13, c14, c15, c16, c17, c18, c19, c20] := by
  obtain ⟨l⟩ := cs
  match l, h with
  | [c0, c1, c2, c3, c4, c5, c6, c7, c8, c9, c10, c11, c12, c13, c14, c15, c16, c17, c18, c19, c20], _ => exact ⟨c0, c1, c2, c3, c4, c5, c6, c7, c8, c9, c10, c11, c12, c13, c14, c15, c16, c17, c18, c19, c20, rfl⟩

section
variable {H : Type} {enc : TypeId × Value → H} {W : World} {held : Bool} {fuel : Nat}
theorem n32_down {t : TypeId} (ht : Tryd.prog.underlying t = some (.int .u32)) {v : Value} {x : DataW H × List MemPlace} (h : DataW.trod enc Tryd.prog W 0 (fun _ => true) held fuel t [v] = some x) : ∃ n : Int, v = .int .u32 n ∧ 0 ≤ n ∧ n ≤ 4294967295 := by
  obtain ⟨u, e0, _, wu⟩ := DataW.trod_int ht h
  simp at e0
  have := bounds_u32 wu
  exact ⟨u, e0, this.1, by omega⟩
theorem n64_down {t : TypeId} (ht : Tryd.prog.underlying t = some (.int .u64)) {v : Value} {x : DataW H × List MemPlace} (h : DataW.trod enc Tryd.prog W 0 (fun _ => true) held fuel t [v] = some x) : ∃ n : Int, v = .int .u64 n ∧ 0 ≤ n ∧ n ≤ 18446744073709551615 := by
  obtain ⟨u, e0, _, wu⟩ := DataW.trod_int ht h
  simp at e0
  have := bounds_u64 wu
  exact ⟨u, e0, this.1, by omega⟩
theorem yn_down {v : Value} {x : DataW H × List MemPlace} (h : DataW.trod enc Tryd.prog W 0 (fun _ => true) held fuel 4 [v] = some x) : ∃ b : Bool, v = .bool b := by
  obtain ⟨b, e0, _⟩ := DataW.trod_bool Tryd.underlying4 h
  simp at e0
  exact ⟨b, e0⟩
set_option maxRecDepth 100000 in
theorem tm_down {v u : Value} {x : DataW H × List MemPlace} (h : DataW.trod enc Tryd.prog W 0 (fun _ => true) held fuel 26 [v, u] = some x) : ∃ n g : Int, v = .int .u32 n ∧ u = .int .u32 g ∧ (0 ≤ n ∧ n ≤ 4294967295) ∧ (0 ≤ g ∧ g ≤ 4294967295) := by
  obtain ⟨xs, n, _, hx, hl, hlen, hfs⟩ := DataW.trod_struct Tryd.underlying26 h
  obtain ⟨y0, y1, rfl⟩ := lst2 hlen
  have h0 : DataW.trod enc Tryd.prog W 0 (fun _ => true) held n 22 [v] = some y0 := hfs 0 _ rfl
  have h1 : DataW.trod enc Tryd.prog W 0 (fun _ => true) held n 22 [u] = some y1 := hfs 1 _ rfl
  obtain ⟨a, ea, ba⟩ := n32_down Tryd.underlying22 h0
  obtain ⟨b, eb, bb⟩ := n32_down Tryd.underlying22 h1
  exact ⟨a, b, ea, eb, ba, bb⟩
end
end Go.Proofs.YtecbhhfncklefaaDoor

/- From what a row's frame tells of what is told of a node to its fields. -/
namespace Go.Proofs.YtecbhhfncklefaaDoor
set_option linter.unusedVariables false
open Go.RowKit Go.ChangeShapes Go.WideShapes Go.ChangeAt

set_option maxRecDepth 100000 in
set_option maxHeartbeats 1000000 in
theorem attr_fields {H : Type} {enc : TypeId × Value → H} {W : World} {held : Bool} {fuel : Nat} {c0 c1 c2 c3 c4 c5 c6 c7 c8 c9 c10 c11 c12 c13 : Value} {z : DataW H × List MemPlace} (h : DataW.trod enc Tryd.prog W 0 (fun _ => true) held fuel 28 [c0, c1, c2, c3, c4, c5, c6, c7, c8, c9, c10, c11, c12, c13] = some z) :
    ∃ x : Atr, [c0, c1, c2, c3, c4, c5, c6, c7, c8, c9, c10, c11, c12, c13] = [.int .u32 x.kind, .int .u32 x.mode, .int .u32 x.links, .int .u32 x.user, .int .u32 x.group, .int .u64 x.size, .int .u64 x.used, .int .u64 x.id, .int .u32 x.rs, .int .u32 x.rn, .int .u32 x.ws, .int .u32 x.wn, .int .u32 x.ts, .int .u32 x.tn] ∧ x.In := by
  obtain ⟨xs, n, _, hx, hl, hlen, hfs⟩ := DataW.trod_struct Tryd.underlying28 h
  obtain ⟨y0, y1, y2, y3, y4, y5, y6, y7, y8, y9, y10, rfl⟩ := lst11 hlen
  have h0 : DataW.trod enc Tryd.prog W 0 (fun _ => true) held n 23 [c0] = some y0 := hfs 0 _ rfl
  obtain ⟨a0, rfl, b0⟩ := n32_down Tryd.underlying23 h0
  have h1 : DataW.trod enc Tryd.prog W 0 (fun _ => true) held n 22 [c1] = some y1 := hfs 1 _ rfl
  obtain ⟨a1, rfl, b1⟩ := n32_down Tryd.underlying22 h1
  have h2 : DataW.trod enc Tryd.prog W 0 (fun _ => true) held n 22 [c2] = some y2 := hfs 2 _ rfl
  obtain ⟨a2, rfl, b2⟩ := n32_down Tryd.underlying22 h2
  have h3 : DataW.trod enc Tryd.prog W 0 (fun _ => true) held n 22 [c3] = some y3 := hfs 3 _ rfl
  obtain ⟨a3, rfl, b3⟩ := n32_down Tryd.underlying22 h3
  have h4 : DataW.trod enc Tryd.prog W 0 (fun _ => true) held n 22 [c4] = some y4 := hfs 4 _ rfl
  obtain ⟨a4, rfl, b4⟩ := n32_down Tryd.underlying22 h4
  have h5 : DataW.trod enc Tryd.prog W 0 (fun _ => true) held n 24 [c5] = some y5 := hfs 5 _ rfl
  obtain ⟨a5, rfl, b5⟩ := n64_down Tryd.underlying24 h5
  have h6 : DataW.trod enc Tryd.prog W 0 (fun _ => true) held n 24 [c6] = some y6 := hfs 6 _ rfl
  obtain ⟨a6, rfl, b6⟩ := n64_down Tryd.underlying24 h6
  have h7 : DataW.trod enc Tryd.prog W 0 (fun _ => true) held n 24 [c7] = some y7 := hfs 7 _ rfl
  obtain ⟨a7, rfl, b7⟩ := n64_down Tryd.underlying24 h7
  have h8 : DataW.trod enc Tryd.prog W 0 (fun _ => true) held n 26 [c8, c9] = some y8 := hfs 8 _ rfl
  obtain ⟨a8, a9, rfl, rfl, b8, b9⟩ := tm_down h8
  have h9 : DataW.trod enc Tryd.prog W 0 (fun _ => true) held n 26 [c10, c11] = some y9 := hfs 9 _ rfl
  obtain ⟨a10, a11, rfl, rfl, b10, b11⟩ := tm_down h9
  have h10 : DataW.trod enc Tryd.prog W 0 (fun _ => true) held n 26 [c12, c13] = some y10 := hfs 10 _ rfl
  obtain ⟨a12, a13, rfl, rfl, b12, b13⟩ := tm_down h10
  exact ⟨⟨a0, a1, a2, a3, a4, a5, a6, a7, a8, a9, a10, a11, a12, a13⟩, rfl, ⟨b0, b1, b2, b3, b4, b5, b6, b7, b8, b9, b10, b11, b12, b13⟩⟩

set_option maxRecDepth 100000 in
theorem attrs_down {H : Type} {enc : TypeId × Value → H} {W : World} {held : Bool} {r : Reach} {b0 : Nat} {v : Value} {d : DataW H} {p : List MemPlace} (hv : Value.okWide Tryd.prog W r b0 28 v)
    (h : DataW.Trod enc Tryd.prog W 0 (fun _ => true) held 28 v d p) : ∃ x : Atr, v = .agg #[.int .u32 x.kind, .int .u32 x.mode, .int .u32 x.links, .int .u32 x.user, .int .u32 x.group, .int .u64 x.size, .int .u64 x.used, .int .u64 x.id, .int .u32 x.rs, .int .u32 x.rn, .int .u32 x.ws, .int .u32 x.wn, .int .u32 x.ts, .int .u32 x.tn] ∧ x.In := by
  obtain ⟨cs, rfl, hsz⟩ := okWide_struct Tryd.underlying28 hv
  obtain ⟨c0, c1, c2, c3, c4, c5, c6, c7, c8, c9, c10, c11, c12, c13, rfl⟩ := arr14 (hsz.trans (by kernel_rfl))
  obtain ⟨fuel, hf⟩ := h
  obtain ⟨x, hx, hin⟩ := attr_fields hf
  cases hx
  exact ⟨x, rfl, hin⟩
end Go.Proofs.YtecbhhfncklefaaDoor

/- From what a row's frame tells of what was told ahead and behind to its fields. -/
namespace Go.Proofs.YtecbhhfncklefaaDoor
set_option linter.unusedVariables false
open Go.RowKit Go.ChangeShapes Go.WideShapes Go.ChangeAt

set_option maxRecDepth 100000 in
set_option maxHeartbeats 1000000 in
theorem weak_down {H : Type} {enc : TypeId × Value → H} {W : World} {held : Bool} {r : Reach} {b0 : Nat} {v : Value} {d : DataW H} {p : List MemPlace} (hv : Value.okWide Tryd.prog W r b0 41 v)
    (h : DataW.Trod enc Tryd.prog W 0 (fun _ => true) held 41 v d p) : ∃ x : Wk, v = .agg #[.bool x.hb, .int .u64 x.size, .int .u32 x.ws, .int .u32 x.wn, .int .u32 x.ts, .int .u32 x.tn, .bool x.ha, .int .u32 x.af.kind, .int .u32 x.af.mode, .int .u32 x.af.links, .int .u32 x.af.user, .int .u32 x.af.group, .int .u64 x.af.size, .int .u64 x.af.used, .int .u64 x.af.id, .int .u32 x.af.rs, .int .u32 x.af.rn, .int .u32 x.af.ws, .int .u32 x.af.wn, .int .u32 x.af.ts, .int .u32 x.af.tn] ∧ x.In := by
  obtain ⟨cs, rfl, hsz⟩ := okWide_struct Tryd.underlying41 hv
  obtain ⟨c0, c1, c2, c3, c4, c5, c6, c7, c8, c9, c10, c11, c12, c13, c14, c15, c16, c17, c18, c19, c20, rfl⟩ := arr21 (hsz.trans (by kernel_rfl))
  obtain ⟨fuel, hf⟩ := h
  obtain ⟨xs, n, _, hx, hl, hlen, hfs⟩ := DataW.trod_struct Tryd.underlying41 hf
  obtain ⟨y0, y1, y2, y3, y4, y5, rfl⟩ := lst6 hlen
  have h0 : DataW.trod enc Tryd.prog W 0 (fun _ => true) held n 4 [c0] = some y0 := hfs 0 _ rfl
  obtain ⟨a0, rfl⟩ := yn_down h0
  have h1 : DataW.trod enc Tryd.prog W 0 (fun _ => true) held n 24 [c1] = some y1 := hfs 1 _ rfl
  obtain ⟨a1, rfl, b1⟩ := n64_down Tryd.underlying24 h1
  have h2 : DataW.trod enc Tryd.prog W 0 (fun _ => true) held n 26 [c2, c3] = some y2 := hfs 2 _ rfl
  obtain ⟨a2, a3, rfl, rfl, b2, b3⟩ := tm_down h2
  have h3 : DataW.trod enc Tryd.prog W 0 (fun _ => true) held n 26 [c4, c5] = some y3 := hfs 3 _ rfl
  obtain ⟨a4, a5, rfl, rfl, b4, b5⟩ := tm_down h3
  have h4 : DataW.trod enc Tryd.prog W 0 (fun _ => true) held n 4 [c6] = some y4 := hfs 4 _ rfl
  obtain ⟨a6, rfl⟩ := yn_down h4
  have h5 : DataW.trod enc Tryd.prog W 0 (fun _ => true) held n 28 [c7, c8, c9, c10, c11, c12, c13, c14, c15, c16, c17, c18, c19, c20] = some y5 := hfs 5 _ rfl
  obtain ⟨x, hx', hin⟩ := attr_fields h5
  cases hx'
  exact ⟨⟨a0, a1, a2, a3, a4, a5, a6, x⟩, rfl, ⟨b1, b2, b3, b4, b5, hin⟩⟩
end Go.Proofs.YtecbhhfncklefaaDoor
