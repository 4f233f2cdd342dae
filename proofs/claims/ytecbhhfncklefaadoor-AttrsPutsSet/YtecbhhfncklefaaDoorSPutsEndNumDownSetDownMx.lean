/- The walk of 'AttrsPutsSet', whole. -/
import Derived.Test.YtecbhhfncklefaaDoorSPutsLawTimeEqMx
import Derived.Test.YtecbhhfncklefaaDoorPPutSMx
import Derived.Test.YtecbhhfncklefaaDoorRefSPutMx
import Derived.Test.YtecbhhfncklefaaDoorAttrMath
import Derived.Test.YtecbhhfncklefaaDoorRows
import Derived.OpenShut
import Derived.ChangeArms
import Derived.WideShapes
import Derived.RowKit
import Derived.ProofKit
namespace Go.Proofs.YtecbhhfncklefaaDoor
set_option linter.unusedVariables false
open Go.RowKit

theorem sputs_end (x : Stt) (w : World) (hx : x.In) : Calls Tryd.prog 4 #[.agg #[.bool x.hm, .int .u32 x.mode, .bool x.hu, .int .u32 x.user, .bool x.hg, .int .u32 x.group, .bool x.hs, .int .u64 x.size, .int .u32 x.rh, .int .u32 x.rs, .int .u32 x.rn, .int .u32 x.wh, .int .u32 x.ws, .int .u32 x.wn]] w fun e w' => e = .returned (.bool true) ∧ Below w.heap.size w w' := sputs_walk sput_any refsput_any x w hx
end Go.Proofs.YtecbhhfncklefaaDoor

/- From what a row's frame tells of a number, a point of time that came in to itself. -/
namespace Go.Proofs.YtecbhhfncklefaaDoor
set_option linter.unusedVariables false
open Go.RowKit Go.ChangeShapes Go.WideShapes Go.ChangeAt

theorem lst2 {α : Type} {cs : List α} (h : cs.length = 2) : ∃ c0 c1, cs = [c0, c1] := by
  match cs, h with
  | [c0, c1], _ => exact ⟨c0, c1, rfl⟩
theorem lst11 {α : Type} {cs : List α} (h : cs.length = 11) : ∃ c0 c1 c2 c3 c4 c5 c6 c7 c8 c9 c10, cs = [c0, c1, c2, c3, c4, c5, c6, c7, c8, c9, c10] := by
  match cs, h with
  | [c0, c1, c2, c3, c4, c5, c6, c7, c8, c9, c10], _ => exact ⟨c0, c1, c2, c3, c4, c5, c6, c7, c8, c9, c10, rfl⟩
theorem lst12 {α : Type} {cs : List α} (h : cs.length = 12) : ∃ c0 c1 c2 c3 c4 c5 c6 c7 c8 c9 c10 c11, cs = [c0, c1, c2, c3, c4, c5, c6, c7, c8, c9, c10, c11] := by
  match cs, h with
  | [c0, c1, c2, c3, c4, c5, c6, c7, c8, c9, c10, c11], _ => exact ⟨c0, c1, c2, c3, c4, c5, c6, c7, c8, c9, c10, c11, rfl⟩
theorem lst6 {α : Type} {cs : List α} (h : cs.length = 6) : ∃ c0 c1 c2 c3 c4 c5, cs = [c0, c1, c2, c3, c4, c5] := by
  match cs, h with
  | [c0, c1, c2, c3, c4, c5], _ => exact ⟨c0, c1, c2, c3, c4, c5, rfl⟩
theorem arr14 {α : Type} {cs : Array α} (h : cs.size = 14) : ∃ c0 c1 c2 c3 c4 c5 c6 c7 c8 c9 c10 c11 c12 c13, cs = #[c0, c1, c2, c3, c4, c5, c6, c7, c8, c9, c10, c11, c12, c13] := by
  obtain ⟨l⟩ := cs
  match l, h with
  | [c0, c1, c2, c3, c4, c5, c6, c7, c8, c9, c10, c11, c12, c13], _ => exact ⟨c0, c1, c2, c3, c4, c5, c6, c7, c8, c9, c10, c11, c12, c13, rfl⟩
theorem arr21 {α : Type} {cs : Array α} (h : cs.size = 21) : ∃ c0 c1 c2 c3 c4 c5 c6 c7 c8 c9 c10 c11 c12 c13 c14 c15 c16 c17 c18 c19 c20, cs = #[c0, c1, c2, c3, c4, c5, c6, c7, c8, c9, c10, c11, c12, c13, c14, c15, c16, c17, c18, c19, c20] := by
  obtain ⟨l⟩ := cs
  match l, h with
  | [c0, c1, c2, c3, c4, c5, c6, c7, c8, c9, c10, c11, c12, c13, c14, c15, c16, c17, c18, c19, c20], _ => exact ⟨c0, c1, c2, c3, c4, c5, c6, c7, c8, c9, c10, c11, c12, c13, c14, c15, c16, c17, c18, c19, c20, rfl⟩

section
variable {H : Type} {enc : TypeId × Value → H} {W : World} {held : Bool} {fuel : Nat}
theorem n32_down {t : TypeId} (ht : Tryd.prog.underlying t = some (.int .u32)) {v : Value} {x : DataW H × List MemPlace} (h : DataW.trod enc Tryd.prog W 0 (fun _ => true) held fuel t [v] = some x) : ∃ n : Int, v = .int .u32 n ∧ 0 ≤ n ∧ n ≤ 4294967295 := by
  obtain ⟨u, e0, _, wu⟩ := DataW.trod_int ht h
  simp at e0
  have := bounds_u32 wu
  exact ⟨u, e0, this.1, by omega⟩
theorem n64_down {t : TypeId} (ht : Tryd.prog.underlying t = some (.int .u64)) {v : Value} {x : DataW H × List MemPlace} (h : DataW.trod enc Tryd.prog W 0 (fun _ => true) held fuel t [v] = some x) : ∃ n : Int, v = .int .u64 n ∧ 0 ≤ n ∧ n ≤ 18446744073709551615 := by
  obtain ⟨u, e0, _, wu⟩ := DataW.trod_int ht h
  simp at e0
  have := bounds_u64 wu
  exact ⟨u, e0, this.1, by omega⟩
theorem yn_down {v : Value} {x : DataW H × List MemPlace} (h : DataW.trod enc Tryd.prog W 0 (fun _ => true) held fuel 4 [v] = some x) : ∃ b : Bool, v = .bool b := by
  obtain ⟨b, e0, _⟩ := DataW.trod_bool Tryd.underlying4 h
  simp at e0
  exact ⟨b, e0⟩
set_option maxRecDepth 100000 in
theorem tm_down {v u : Value} {x : DataW H × List MemPlace} (h : DataW.trod enc Tryd.prog W 0 (fun _ => true) held fuel 26 [v, u] = some x) : ∃ n g : Int, v = .int .u32 n ∧ u = .int .u32 g ∧ (0 ≤ n ∧ n ≤ 4294967295) ∧ (0 ≤ g ∧ g ≤ 4294967295) := by
  obtain ⟨xs, n, _, hx, hl, hlen, hfs⟩ := DataW.trod_struct Tryd.underlying26 h
  obtain ⟨y0, y1, rfl⟩ := lst2 hlen
  have h0 : DataW.trod enc Tryd.prog W 0 (fun _ => true) held n 22 [v] = some y0 := hfs 0 _ rfl
  have h1 : DataW.trod enc Tryd.prog W 0 (fun _ => true) held n 22 [u] = some y1 := hfs 1 _ rfl
  obtain ⟨a, ea, ba⟩ := n32_down Tryd.underlying22 h0
  obtain ⟨b, eb, bb⟩ := n32_down Tryd.underlying22 h1
  exact ⟨a, b, ea, eb, ba, bb⟩
end
end Go.Proofs.YtecbhhfncklefaaDoor

/- From what a row's frame tells of what is to be set to its fields. -/
namespace Go.Proofs.YtecbhhfncklefaaDoor
set_option linter.unusedVariables false
open Go.RowKit Go.ChangeShapes Go.WideShapes Go.ChangeAt

set_option maxRecDepth 100000 in
set_option maxHeartbeats 1000000 in
theorem set_down {H : Type} {enc : TypeId × Value → H} {W : World} {held : Bool} {r : Reach} {b0 : Nat} {v : Value} {d : DataW H} {p : List MemPlace} (hv : Value.okWide Tryd.prog W r b0 37 v)
    (h : DataW.Trod enc Tryd.prog W 0 (fun _ => true) held 37 v d p) : ∃ x : Stt, v = .agg #[.bool x.hm, .int .u32 x.mode, .bool x.hu, .int .u32 x.user, .bool x.hg, .int .u32 x.group, .bool x.hs, .int .u64 x.size, .int .u32 x.rh, .int .u32 x.rs, .int .u32 x.rn, .int .u32 x.wh, .int .u32 x.ws, .int .u32 x.wn] ∧ x.In := by
  obtain ⟨cs, rfl, hsz⟩ := okWide_struct Tryd.underlying37 hv
  obtain ⟨c0, c1, c2, c3, c4, c5, c6, c7, c8, c9, c10, c11, c12, c13, rfl⟩ := arr14 (hsz.trans (by kernel_rfl))
  obtain ⟨fuel, hf⟩ := h
  obtain ⟨xs, n, _, hx, hl, hlen, hfs⟩ := DataW.trod_struct Tryd.underlying37 hf
  obtain ⟨y0, y1, y2, y3, y4, y5, y6, y7, y8, y9, y10, y11, rfl⟩ := lst12 hlen
  have h0 : DataW.trod enc Tryd.prog W 0 (fun _ => true) held n 4 [c0] = some y0 := hfs 0 _ rfl
  obtain ⟨a0, rfl⟩ := yn_down h0
  have h1 : DataW.trod enc Tryd.prog W 0 (fun _ => true) held n 22 [c1] = some y1 := hfs 1 _ rfl
  obtain ⟨a1, rfl, b1⟩ := n32_down Tryd.underlying22 h1
  have h2 : DataW.trod enc Tryd.prog W 0 (fun _ => true) held n 4 [c2] = some y2 := hfs 2 _ rfl
  obtain ⟨a2, rfl⟩ := yn_down h2
  have h3 : DataW.trod enc Tryd.prog W 0 (fun _ => true) held n 22 [c3] = some y3 := hfs 3 _ rfl
  obtain ⟨a3, rfl, b3⟩ := n32_down Tryd.underlying22 h3
  have h4 : DataW.trod enc Tryd.prog W 0 (fun _ => true) held n 4 [c4] = some y4 := hfs 4 _ rfl
  obtain ⟨a4, rfl⟩ := yn_down h4
  have h5 : DataW.trod enc Tryd.prog W 0 (fun _ => true) held n 22 [c5] = some y5 := hfs 5 _ rfl
  obtain ⟨a5, rfl, b5⟩ := n32_down Tryd.underlying22 h5
  have h6 : DataW.trod enc Tryd.prog W 0 (fun _ => true) held n 4 [c6] = some y6 := hfs 6 _ rfl
  obtain ⟨a6, rfl⟩ := yn_down h6
  have h7 : DataW.trod enc Tryd.prog W 0 (fun _ => true) held n 24 [c7] = some y7 := hfs 7 _ rfl
  obtain ⟨a7, rfl, b7⟩ := n64_down Tryd.underlying24 h7
  have h8 : DataW.trod enc Tryd.prog W 0 (fun _ => true) held n 35 [c8] = some y8 := hfs 8 _ rfl
  obtain ⟨a8, rfl, b8⟩ := n32_down Tryd.underlying35 h8
  have h9 : DataW.trod enc Tryd.prog W 0 (fun _ => true) held n 26 [c9, c10] = some y9 := hfs 9 _ rfl
  obtain ⟨a9, a10, rfl, rfl, b9, b10⟩ := tm_down h9
  have h10 : DataW.trod enc Tryd.prog W 0 (fun _ => true) held n 35 [c11] = some y10 := hfs 10 _ rfl
  obtain ⟨a11, rfl, b11⟩ := n32_down Tryd.underlying35 h10
  have h11 : DataW.trod enc Tryd.prog W 0 (fun _ => true) held n 26 [c12, c13] = some y11 := hfs 11 _ rfl
  obtain ⟨a12, a13, rfl, rfl, b12, b13⟩ := tm_down h11
  exact ⟨⟨a0, a1, a2, a3, a4, a5, a6, a7, a8, a9, a10, a11, a12, a13⟩, rfl, ⟨b1, b3, b5, b7, b8, b9, b10, b11, b12, b13⟩⟩
end Go.Proofs.YtecbhhfncklefaaDoor
