/- 'alive' of the law, whole. -/
import Derived.Test.YtecbhhfncklefacAAliveMx
import Derived.Test.YtecbhhfncklefacPCatchPPutPPutAMx
import Derived.Test.YtecbhhfncklefacPPutSMx
import Derived.Test.YtecbhhfncklefacPPutWMx
import Derived.Test.YtecbhhfncklefacPGetAMx
import Derived.Test.YtecbhhfncklefacWPartsMx
import Derived.Test.YtecbhhfncklefacAttrMath
import Derived.Test.YtecbhhfncklefacRows
import Derived.OpenShut
import Derived.ChangeArms
import Derived.WideShapes
import Derived.RowKit
import Derived.ProofKit
namespace Go.Proofs.Ytecbhhfncklefac
set_option linter.unusedVariables false
open Go.RowKit

theorem alive_end (W : World) : Calls Try.prog 7 #[] W fun e W' => e = .returned (.bool true) ∧ Below W.heap.size W W' := alive_any aput_any aget_any sput_any wput_any W
end Go.Proofs.Ytecbhhfncklefac

/- The walk of 'AttrsWeakParts' and the law's 'alive', both whole. -/
namespace Go.Proofs.Ytecbhhfncklefac
set_option linter.unusedVariables false
open Go.RowKit

theorem wparts_end (x : Atr) (size s0 n0 s1 n1 : Int) (w : World) (hx : x.In) (hsz : 0 ≤ size ∧ size ≤ 18446744073709551615) (b0 : 0 ≤ s0 ∧ s0 ≤ 4294967295) (b1 : 0 ≤ n0 ∧ n0 ≤ 4294967295) (b2 : 0 ≤ s1 ∧ s1 ≤ 4294967295) (b3 : 0 ≤ n1 ∧ n1 ≤ 4294967295) :
    Calls Try.prog 3 #[.agg #[.int .u32 x.kind, .int .u32 x.mode, .int .u32 x.links, .int .u32 x.user, .int .u32 x.group, .int .u64 x.size, .int .u64 x.used, .int .u64 x.id, .int .u32 x.rs, .int .u32 x.rn, .int .u32 x.ws, .int .u32 x.wn, .int .u32 x.ts, .int .u32 x.tn], .int .u64 size, .agg #[.int .u32 s0, .int .u32 n0, .int .u32 s1, .int .u32 n1]] w fun e w' => e = .returned (.bool true) ∧ Below w.heap.size w w' := wparts_walk alive_end aput_any wput_any x size s0 n0 s1 n1 w hx hsz b0 b1 b2 b3
end Go.Proofs.Ytecbhhfncklefac

/- From what a row's frame tells of a number, a point of time that came in to itself. -/
namespace Go.Proofs.Ytecbhhfncklefac
set_option linter.unusedVariables false
open Go.RowKit Go.ChangeShapes Go.WideShapes Go.ChangeAt

theorem lst2 {α : Type} {cs : List α} (h : cs.length = 2) : ∃ c0 c1, cs = [c0, c1] := by
  match cs, h with
  | [c0, c1], _ => exact ⟨c0, c1, rfl⟩
theorem lst11 {α : Type} {cs : List α} (h : cs.length = 11) : ∃ c0 c1 c2 c3 c4 c5 c6 c7 c8 c9 c10, cs = [c0, c1, c2, c3, c4, c5, c6, c7, c8, c9, c10] := by
  match cs, h with
  | [c0, c1, c2, c3, c4, c5, c6, c7, c8, c9, c10], _ => exact ⟨c0, c1, c2, c3, c4, c5, c6, c7, c8, c9, c10, rfl⟩
theorem lst12 {α : Type} {cs : List α} (h : cs.length = 12) : ∃ c0 c1 c2 c3 c4 c5 c6 c7 c8 c9 c10 c11, cs = [c0, c1, c2, c3, c4, c5, c6, c7, c8, c9, c10, c11] := by
  match cs, h with
  | [c0, c1, c2, c3, c4, c5, c6, c7, c8, c9, c10, c11], _ => exact ⟨c0, c1, c2, c3, c4, c5, c6, c7, c8, c9, c10, c11, rfl⟩
theorem lst6 {α : Type} {cs : List α} (h : cs.length = 6) : ∃ c0 c1 c2 c3 c4 c5, cs = [c0, c1, c2, c3, c4, c5] := by
  match cs, h with
  | [c0, c1, c2, c3, c4, c5], _ => exact ⟨c0, c1, c2, c3, c4, c5, rfl⟩
theorem arr14 {α : Type} {cs : Array α} (h : cs.size = 14) : ∃ c0 c1 c2 c3 c4 c5 c6 c7 c8 c9 c10 c11 c12 c13, cs = #[c0, c1, c2, c3, c4, c5, c6, c7, c8, c9, c10, c11, c12, c13] := by
  obtain ⟨l⟩ := cs
  match l, h with
  | [c0, c1, c2, c3, c4, c5, c6, c7, c8, c9, c10, c11, c12, c13], _ => exact ⟨c0, c1, c2, c3, c4, c5, c6, c7, c8, c9, c10, c11, c12, c13, rfl⟩
theorem arr21 {α : Type} {cs : Array α} (h : cs.size = 21) : ∃ c0 c1 c2 c3 c4 c5 c6 c7 c8 c9 c10 c11 c12 c13 c14 c15 c16 c17 c18 c19 c20, cs = #[c0, c1, c2, c3, c4, c5, c6, c7, c8, c9, c10, c11, c12, c13, c14, c15, c16, c17, c18, c19, c20] := by
  obtain ⟨l⟩ := cs
  match l, h with
  | [c0, c1, c2, c3, c4, c5, c6, c7, c8, c9, c10, c11, c12, c13, c14, c15, c16, c17, c18, c19, c20], _ => exact ⟨c0, c1, c2, c3, c4, c5, c6, c7, c8, c9, c10, c11, c12, c13, c14, c15, c16, c17, c18, c19, c20, rfl⟩

section
variable {H : Type} {enc : TypeId × Value → H} {W : World} {held : Bool} {fuel : Nat}
theorem n32_down {t : TypeId} (ht : Try.prog.underlying t = some (.int .u32)) {v : Value} {x : DataW H × List MemPlace} (h : DataW.trod enc Try.prog W 0 (fun _ => true) held fuel t [v] = some x) : ∃ n : Int, v = .int .u32 n ∧ 0 ≤ n ∧ n ≤ 4294967295 := by
  obtain ⟨u, e0, _, wu⟩ := DataW.trod_int ht h
  simp at e0
  have := bounds_u32 wu
  exact ⟨u, e0, this.1, by omega⟩
theorem n64_down {t : TypeId} (ht : Try.prog.underlying t = some (.int .u64)) {v : Value} {x : DataW H × List MemPlace} (h : DataW.trod enc Try.prog W 0 (fun _ => true) held fuel t [v] = some x) : ∃ n : Int, v = .int .u64 n ∧ 0 ≤ n ∧ n ≤ 18446744073709551615 := by
  obtain ⟨u, e0, _, wu⟩ := DataW.trod_int ht h
  simp at e0
  have := bounds_u64 wu
  exact ⟨u, e0, this.1, by omega⟩
theorem yn_down {v : Value} {x : DataW H × List MemPlace} (h : DataW.trod enc Try.prog W 0 (fun _ => true) held fuel 4 [v] = some x) : ∃ b : Bool, v = .bool b := by
  obtain ⟨b, e0, _⟩ := DataW.trod_bool Try.underlying4 h
  simp at e0
  exact ⟨b, e0⟩
set_option maxRecDepth 100000 in
theorem tm_down {v u : Value} {x : DataW H × List MemPlace} (h : DataW.trod enc Try.prog W 0 (fun _ => true) held fuel 26 [v, u] = some x) : ∃ n g : Int, v = .int .u32 n ∧ u = .int .u32 g ∧ (0 ≤ n ∧ n ≤ 4294967295) ∧ (0 ≤ g ∧ g ≤ 4294967295) := by
  obtain ⟨xs, n, _, hx, hl, hlen, hfs⟩ := DataW.trod_struct Try.underlying26 h
  obtain ⟨y0, y1, rfl⟩ := lst2 hlen
  have h0 : DataW.trod enc Try.prog W 0 (fun _ => true) held n 22 [v] = some y0 := hfs 0 _ rfl
  have h1 : DataW.trod enc Try.prog W 0 (fun _ => true) held n 22 [u] = some y1 := hfs 1 _ rfl
  obtain ⟨a, ea, ba⟩ := n32_down Try.underlying22 h0
  obtain ⟨b, eb, bb⟩ := n32_down Try.underlying22 h1
  exact ⟨a, b, ea, eb, ba, bb⟩
end
end Go.Proofs.Ytecbhhfncklefac
