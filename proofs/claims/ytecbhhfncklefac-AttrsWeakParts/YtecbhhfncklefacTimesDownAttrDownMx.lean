/- From what a row's frame tells of two points of time in an array that came in to their numbers. -/
import Derived.Test.YtecbhhfncklefacAliveEndWPartsEndNumDownMx
namespace Go.Proofs.Ytecbhhfncklefac
set_option linter.unusedVariables false
open Go.RowKit Go.ChangeShapes Go.WideShapes Go.ChangeAt

set_option maxRecDepth 100000 in
theorem times2_down {H : Type} {enc : TypeId × Value → H} {W : World} {held : Bool} {r : Reach} {b0 : Nat} {v : Value} {d : DataW H} {p : List MemPlace} (hv : Value.okWide Try.prog W r b0 29 v)
    (h : DataW.Trod enc Try.prog W 0 (fun _ => true) held 29 v d p) : ∃ s0 n0 s1 n1 : Int, v = .agg #[.int .u32 s0, .int .u32 n0, .int .u32 s1, .int .u32 n1] ∧ (0 ≤ s0 ∧ s0 ≤ 4294967295) ∧ (0 ≤ n0 ∧ n0 ≤ 4294967295) ∧ (0 ≤ s1 ∧ s1 ≤ 4294967295) ∧ (0 ≤ n1 ∧ n1 ≤ 4294967295) := by
  have hu : Try.prog.underlying 29 = some (.array 2 26) := Try.underlying29
  have hc : Try.prog.cellsOf 29 = 4 := by kernel_rfl
  have he : Try.prog.cellsOf 26 = 2 := by kernel_rfl
  obtain ⟨c0, c1, c2, c3, rfl⟩ : ∃ c0 c1 c2 c3, v = .agg #[c0, c1, c2, c3] := by
    simp only [Value.okWide, hu] at hv
    obtain ⟨cs, h1, h2, _⟩ := hv
    rw [hc] at h2
    obtain ⟨l⟩ := cs
    match l, h2 with
    | [c0, c1, c2, c3], _ => exact ⟨c0, c1, c2, c3, h1⟩
  obtain ⟨fuel, hf⟩ := h
  cases fuel with
  | zero => simp [DataW.trod] at hf
  | succ n =>
    rw [DataW.trod_step] at hf
    unfold DataW.trodStep at hf
    simp only [hu, Value.cells] at hf
    rw [if_pos (by rw [hc]; rfl)] at hf
    simp only [Option.map_eq_some_iff] at hf
    obtain ⟨xs, hx, _⟩ := hf
    rw [show List.range 2 = [0, 1] from rfl, List.mapM_cons, List.mapM_cons, List.mapM_nil] at hx
    simp only [bind, Option.bind_eq_some_iff, pure, Option.some.injEq, he] at hx
    obtain ⟨y0, h0, _, ⟨y1, h1, _, rfl, rfl⟩, rfl⟩ := hx
    obtain ⟨a, b, rfl, rfl, ba, bb⟩ := tm_down (h0 : DataW.trod enc Try.prog W 0 (fun _ => true) held n 26 [c0, c1] = some y0)
    obtain ⟨c, d, rfl, rfl, bc, bd⟩ := tm_down (h1 : DataW.trod enc Try.prog W 0 (fun _ => true) held n 26 [c2, c3] = some y1)
    exact ⟨a, b, c, d, rfl, ba, bb, bc, bd⟩
end Go.Proofs.Ytecbhhfncklefac

/- From what a row's frame tells of what is told of a node to its fields. -/
namespace Go.Proofs.Ytecbhhfncklefac
set_option linter.unusedVariables false
open Go.RowKit Go.ChangeShapes Go.WideShapes Go.ChangeAt

set_option maxRecDepth 100000 in
set_option maxHeartbeats 1000000 in
theorem attr_fields {H : Type} {enc : TypeId × Value → H} {W : World} {held : Bool} {fuel : Nat} {c0 c1 c2 c3 c4 c5 c6 c7 c8 c9 c10 c11 c12 c13 : Value} {z : DataW H × List MemPlace} (h : DataW.trod enc Try.prog W 0 (fun _ => true) held fuel 28 [c0, c1, c2, c3, c4, c5, c6, c7, c8, c9, c10, c11, c12, c13] = some z) :
    ∃ x : Atr, [c0, c1, c2, c3, c4, c5, c6, c7, c8, c9, c10, c11, c12, c13] = [.int .u32 x.kind, .int .u32 x.mode, .int .u32 x.links, .int .u32 x.user, .int .u32 x.group, .int .u64 x.size, .int .u64 x.used, .int .u64 x.id, .int .u32 x.rs, .int .u32 x.rn, .int .u32 x.ws, .int .u32 x.wn, .int .u32 x.ts, .int .u32 x.tn] ∧ x.In := by
  obtain ⟨xs, n, _, hx, hl, hlen, hfs⟩ := DataW.trod_struct Try.underlying28 h
  obtain ⟨y0, y1, y2, y3, y4, y5, y6, y7, y8, y9, y10, rfl⟩ := lst11 hlen
  have h0 : DataW.trod enc Try.prog W 0 (fun _ => true) held n 23 [c0] = some y0 := hfs 0 _ rfl
  obtain ⟨a0, rfl, b0⟩ := n32_down Try.underlying23 h0
  have h1 : DataW.trod enc Try.prog W 0 (fun _ => true) held n 22 [c1] = some y1 := hfs 1 _ rfl
  obtain ⟨a1, rfl, b1⟩ := n32_down Try.underlying22 h1
  have h2 : DataW.trod enc Try.prog W 0 (fun _ => true) held n 22 [c2] = some y2 := hfs 2 _ rfl
  obtain ⟨a2, rfl, b2⟩ := n32_down Try.underlying22 h2
  have h3 : DataW.trod enc Try.prog W 0 (fun _ => true) held n 22 [c3] = some y3 := hfs 3 _ rfl
  obtain ⟨a3, rfl, b3⟩ := n32_down Try.underlying22 h3
  have h4 : DataW.trod enc Try.prog W 0 (fun _ => true) held n 22 [c4] = some y4 := hfs 4 _ rfl
  obtain ⟨a4, rfl, b4⟩ := n32_down Try.underlying22 h4
  have h5 : DataW.trod enc Try.prog W 0 (fun _ => true) held n 24 [c5] = some y5 := hfs 5 _ rfl
  obtain ⟨a5, rfl, b5⟩ := n64_down Try.underlying24 h5
  have h6 : DataW.trod enc Try.prog W 0 (fun _ => true) held n 24 [c6] = some y6 := hfs 6 _ rfl
  obtain ⟨a6, rfl, b6⟩ := n64_down Try.underlying24 h6
  have h7 : DataW.trod enc Try.prog W 0 (fun _ => true) held n 24 [c7] = some y7 := hfs 7 _ rfl
  obtain ⟨a7, rfl, b7⟩ := n64_down Try.underlying24 h7
  have h8 : DataW.trod enc Try.prog W 0 (fun _ => true) held n 26 [c8, c9] = some y8 := hfs 8 _ rfl
  obtain ⟨a8, a9, rfl, rfl, b8, b9⟩ := tm_down h8
  have h9 : DataW.trod enc Try.prog W 0 (fun _ => true) held n 26 [c10, c11] = some y9 := hfs 9 _ rfl
  obtain ⟨a10, a11, rfl, rfl, b10, b11⟩ := tm_down h9
  have h10 : DataW.trod enc Try.prog W 0 (fun _ => true) held n 26 [c12, c13] = some y10 := hfs 10 _ rfl
  obtain ⟨a12, a13, rfl, rfl, b12, b13⟩ := tm_down h10
  exact ⟨⟨a0, a1, a2, a3, a4, a5, a6, a7, a8, a9, a10, a11, a12, a13⟩, rfl, ⟨b0, b1, b2, b3, b4, b5, b6, b7, b8, b9, b10, b11, b12, b13⟩⟩

set_option maxRecDepth 100000 in
theorem attrs_down {H : Type} {enc : TypeId × Value → H} {W : World} {held : Bool} {r : Reach} {b0 : Nat} {v : Value} {d : DataW H} {p : List MemPlace} (hv : Value.okWide Try.prog W r b0 28 v)
    (h : DataW.Trod enc Try.prog W 0 (fun _ => true) held 28 v d p) : ∃ x : Atr, v = .agg #[.int .u32 x.kind, .int .u32 x.mode, .int .u32 x.links, .int .u32 x.user, .int .u32 x.group, .int .u64 x.size, .int .u64 x.used, .int .u64 x.id, .int .u32 x.rs, .int .u32 x.rn, .int .u32 x.ws, .int .u32 x.wn, .int .u32 x.ts, .int .u32 x.tn] ∧ x.In := by
  obtain ⟨cs, rfl, hsz⟩ := okWide_struct Try.underlying28 hv
  obtain ⟨c0, c1, c2, c3, c4, c5, c6, c7, c8, c9, c10, c11, c12, c13, rfl⟩ := arr14 (hsz.trans (by kernel_rfl))
  obtain ⟨fuel, hf⟩ := h
  obtain ⟨x, hx, hin⟩ := attr_fields hf
  cases hx
  exact ⟨x, rfl, hin⟩
end Go.Proofs.Ytecbhhfncklefac
