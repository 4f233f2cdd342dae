/- From what a row's frame tells of five bytes in an array that came in to the bytes themselves. -/
import Derived.Test.YtcpciodcecpibaaHTold
import Derived.WideKeyPair
namespace Go.Proofs.Ytcpciodcecpibaa
set_option linter.unusedVariables false
open Go.RowKit Go.ChangeShapes Go.WideShapes Go.ChangeAt

set_option maxRecDepth 100000 in
theorem five_down {H : Type} {enc : TypeId × Value → H} {W : World} {held : Bool} {r : Reach} {b0 : Nat} {v : Value} {d : DataW H} {p : List MemPlace} (hv : Value.okWide Try.prog W r b0 38 v)
    (h : DataW.Trod enc Try.prog W 0 (fun _ => true) held 38 v d p) : ∃ bs : List Int, v = .agg (vz bs).toArray ∧ bs.length = 5 ∧ Byt bs := by
  have A : Go.WideMaps.ArrKey Try.prog 38 5 5 := ⟨Try.underlying38, by kernel_rfl, by kernel_rfl, by kernel_rfl⟩
  obtain ⟨c0, c1, c2, c3, c4, rfl⟩ : ∃ c0 c1 c2 c3 c4, v = .agg #[c0, c1, c2, c3, c4] := by
    simp only [Value.okWide, A.hu] at hv
    obtain ⟨cs, h1, h2, _⟩ := hv
    rw [A.size] at h2
    obtain ⟨l⟩ := cs
    match l, h2 with
    | [c0, c1, c2, c3, c4], _ => exact ⟨c0, c1, c2, c3, c4, h1⟩
  obtain ⟨fuel, hf⟩ := h
  cases fuel with
  | zero => simp [DataW.trod] at hf
  | succ n =>
    rw [DataW.trod_step] at hf
    unfold DataW.trodStep at hf
    simp only [A.hu, Value.cells] at hf
    rw [if_pos (by rw [A.size]; rfl)] at hf
    simp only [Option.map_eq_some_iff] at hf
    obtain ⟨xs, hx, _⟩ := hf
    rw [show List.range 5 = [0, 1, 2, 3, 4] from rfl, List.mapM_cons, List.mapM_cons, List.mapM_cons, List.mapM_cons, List.mapM_cons, List.mapM_nil] at hx
    simp only [bind, Option.bind_eq_some_iff, pure, Option.some.injEq, A.one] at hx
    obtain ⟨y0, h0, _, ⟨y1, h1, _, ⟨y2, h2, _, ⟨y3, h3, _, ⟨y4, h4, _, rfl, rfl⟩, rfl⟩, rfl⟩, rfl⟩, rfl⟩ := hx
    obtain ⟨a, ea, _, wa⟩ := DataW.trod_int Try.underlying5 h0
    obtain ⟨b, eb, _, wb⟩ := DataW.trod_int Try.underlying5 h1
    obtain ⟨c, ec, _, wc⟩ := DataW.trod_int Try.underlying5 h2
    obtain ⟨d, ed, _, wd⟩ := DataW.trod_int Try.underlying5 h3
    obtain ⟨e, ee, _, we⟩ := DataW.trod_int Try.underlying5 h4
    simp at ea eb ec ed ee
    subst ea eb ec ed ee
    have ba := bounds_u8 wa
    have bb := bounds_u8 wb
    have bc := bounds_u8 wc
    have bd := bounds_u8 wd
    have be := bounds_u8 we
    refine ⟨[a, b, c, d, e], rfl, rfl, byt_of_all ?_⟩
    intro z hz
    simp only [List.mem_cons, List.not_mem_nil, or_false] at hz
    rcases hz with rfl | rfl | rfl | rfl | rfl <;> omega
end Go.Proofs.Ytcpciodcecpibaa
