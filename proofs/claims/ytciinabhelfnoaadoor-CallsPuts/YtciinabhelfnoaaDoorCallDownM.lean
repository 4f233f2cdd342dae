/- From what a row's frame tells of a call that came in to its fields themselves. -/
import Derived.Test.YtciinabhelfnoaaDoorCredDownM
import Derived.Test.YtciinabhelfnoaaDoorBase
namespace Go.Proofs.YtciinabhelfnoaaDoor
set_option linter.unusedVariables false
open Go.RowKit Go.ChangeShapes Go.WideShapes Go.ChangeAt

theorem bytes_down {H : Type} {enc : TypeId × Value → H} {W : World} {fuel : Nat} {held : Bool} {v : Value} {x : DataW H × List MemPlace}
    (h : DataW.trod enc Tryd.prog W 0 (fun _ => true) held fuel 26 [v] = some x) (hw : ∀ n ∈ x.1.weights Tryd.prog 26, n ≤ reachBytes) :
    ∃ a len cap, v = .slice a len cap ∧ len ≤ cap ∧ cap ≤ 140737488351232 ∧ ∃ gs : List Int, gs.length = len ∧ Byt gs ∧ Seg W a gs ∧ (a = none → len = 0 ∧ cap = 0) := by
  rcases open_ints Tryd.underlying26 Tryd.underlying5 (by kernel_rfl) h with ⟨hcs, _⟩ | ⟨ad, l, c, zs, hcs, _, hl, hm, hz, hx, hcell, hwz⟩
  · simp at hcs
    subst hcs
    exact ⟨none, 0, 0, rfl, Nat.le_refl _, by omega, [], rfl, fun i => by simp, .inl rfl, fun _ => ⟨rfl, rfl⟩⟩
  · simp at hcs
    subst hcs
    have hz' : zs.length = c := by simpa using hz
    obtain ⟨_, _, gs, h1, h2, h3⟩ := row_seg (w := W) (a := some ad) (len := l) (cap := c) (zs := zs) (.inr ⟨ad, rfl, hl, hm, hz', hcell, hwz⟩)
    refine ⟨some ad, l, c, rfl, hl, ?_, gs, h1, h2, h3, by simp⟩
    subst hx
    have hr := hw _ (by simp only [DataW.weights, Tryd.underlying26]; exact List.mem_cons_self)
    rw [show Tryd.prog.bytesOf 5 = 1 from by kernel_rfl] at hr
    simp only [lits, List.length_map, List.length_take, List.length_drop, reachBytes] at hr
    omega

theorem array11 {α : Type} {cs : Array α} (h : cs.size = 11) : ∃ c0 c1 c2 c3 c4 c5 c6 c7 c8 c9 c10, cs = #[c0, c1, c2, c3, c4, c5, c6, c7, c8, c9, c10] := by
  obtain ⟨l⟩ := cs
  match l, h with
  | [c0, c1, c2, c3, c4, c5, c6, c7, c8, c9, c10], _ => exact ⟨c0, c1, c2, c3, c4, c5, c6, c7, c8, c9, c10, rfl⟩
theorem list9 {α : Type} {cs : List α} (h : cs.length = 9) : ∃ c0 c1 c2 c3 c4 c5 c6 c7 c8, cs = [c0, c1, c2, c3, c4, c5, c6, c7, c8] := by
  match cs, h with
  | [c0, c1, c2, c3, c4, c5, c6, c7, c8], _ => exact ⟨c0, c1, c2, c3, c4, c5, c6, c7, c8, rfl⟩
theorem list3 {α : Type} {cs : List α} (h : cs.length = 3) : ∃ c0 c1 c2, cs = [c0, c1, c2] := by
  match cs, h with
  | [c0, c1, c2], _ => exact ⟨c0, c1, c2, rfl⟩

theorem num_down {H : Type} {enc : TypeId × Value → H} {W : World} {fuel : Nat} {held : Bool} {v : Value} {x : DataW H × List MemPlace} (h : DataW.trod enc Tryd.prog W 0 (fun _ => true) held fuel 22 [v] = some x) : ∃ n : Int, v = .int .u32 n ∧ 0 ≤ n ∧ n ≤ 4294967295 := by
  obtain ⟨u, e0, _, wu⟩ := DataW.trod_int Tryd.underlying22 h
  simp at e0
  have := bounds_u32 wu
  exact ⟨u, e0, this.1, by omega⟩

set_option maxRecDepth 100000 in
set_option maxHeartbeats 1000000 in
theorem call_down {H : Type} {enc : TypeId × Value → H} {W : World} {held : Bool} {r : Reach} {b0 : Nat} {v : Value} {d : DataW H} {p : List MemPlace} (hv : Value.okWide Tryd.prog W r b0 28 v)
    (h : DataW.Trod enc Tryd.prog W 0 (fun _ => true) held 28 v d p) (hw : ∀ n ∈ d.weights Tryd.prog 28, n ≤ reachBytes) :
    ∃ x p v' c f m s u g ga gl gc ba bl bc, v = .agg #[.int .u32 x, .int .u32 p, .int .u32 v', .int .u32 c, .int .u32 f, .string m, .int .u32 s, .int .u32 u, .int .u32 g, .slice ga gl gc, .slice ba bl bc] ∧
      (0 ≤ x ∧ x ≤ 4294967295) ∧ (0 ≤ p ∧ p ≤ 4294967295) ∧ (0 ≤ v' ∧ v' ≤ 4294967295) ∧ (0 ≤ c ∧ c ≤ 4294967295) ∧ (0 ≤ f ∧ f ≤ 4294967295) ∧ m.size ≤ 140737488351232 ∧ (0 ≤ s ∧ s ≤ 4294967295) ∧ (0 ≤ u ∧ u ≤ 4294967295) ∧ (0 ≤ g ∧ g ≤ 4294967295) ∧
      (gl ≤ gc ∧ gc ≤ 140737488351232 ∧ bl ≤ bc ∧ bc ≤ 140737488351232) ∧ ∃ gs bs : List Int, (gs.length = gl ∧ U32s gs ∧ Seg4 W ga gs ∧ (ga = none → gl = 0 ∧ gc = 0)) ∧ bs.length = bl ∧ Byt bs ∧ Seg W ba bs ∧ (ba = none → bl = 0 ∧ bc = 0) := by
  obtain ⟨cs, rfl, hsz⟩ := okWide_struct Tryd.underlying28 hv
  obtain ⟨c0, c1, c2, c3, c4, c5, c6, c7, c8, c9, c10, rfl⟩ := array11 (hsz.trans (by kernel_rfl))
  obtain ⟨fuel, hf⟩ := h
  obtain ⟨xs, n, _, hx, hl, hlen, hfs⟩ := DataW.trod_struct Tryd.underlying28 hf
  obtain ⟨y0, y1, y2, y3, y4, y5, y6, y7, y8, rfl⟩ := list9 hlen
  have h0 : DataW.trod enc Tryd.prog W 0 (fun _ => true) held n 22 [c0] = some y0 := hfs 0 _ rfl
  have h1 : DataW.trod enc Tryd.prog W 0 (fun _ => true) held n 22 [c1] = some y1 := hfs 1 _ rfl
  have h2 : DataW.trod enc Tryd.prog W 0 (fun _ => true) held n 22 [c2] = some y2 := hfs 2 _ rfl
  have h3 : DataW.trod enc Tryd.prog W 0 (fun _ => true) held n 22 [c3] = some y3 := hfs 3 _ rfl
  have h4 : DataW.trod enc Tryd.prog W 0 (fun _ => true) held n 22 [c4] = some y4 := hfs 4 _ rfl
  have h5 : DataW.trod enc Tryd.prog W 0 (fun _ => true) held n 9 [c5] = some y5 := hfs 5 _ rfl
  have h6 : DataW.trod enc Tryd.prog W 0 (fun _ => true) held n 22 [c6] = some y6 := hfs 6 _ rfl
  have h7 : DataW.trod enc Tryd.prog W 0 (fun _ => true) held n 25 [c7, c8, c9] = some y7 := hfs 7 _ rfl
  have h8 : DataW.trod enc Tryd.prog W 0 (fun _ => true) held n 26 [c10] = some y8 := hfs 8 _ rfl
  simp only [Prod.mk.injEq] at hx
  obtain ⟨rfl, _⟩ := hx
  have hwt : ∀ (j : Nat) (t : TypeId) (y : DataW H), ([22, 22, 22, 22, 22, 9, 22, 25, 26] : List TypeId)[j]? = some t → ([y0.1, y1.1, y2.1, y3.1, y4.1, y5.1, y6.1, y7.1, y8.1] : List (DataW H))[j]? = some y → ∀ n ∈ y.weights Tryd.prog t, n ≤ reachBytes := fun j t y hj hy n hn => hw n (by
    simp only [DataW.weights, Tryd.underlying28]
    exact DataW.weights_mem_each (j := j) hj hy n hn)
  obtain ⟨x, rfl, bx⟩ := num_down h0
  obtain ⟨p, rfl, bp⟩ := num_down h1
  obtain ⟨v, rfl, bv⟩ := num_down h2
  obtain ⟨c, rfl, bc⟩ := num_down h3
  obtain ⟨f, rfl, bf⟩ := num_down h4
  obtain ⟨s, rfl, bs⟩ := num_down h6
  obtain ⟨m, hm, hm1, hm2⟩ := DataW.trod_string Tryd.underlying9 h5
  simp at hm
  subst hm
  have hms : m.size ≤ 140737488351232 := by
    have := hwt 5 9 y5.1 rfl rfl
    rw [hm1] at this
    have h9 := this m.data.toList.length (by simp [DataW.weights])
    rw [Array.length_toList] at h9
    exact h9
  obtain ⟨zs, n7, _, hz, hl7, hlen7, hfs7⟩ := DataW.trod_struct Tryd.underlying25 h7
  obtain ⟨z0, z1, z2, rfl⟩ := list3 hlen7
  have g0 : DataW.trod enc Tryd.prog W 0 (fun _ => true) held n7 22 [c7] = some z0 := hfs7 0 _ rfl
  have g1 : DataW.trod enc Tryd.prog W 0 (fun _ => true) held n7 22 [c8] = some z1 := hfs7 1 _ rfl
  have g2 : DataW.trod enc Tryd.prog W 0 (fun _ => true) held n7 23 [c9] = some z2 := hfs7 2 _ rfl
  obtain ⟨u, rfl, bu⟩ := num_down g0
  obtain ⟨g, rfl, bg⟩ := num_down g1
  obtain ⟨ga, gl, gc, rfl, glc, gcm, gs, gz, gu, gseg, gn⟩ := nums_down g2 (fun n hn => hwt 7 25 y7.1 rfl rfl n (by
    rw [hz]
    simp only [DataW.weights, Tryd.underlying25]
    exact DataW.weights_mem_each (j := 2) rfl rfl n hn))
  obtain ⟨ba, bl, bcap, rfl, blc, bcm, bz, bzl, bb, bseg, bn⟩ := bytes_down h8 (fun n hn => hwt 8 26 y8.1 rfl rfl n hn)
  exact ⟨x, p, v, c, f, m, s, u, g, ga, gl, gc, ba, bl, bcap, rfl, bx, bp, bv, bc, bf, hms, bs, bu, bg, ⟨glc, gcm, blc, bcm⟩, gs, bz, ⟨gz, gu, gseg, gn⟩, bzl, bb, bseg, bn⟩
end Go.Proofs.YtciinabhelfnoaaDoor
