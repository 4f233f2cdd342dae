/- 'Get' of one who calls: what is known behind each of its steps; plain mathematics on what it has read. -/
import Derived.Test.YtciinabhelfnoaaGreatDoorCredStep2M
import Derived.Test.YtciinabhelfnoaaGreatDoorCredMathM
namespace Go.Proofs.YtciinabhelfnoaaGreatDoor
set_option linter.unusedVariables false

/-- It has met the error. -/
def Bad (zs : List Int) (y : GS) : Prop := crE zs ≠ 0 ∧ y.e = crE zs
/-- And made no room. -/
def Bad0 (zs : List Int) (y : GS) : Prop := Bad zs y ∧ y.vn = 0

def Some' (y : GS) : Prop := ∃ b o, y.a = some ⟨b, o, none⟩

structure W1 (zs : List Int) (y : GS) : Prop where
  e : y.e = 0
  a : Some' y
  h1 : 4 ≤ zs.length
  s : y.s = crS zs
structure W2 (zs : List Int) (y : GS) : Prop extends W1 zs y where
  h2 : opE (zs.drop 4) 255 = 0
  m : y.m = strOfNums (crM zs)
structure W6 (zs : List Int) (y : GS) : Prop extends W2 zs y where
  u : y.u = crU zs
  g : y.g = crG zs
  h3 : 12 ≤ (crR zs).length
structure W7 (zs : List Int) (y : GS) : Prop extends W6 zs y where
  h4 : crN zs ≤ 16
  vn : y.vn = crK zs

def At0 (zs : List Int) (y : GS) : Prop := y.e = 0 ∧ y.zs = zs ∧ y.vn = 0
def At1 (zs : List Int) (y : GS) : Prop := Bad0 zs y ∨ (W1 zs y ∧ y.zs = zs.drop 4 ∧ y.vn = 0)
def At2 (zs : List Int) (y : GS) : Prop := Bad0 zs y ∨ (W2 zs y ∧ y.zs = crR zs ∧ y.vn = 0)
def At3 (zs : List Int) (y : GS) : Prop := Bad0 zs y ∨ (W2 zs y ∧ y.zs = (crR zs).drop 4 ∧ y.vn = 0 ∧ 4 ≤ (crR zs).length ∧ y.u = crU zs)
def At4 (zs : List Int) (y : GS) : Prop := Bad0 zs y ∨ (W2 zs y ∧ y.zs = (crR zs).drop 8 ∧ y.vn = 0 ∧ 8 ≤ (crR zs).length ∧ y.u = crU zs ∧ y.g = crG zs)
def At5 (zs : List Int) (y : GS) : Prop := Bad0 zs y ∨ (W6 zs y ∧ y.zs = (crR zs).drop 12 ∧ y.vn = 0 ∧ y.n = crN zs)
/-- Behind so many of the Groups. -/
def At7 (zs : List Int) (k : Nat) (y : GS) : Prop := Bad zs y ∨ (W7 zs y ∧ y.zs = (crR zs).drop (12 + 4 * k) ∧ k ≤ crK zs ∧ 12 + 4 * k ≤ (crR zs).length ∧ y.gs = numsZ k ((crR zs).drop 12) ++ List.replicate (crK zs - k) 0)
def At6 (zs : List Int) (y : GS) : Prop := Bad0 zs y ∨ (At7 zs 0 y ∧ W7 zs y)
def At8 (zs : List Int) (y : GS) : Prop := Bad zs y ∨ (crE zs = 0 ∧ y.e = 0 ∧ y.s = crS zs ∧ y.m = strOfNums (crM zs) ∧ y.u = crU zs ∧ y.g = crG zs ∧ y.gs = crL zs ∧ y.vn = crK zs)

theorem at1 {zs : List Int} {x y : GS} (hl : x.zs.length = x.len) (h : At0 zs x) (st : NumStep (fun v => { x with s := v }) x y) : At1 zs y := by
  obtain ⟨h0, hz, hv⟩ := h
  subst hz
  rcases st with ⟨h, _⟩ | ⟨_, h4, rfl⟩ | ⟨_, h4, b, o, rfl⟩
  · exact absurd h0 h
  · have := crE_1 (zs := x.zs) (by omega)
    exact .inl ⟨⟨by omega, this.symm⟩, hv⟩
  · exact .inr ⟨⟨h0, ⟨b, o, rfl⟩, by omega, rfl⟩, rfl, hv⟩

theorem at2 {zs : List Int} {x y : GS} (h : At1 zs x) (st : MachStep x y) : At2 zs y := by
  rcases h with ⟨⟨hn, he⟩, hv⟩ | ⟨hw, hz, hv⟩
  · rcases st with ⟨h, rfl⟩ | ⟨h, _⟩ | ⟨h, _⟩
    · exact .inl ⟨⟨hn, he⟩, hv⟩
    · omega
    · omega
  · rcases st with ⟨h, _⟩ | ⟨_, h4, rfl⟩ | ⟨_, h4, _, b, o, rfl⟩
    · exact absurd hw.e h
    · rw [hz] at h4 ⊢
      have := crE_2 hw.h1 h4
      exact .inl ⟨⟨by omega, this.symm⟩, hv⟩
    · rw [hz] at h4 ⊢
      exact .inr ⟨⟨⟨hw.e, ⟨b, o, rfl⟩, hw.h1, hw.s⟩, h4, rfl⟩, rfl, hv⟩

theorem at3 {zs : List Int} {x y : GS} (hl : x.zs.length = x.len) (h : At2 zs x) (st : NumStep (fun v => { x with u := v }) x y) : At3 zs y := by
  rcases h with ⟨⟨hn, he⟩, hv⟩ | ⟨hw, hz, hv⟩
  · rcases st with ⟨h, rfl⟩ | ⟨h, _⟩ | ⟨h, _⟩
    · exact .inl ⟨⟨hn, he⟩, hv⟩
    · omega
    · omega
  · rcases st with ⟨h, _⟩ | ⟨_, h4, rfl⟩ | ⟨_, h4, b, o, rfl⟩
    · exact absurd hw.e h
    · rw [hz] at hl
      have := crE_3 hw.h1 hw.h2 (by omega)
      exact .inl ⟨⟨by omega, this.symm⟩, hv⟩
    · rw [hz] at hl
      simp only [hz]
      exact .inr ⟨⟨⟨hw.e, ⟨b, o, rfl⟩, hw.h1, hw.s⟩, hw.h2, hw.m⟩, rfl, hv, by omega, rfl⟩

theorem at4 {zs : List Int} {x y : GS} (hl : x.zs.length = x.len) (h : At3 zs x) (st : NumStep (fun v => { x with g := v }) x y) : At4 zs y := by
  rcases h with ⟨⟨hn, he⟩, hv⟩ | ⟨hw, hz, hv, h3, hu⟩
  · rcases st with ⟨h, rfl⟩ | ⟨h, _⟩ | ⟨h, _⟩
    · exact .inl ⟨⟨hn, he⟩, hv⟩
    · omega
    · omega
  · rcases st with ⟨h, _⟩ | ⟨_, h4, rfl⟩ | ⟨_, h4, b, o, rfl⟩
    · exact absurd hw.e h
    · rw [hz, List.length_drop] at hl
      have := crE_3 hw.h1 hw.h2 (by omega)
      exact .inl ⟨⟨by omega, this.symm⟩, hv⟩
    · rw [hz, List.length_drop] at hl
      simp only [hz]
      exact .inr ⟨⟨⟨hw.e, ⟨b, o, rfl⟩, hw.h1, hw.s⟩, hw.h2, hw.m⟩, by simp only [List.drop_drop], hv, by omega, hu, rfl⟩

theorem at5 {zs : List Int} {x y : GS} (hl : x.zs.length = x.len) (h : At4 zs x) (st : NumStep (fun v => { x with n := v }) x y) : At5 zs y := by
  rcases h with ⟨⟨hn, he⟩, hv⟩ | ⟨hw, hz, hv, h3, hu, hg⟩
  · rcases st with ⟨h, rfl⟩ | ⟨h, _⟩ | ⟨h, _⟩
    · exact .inl ⟨⟨hn, he⟩, hv⟩
    · omega
    · omega
  · rcases st with ⟨h, _⟩ | ⟨_, h4, rfl⟩ | ⟨_, h4, b, o, rfl⟩
    · exact absurd hw.e h
    · rw [hz, List.length_drop] at hl
      have := crE_3 hw.h1 hw.h2 (by omega)
      exact .inl ⟨⟨by omega, this.symm⟩, hv⟩
    · rw [hz, List.length_drop] at hl
      simp only [hz]
      exact .inr ⟨⟨⟨⟨hw.e, ⟨b, o, rfl⟩, hw.h1, hw.s⟩, hw.h2, hw.m⟩, hu, hg, by omega⟩, by simp only [List.drop_drop], hv, rfl⟩

theorem at5_n {zs : List Int} (hb : Byt zs) {x : GS} (h : At5 zs x) (h0 : x.e = 0) : 0 ≤ x.n := by
  rcases h with ⟨⟨hn, he⟩, _⟩ | ⟨hw, _, _, hn⟩
  · omega
  · rw [hn]
    exact (be_range (byt_drop (byt_drop (byt_drop hb 4) _) 8) (by have := hw.h3; rw [List.length_drop]; simp only [crR] at this; omega)).1

theorem at6 {zs : List Int} {x y : GS} (h : At5 zs x) (st : RoomStep x y) : At6 zs y := by
  rcases h with ⟨⟨hn, he⟩, hv⟩ | ⟨hw, hz, hv, hn⟩
  · rcases st with ⟨h, rfl⟩ | ⟨h, _⟩ | ⟨h, _⟩
    · exact .inl ⟨⟨hn, he⟩, hv⟩
    · omega
    · omega
  · rcases st with ⟨h, _⟩ | ⟨_, h4, rfl⟩ | ⟨_, h4, b, o, gb, rfl⟩
    · exact absurd hw.e h
    · rw [hn] at h4
      have := crE_4 hw.h1 hw.h2 hw.h3 h4
      exact .inl ⟨⟨by omega, this.symm⟩, hv⟩
    · rw [hn] at h4
      simp only [hn, hz]
      have w7 : W7 zs { x with n := crN zs, va := some ⟨gb, 0, none⟩, vn := (crN zs).toNat, vc := (crN zs).toNat, gs := List.replicate (crN zs).toNat 0, a := some ⟨b, o, none⟩, len := x.len - 0, cap := x.cap - 0, zs := ((crR zs).drop 12).drop 0 } :=
        ⟨⟨⟨⟨hw.e, ⟨b, o, rfl⟩, hw.h1, hw.s⟩, hw.h2, hw.m⟩, hw.u, hw.g, hw.h3⟩, h4, rfl⟩
      exact .inr ⟨.inr ⟨w7, by simp, by omega, hw.h3, by simp [numsZ, crK]⟩, w7⟩

theorem at7 {zs : List Int} {x y : GS} {k : Nat} (hl : x.zs.length = x.len) (hk : k < crK zs) (h : At7 zs k x) (st : NumStep (fun v => { x with gs := x.gs.set k v }) x y) : At7 zs (k + 1) y := by
  rcases h with ⟨hn, he⟩ | ⟨hw, hz, hk', h5, hg⟩
  · rcases st with ⟨h, rfl⟩ | ⟨h, _⟩ | ⟨h, _⟩
    · exact .inl ⟨hn, he⟩
    · omega
    · omega
  · rcases st with ⟨h, _⟩ | ⟨_, h4, rfl⟩ | ⟨_, h4, b, o, rfl⟩
    · exact absurd hw.e h
    · rw [hz, List.length_drop] at hl
      have := crE_5 hw.h1 hw.h2 hw.h3 hw.h4 (by omega)
      exact .inl ⟨by omega, this.symm⟩
    · rw [hz, List.length_drop] at hl
      simp only [hz]
      refine .inr ⟨⟨⟨⟨⟨hw.e, ⟨b, o, rfl⟩, hw.h1, hw.s⟩, hw.h2, hw.m⟩, hw.u, hw.g, hw.h3⟩, hw.h4, hw.vn⟩, by simp only [List.drop_drop]; congr 1, by omega, by omega, ?_⟩
      simp only [hg]
      rw [numsZ_snoc, List.drop_drop, List.set_append_right _ _ (by rw [numsZ_len]; omega), numsZ_len, Nat.sub_self, show crK zs - k = (crK zs - (k + 1)) + 1 from by omega, List.replicate_succ, List.set_cons_zero]
      simp

theorem at8 {zs : List Int} {x y : GS} (hl : x.zs.length = x.len) (h : At7 zs (crK zs) x ∨ Bad zs x) (st : EndStep x y) : At8 zs y := by
  have h' : At7 zs (crK zs) x := by
    rcases h with h | h
    · exact h
    · exact .inl h
  rcases h' with ⟨hn, he⟩ | ⟨hw, hz, hk', h5, hg⟩
  · rcases st with ⟨h, rfl⟩ | ⟨h, _⟩ | ⟨h, _⟩
    · exact .inl ⟨hn, he⟩
    · omega
    · omega
  · rw [hz, List.length_drop] at hl
    rcases st with ⟨h, _⟩ | ⟨_, h4, rfl⟩ | ⟨_, h4, b, o, rfl⟩
    · exact absurd hw.e h
    · have := crE_6 hw.h1 hw.h2 hw.h3 hw.h4 (by omega)
      exact .inl ⟨by omega, this.symm⟩
    · exact .inr ⟨crE_0 hw.h1 hw.h2 hw.h3 hw.h4 (by omega), hw.e, hw.s, hw.m, hw.u, hw.g, by simp only [hg]; simp [crL], hw.vn⟩
end Go.Proofs.YtciinabhelfnoaaGreatDoor
