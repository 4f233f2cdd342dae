/- What a reader that goes on part by part has read: the first error, or the values; plain mathematics. -/
import Derived.Test.YtecbhhfncklefacAttrMath2
namespace Go.Proofs.Ytecbhhfncklefac
set_option linter.unusedVariables false

/-- Behind a part: its error; and if there is none, its value. -/
structure Aft {α : Type} (c : Codec α) (s : Rd) (v : α) (s' : Rd) : Prop where
  e : s'.e = (c.dec s).2.e
  eq : s'.e = 0 → (v, s') = c.dec s

theorem aft_stick {α : Type} {c : Codec α} {s : Rd} (h : s.e ≠ 0) (v : α) : Aft c s v s := by
  refine ⟨?_, fun h0 => absurd h0 h⟩
  rw [c.stick s h]

theorem aft_seq {α β : Type} {c : Codec α} {d : Codec β} {s s1 s2 : Rd} {v : α} {u : β} (h1 : Aft c s v s1) (h2 : Aft d s1 u s2) : Aft (c.seq d) s (v, u) s2 := by
  by_cases h : s1.e = 0
  · have e1 := h1.eq h
    have f1 : (c.dec s).1 = v := by rw [← e1]
    have f2 : (c.dec s).2 = s1 := by rw [← e1]
    refine ⟨?_, fun h0 => ?_⟩
    · show s2.e = (d.dec (c.dec s).2).2.e
      rw [f2]; exact h2.e
    · show ((v, u), s2) = (((c.dec s).1, (d.dec (c.dec s).2).1), (d.dec (c.dec s).2).2)
      rw [f1, f2, ← h2.eq h0]
  · have hc : (c.dec s).2.e ≠ 0 := by rw [← h1.e]; exact h
    have e2 : s2.e = s1.e := by rw [h2.e, d.stick s1 h]
    refine ⟨?_, fun h0 => absurd (e2 ▸ h0) h⟩
    show s2.e = (d.dec (c.dec s).2).2.e
    rw [d.stick _ hc, e2, h1.e]

theorem aft_dep {α β : Type} {c : Codec α} {q : α → Bool} {d : Codec β} {hq : q c.zero = false} {s s1 s2 : Rd} {v : α} {u : β} (h1 : Aft c s v s1) (h2 : (q v = true ∧ Aft d s1 u s2) ∨ (q v = false ∧ u = d.zero ∧ s2 = s1)) : Aft (c.dep q d hq) s (v, u) s2 := by
  by_cases h : s1.e = 0
  · have e1 := h1.eq h
    have f1 : (c.dec s).1 = v := by rw [← e1]
    have f2 : (c.dec s).2 = s1 := by rw [← e1]
    rcases h2 with ⟨hv, h2⟩ | ⟨hv, rfl, rfl⟩
    · refine ⟨?_, fun h0 => ?_⟩
      · show s2.e = (if q (c.dec s).1 then (((c.dec s).1, (d.dec (c.dec s).2).1), (d.dec (c.dec s).2).2) else (((c.dec s).1, d.zero), (c.dec s).2)).2.e
        rw [f1, f2, hv, if_pos rfl]; exact h2.e
      · show ((v, u), s2) = (if q (c.dec s).1 then (((c.dec s).1, (d.dec (c.dec s).2).1), (d.dec (c.dec s).2).2) else (((c.dec s).1, d.zero), (c.dec s).2))
        rw [f1, f2, hv, if_pos rfl, ← h2.eq h0]
    · refine ⟨?_, fun h0 => ?_⟩
      · show s2.e = (if q (c.dec s).1 then (((c.dec s).1, (d.dec (c.dec s).2).1), (d.dec (c.dec s).2).2) else (((c.dec s).1, d.zero), (c.dec s).2)).2.e
        rw [f1, f2, hv]; rfl
      · show ((v, d.zero), s2) = (if q (c.dec s).1 then (((c.dec s).1, (d.dec (c.dec s).2).1), (d.dec (c.dec s).2).2) else (((c.dec s).1, d.zero), (c.dec s).2))
        rw [f1, f2, hv]; rfl
  · have hc : (c.dec s).2.e ≠ 0 := by rw [← h1.e]; exact h
    have e2 : s2.e = s1.e := by
      rcases h2 with ⟨hv, h2⟩ | ⟨hv, _, rfl⟩
      · rw [h2.e, d.stick s1 h]
      · rfl
    refine ⟨?_, fun h0 => absurd (e2 ▸ h0) h⟩
    show s2.e = (if q (c.dec s).1 then (((c.dec s).1, (d.dec (c.dec s).2).1), (d.dec (c.dec s).2).2) else (((c.dec s).1, d.zero), (c.dec s).2)).2.e
    split
    · rw [d.stick _ hc, e2, h1.e]
    · rw [e2, h1.e]

theorem aft_must {α : Type} {c : Codec α} {p : α → Bool} {s s1 : Rd} {v : α} (h1 : Aft c s v s1) : Aft (c.mustC p) s v (must (p v) s1) := by
  by_cases h : s1.e = 0
  · have e1 := h1.eq h
    have f1 : (c.dec s).1 = v := by rw [← e1]
    have f2 : (c.dec s).2 = s1 := by rw [← e1]
    refine ⟨?_, fun h0 => ?_⟩
    · show _ = (must (p (c.dec s).1) (c.dec s).2).e
      rw [f1, f2]
    · show _ = ((c.dec s).1, must (p (c.dec s).1) (c.dec s).2)
      rw [f1, f2]
  · have hc : (c.dec s).2.e ≠ 0 := by rw [← h1.e]; exact h
    have hm : must (p v) s1 = s1 := by simp [must, h]
    have hm2 : must (p (c.dec s).1) (c.dec s).2 = (c.dec s).2 := by simp [must, hc]
    refine ⟨?_, fun h0 => absurd (hm ▸ h0) h⟩
    show _ = (must (p (c.dec s).1) (c.dec s).2).e
    rw [hm, hm2, h1.e]

theorem aft_iso {α β : Type} {c : Codec α} {f : α → β} {g : β → α} {hfg : ∀ y, f (g y) = y} {hgf : ∀ x, c.ok x → g (f x) = x} {s s1 : Rd} {v : α} (h1 : Aft c s v s1) : Aft (c.iso f g hfg hgf) s (f v) s1 := by
  refine ⟨h1.e, fun h0 => ?_⟩
  have e1 := h1.eq h0
  show _ = (f (c.dec s).1, (c.dec s).2)
  rw [← e1]

/-- At the end: what 'Get' answers. -/
theorem aft_end {α : Type} {c : Codec α} {zs : List Int} {v : α} {s' : Rd} (h : Aft c ⟨zs, 0, 0⟩ v s') : s'.e = c.gE zs ∧ (s'.e = 0 → v = c.gV zs ∧ s'.n = c.gN zs) := by
  refine ⟨h.e, fun h0 => ?_⟩
  have e1 := h.eq h0
  have h2 : c.gE zs = 0 := by rw [← h0]; exact h.e.symm
  unfold Codec.gV Codec.gN
  rw [if_pos h2, if_pos h2, ← e1]
  exact ⟨rfl, rfl⟩

/-- What is left is what stands behind what was read. -/
structure Rd.On (s : Rd) (zs : List Int) : Prop where
  r : s.r = zs.drop s.n
  n : s.n ≤ zs.length
theorem on_start (zs : List Int) : (⟨zs, 0, 0⟩ : Rd).On zs := ⟨rfl, Nat.zero_le _⟩

/-- The reader behind one part of k bytes with the error E. -/
def Rd.nxt (s : Rd) (E : Int) (k : Nat) : Rd := if E = 0 then ⟨s.r.drop k, s.n + k, 0⟩ else ⟨s.r, s.n, E⟩
theorem on_nxt {s : Rd} {zs : List Int} {E : Int} {k : Nat} (h : s.On zs) (hk : E = 0 → k ≤ s.r.length) : (s.nxt E k).On zs := by
  unfold Rd.nxt
  split
  · rename_i h0
    have h1 := hk h0
    have h2 := h.n
    rw [h.r, List.length_drop] at h1
    exact ⟨by show s.r.drop k = zs.drop (s.n + k); rw [h.r, List.drop_drop], by show s.n + k ≤ zs.length; omega⟩
  · exact ⟨h.r, h.n⟩
theorem on_must {s : Rd} {zs : List Int} {b : Bool} (h : s.On zs) : (must b s).On zs := by
  unfold must
  split
  · exact ⟨h.r, h.n⟩
  · exact h

theorem aft_num4 {s : Rd} (h : s.e = 0) : Aft (numC 4) s (getN s.r) (s.nxt (getE s.r) 4) ∧ (getE s.r = 0 → 4 ≤ s.r.length) := by
  have hd : (numC 4).dec s = if s.r.length < 4 then (0, ⟨s.r, s.n, 4⟩) else (be (s.r.take 4), ⟨s.r.drop 4, s.n + 4, 0⟩) := by
    show rNum 4 s = _
    unfold rNum; rw [if_neg (by simpa using h)]
  unfold getN getE Rd.nxt
  by_cases hl : s.r.length < 4
  · rw [if_pos hl] at hd
    simp only [hl, if_true]
    exact ⟨⟨by rw [hd]; rfl, fun h0 => by cases h0⟩, fun h0 => by cases h0⟩
  · rw [if_neg hl] at hd
    simp only [hl, if_false]
    exact ⟨⟨by rw [hd]; rfl, fun h0 => by rw [hd]; rfl⟩, fun h0 => by omega⟩
theorem aft_num8 {s : Rd} (h : s.e = 0) : Aft (numC 8) s (getM s.r) (s.nxt (getF s.r) 8) ∧ (getF s.r = 0 → 8 ≤ s.r.length) := by
  have hd : (numC 8).dec s = if s.r.length < 8 then (0, ⟨s.r, s.n, 4⟩) else (be (s.r.take 8), ⟨s.r.drop 8, s.n + 8, 0⟩) := by
    show rNum 8 s = _
    unfold rNum; rw [if_neg (by simpa using h)]
  unfold getM getF Rd.nxt
  by_cases hl : s.r.length < 8
  · rw [if_pos hl] at hd
    simp only [hl, if_true]
    exact ⟨⟨by rw [hd]; rfl, fun h0 => by cases h0⟩, fun h0 => by cases h0⟩
  · rw [if_neg hl] at hd
    simp only [hl, if_false]
    exact ⟨⟨by rw [hd]; rfl, fun h0 => by rw [hd]; rfl⟩, fun h0 => by omega⟩
theorem aft_yes {s : Rd} (h : s.e = 0) : Aft yesC s (getY s.r) (s.nxt (getG s.r) 4) ∧ (getG s.r = 0 → 4 ≤ s.r.length) := by
  have hd : yesC.dec s = (((numC 4).dec s).1 == 1, must (decide (((numC 4).dec s).1 ≤ 1)) ((numC 4).dec s).2) := rfl
  have hn : (numC 4).dec s = if s.r.length < 4 then (0, ⟨s.r, s.n, 4⟩) else (be (s.r.take 4), ⟨s.r.drop 4, s.n + 4, 0⟩) := by
    show rNum 4 s = _
    unfold rNum; rw [if_neg (by simpa using h)]
  rw [hn] at hd
  unfold getY getG Rd.nxt
  by_cases hl : s.r.length < 4
  · rw [if_pos hl] at hd
    simp only [hl, if_true]
    exact ⟨⟨by rw [hd]; rfl, fun h0 => by cases h0⟩, fun h0 => by cases h0⟩
  · rw [if_neg hl] at hd
    simp only [hl, if_false]
    by_cases h1 : 1 < be (s.r.take 4)
    · have h2 : decide (be (s.r.take 4) ≤ 1) = false := by simp; omega
      simp only [h1, if_true]
      exact ⟨⟨by rw [hd]; show (5 : Int) = (must (decide (be (s.r.take 4) ≤ 1)) _).e; rw [h2]; rfl, fun h0 => by cases h0⟩, fun h0 => by cases h0⟩
    · have h2 : decide (be (s.r.take 4) ≤ 1) = true := by simp; omega
      simp only [h1, if_false, if_true]
      refine ⟨⟨?_, fun h0 => ?_⟩, fun h0 => by omega⟩
      · rw [hd]; show (0 : Int) = (must (decide (be (s.r.take 4) ≤ 1)) _).e; rw [h2]; rfl
      · rw [hd]
        show _ = (be (s.r.take 4) == 1, must (decide (be (s.r.take 4) ≤ 1)) _)
        rw [h2]
        simp [must]
theorem aft_tim {s : Rd} (h : s.e = 0) : Aft timC s (gtS s.r, gtN s.r) (s.nxt (gtE s.r) 8) ∧ (gtE s.r = 0 → 8 ≤ s.r.length) := by
  have hf := fix_seq (fix_num 4) (fix_num 4)
  have hs : s = ⟨s.r, s.n, 0⟩ := Rd.clean s h
  have hd : timC.dec s = ((((numC 4).seq (numC 4)).dec s).1, must (tok (((numC 4).seq (numC 4)).dec s).1.2) (((numC 4).seq (numC 4)).dec s).2) := rfl
  unfold Rd.nxt
  by_cases hl : s.r.length < 8
  · obtain ⟨e1, e2, e3⟩ := gt_short hl
    have h4 := hf.few s.r s.n hl
    rw [← hs] at h4
    rw [e1, e2, e3]
    refine ⟨⟨?_, fun h0 => by cases h0⟩, fun h0 => by cases h0⟩
    rw [hd]
    show (4 : Int) = (must _ _).e
    unfold must
    rw [if_neg (by rw [h4]; simp)]
    exact h4.symm
  · have h8 := hf.all s.r s.n (by omega)
    rw [← hs] at h8
    rw [h8] at hd
    by_cases hn : 1000000000 ≤ be ((s.r.drop 4).take 4)
    · obtain ⟨e1, e2, e3⟩ := gt_form hl hn
      have ht : tok (be ((s.r.drop 4).take 4)) = false := by simp [tok]; omega
      rw [e1, e2, e3]
      refine ⟨⟨?_, fun h0 => by cases h0⟩, fun h0 => by cases h0⟩
      rw [hd]
      show (5 : Int) = (must (tok (be ((s.r.drop 4).take 4))) _).e
      rw [ht]; rfl
    · obtain ⟨e1, e2, e3⟩ := gt_ok hl hn
      have ht : tok (be ((s.r.drop 4).take 4)) = true := by simp [tok]; omega
      rw [e1, e2, e3]
      refine ⟨⟨?_, fun h0 => ?_⟩, fun h0 => by omega⟩
      · rw [hd]
        show (0 : Int) = (must (tok (be ((s.r.drop 4).take 4))) _).e
        rw [ht]; rfl
      · rw [hd]
        show _ = ((be (s.r.take 4), be ((s.r.drop 4).take 4)), must (tok (be ((s.r.drop 4).take 4))) _)
        rw [ht]; rfl
/-- What is told of a node: as 'Get' of what is left. -/
theorem aft_attr {s : Rd} (h : s.e = 0) : Aft attrC s (attrC.gV s.r) ⟨s.r.drop (attrC.gN s.r), s.n + attrC.gN s.r, attrC.gE s.r⟩ ∧ attrC.gN s.r ≤ s.r.length := by
  have hs : s = ⟨s.r, s.n, 0⟩ := Rd.clean s h
  obtain ⟨k1, k2, k3⟩ := attr_got s.r s.n
  obtain ⟨m1, m2, m3⟩ := attr_got s.r 0
  rw [← hs] at k1 k2 k3
  by_cases hl : s.r.length < 84
  · have hE : attrC.gE s.r = 4 := m1 hl
    have hb := attrC.bad (zs := s.r) (by rw [hE]; decide)
    rw [hb.1, hb.2, hE]
    exact ⟨⟨(k1 hl).symm, fun h0 => by cases h0⟩, by omega⟩
  · cases hp : (midRaw (rawOf s.r) && amay (ofRaw (rawOf s.r))) with
    | false =>
      have hE : attrC.gE s.r = 5 := m2 (by omega) hp
      have hb := attrC.bad (zs := s.r) (by rw [hE]; decide)
      rw [hb.1, hb.2, hE]
      exact ⟨⟨(k2 (by omega) hp).symm, fun h0 => by cases h0⟩, by omega⟩
    | true =>
      have hd := k3 (by omega) hp
      have hd0 := m3 (by omega) hp
      have hE : attrC.gE s.r = 0 := by show (attrC.dec ⟨s.r, 0, 0⟩).2.e = 0; rw [hd0]
      have hV : attrC.gV s.r = ofRaw (rawOf s.r) := by unfold Codec.gV; rw [if_pos hE, hd0]
      have hN : attrC.gN s.r = 84 := by unfold Codec.gN; rw [if_pos hE, hd0]
      rw [hE, hV, hN]
      exact ⟨⟨by rw [hd], fun _ => by rw [hd]⟩, by omega⟩
end Go.Proofs.Ytecbhhfncklefac
