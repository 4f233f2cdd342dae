/- What is put and got, part by part: a part of bytes that tells a value, one behind another; plain mathematics. -/
import Derived.Test.YtecbhhfncklefaaDoorTimeMath
namespace Go.Proofs.YtecbhhfncklefaaDoor
set_option linter.unusedVariables false

/-- Where one reads: what is left, how much was read, the first error. -/
structure Rd where
  r : List Int
  n : Nat
  e : Int

/-- A part: how a value is put, which may be, how it is read. -/
structure Codec (α : Type) where
  enc : α → List Int
  ok : α → Prop
  zero : α
  dec : Rd → α × Rd
  /-- Behind an error nothing is read. -/
  stick : ∀ s : Rd, s.e ≠ 0 → dec s = (zero, s)
  /-- What was put is read, whatever stands behind it. -/
  put : ∀ x r n, ok x → dec ⟨enc x ++ r, n, 0⟩ = (x, ⟨r, n + (enc x).length, 0⟩)
  /-- Of fewer bytes nothing is read. -/
  short : ∀ x n k, ok x → k < (enc x).length → (dec ⟨(enc x).take k, n, 0⟩).2.e = 4
  /-- What is read is put as the bytes that it had. -/
  again : ∀ r n, Byt r → (dec ⟨r, n, 0⟩).2.e = 0 → ok (dec ⟨r, n, 0⟩).1 ∧ r = enc (dec ⟨r, n, 0⟩).1 ++ (dec ⟨r, n, 0⟩).2.r ∧ (dec ⟨r, n, 0⟩).2.n = n + (enc (dec ⟨r, n, 0⟩).1).length
  /-- What may be is bytes. -/
  byt : ∀ x, Byt (enc x)

theorem Rd.clean (s : Rd) (h : s.e = 0) : s = ⟨s.r, s.n, 0⟩ := by cases s; simp_all

theorem byt_right {xs ys : List Int} (h : Byt (xs ++ ys)) : Byt ys := by
  intro i
  have hx := h (xs.length + i)
  rw [List.getElem?_append_right (by omega)] at hx
  simpa using hx
theorem byt_left {xs ys : List Int} (h : Byt (xs ++ ys)) : Byt xs := by
  have := h.take xs.length
  rwa [List.take_left' rfl] at this

/-- Two parts, one behind the other. -/
def Codec.seq {α β : Type} (c : Codec α) (d : Codec β) : Codec (α × β) where
  enc x := c.enc x.1 ++ d.enc x.2
  ok x := c.ok x.1 ∧ d.ok x.2
  zero := (c.zero, d.zero)
  dec s := (((c.dec s).1, (d.dec (c.dec s).2).1), (d.dec (c.dec s).2).2)
  stick s h := by rw [c.stick s h]; show ((c.zero, (d.dec s).1), (d.dec s).2) = _; rw [d.stick s h]
  put x r n h := by
    have h1 := c.put x.1 (d.enc x.2 ++ r) n h.1
    have h2 := d.put x.2 r (n + (c.enc x.1).length) h.2
    rw [← List.append_assoc] at h1
    rw [h1]
    show ((x.1, (d.dec ⟨d.enc x.2 ++ r, n + (c.enc x.1).length, 0⟩).1), (d.dec ⟨d.enc x.2 ++ r, n + (c.enc x.1).length, 0⟩).2) = _
    rw [h2, List.length_append, Nat.add_assoc]
  short x n k h hk := by
    show (d.dec (c.dec ⟨(c.enc x.1 ++ d.enc x.2).take k, n, 0⟩).2).2.e = 4
    by_cases hl : k < (c.enc x.1).length
    · rw [List.take_append_of_le_length (by omega)]
      have := c.short x.1 n k h.1 hl
      rw [d.stick _ (by rw [this]; decide)]
      exact this
    · rw [List.take_append, List.take_of_length_le (by omega), c.put x.1 _ n h.1]
      exact d.short x.2 _ _ h.2 (by rw [List.length_append] at hk; omega)
  again r n hb h := by
    have h0 : (c.dec ⟨r, n, 0⟩).2.e = 0 := by
      apply Classical.byContradiction
      intro hne
      have : (d.dec (c.dec ⟨r, n, 0⟩).2).2.e = 0 := h
      rw [d.stick _ hne] at this
      exact hne this
    obtain ⟨o1, r1, n1⟩ := c.again r n hb h0
    have hc := Rd.clean _ h0
    have hb2 : Byt (c.dec ⟨r, n, 0⟩).2.r := byt_right (xs := c.enc (c.dec ⟨r, n, 0⟩).1) (by rw [← r1]; exact hb)
    have h2 : (d.dec ⟨(c.dec ⟨r, n, 0⟩).2.r, (c.dec ⟨r, n, 0⟩).2.n, 0⟩).2.e = 0 := by rw [← hc]; exact h
    obtain ⟨o2, r2, n2⟩ := d.again _ _ hb2 h2
    rw [← hc] at o2 r2 n2
    refine ⟨⟨o1, o2⟩, ?_, ?_⟩
    · show r = (c.enc (c.dec ⟨r, n, 0⟩).1 ++ d.enc (d.dec (c.dec ⟨r, n, 0⟩).2).1) ++ (d.dec (c.dec ⟨r, n, 0⟩).2).2.r
      rw [List.append_assoc, ← r2]
      exact r1
    · show (d.dec (c.dec ⟨r, n, 0⟩).2).2.n = n + (c.enc (c.dec ⟨r, n, 0⟩).1 ++ d.enc (d.dec (c.dec ⟨r, n, 0⟩).2).1).length
      rw [n2, n1, List.length_append]
      omega
  byt x := (c.byt x.1).append (d.byt x.2)

/-- A number; a long number; the size of each. -/
def rNum (size : Nat) (s : Rd) : Int × Rd :=
  if s.e ≠ 0 then (0, s) else if s.r.length < size then (0, ⟨s.r, s.n, 4⟩) else (be (s.r.take size), ⟨s.r.drop size, s.n + size, 0⟩)

def numC (size : Nat) : Codec Int where
  enc x := bytesOf x size
  ok x := 0 ≤ x ∧ x < 256 ^ size
  zero := 0
  dec := rNum size
  stick s h := by simp [rNum, h]
  put x r n h := by
    have hl := bytesOf_length x size
    unfold rNum
    rw [if_neg (by simp), if_neg (by rw [List.length_append, hl]; omega)]
    show (be ((bytesOf x size ++ r).take size), (⟨(bytesOf x size ++ r).drop size, n + size, 0⟩ : Rd)) = _
    rw [List.take_left' hl, List.drop_left' hl, be_bytesOf size x h.1 h.2, hl]
  short x n k h hk := by
    rw [bytesOf_length] at hk
    unfold rNum
    rw [if_neg (by simp), if_pos (by rw [List.length_take, bytesOf_length]; omega)]
  again r n hb h := by
    unfold rNum at h ⊢
    rw [if_neg (by simp)] at h ⊢
    by_cases hl : r.length < size
    · rw [if_pos hl] at h; cases h
    · rw [if_neg hl]
      have h1 := bytesOf_be_take r hb size (by omega)
      have h2 := be_nonneg (r.take size) (hb.take size)
      rw [List.length_take, Nat.min_eq_left (by omega)] at h2
      refine ⟨h2, ?_, ?_⟩
      · show r = bytesOf (be (r.take size)) size ++ r.drop size
        rw [h1, List.take_append_drop]
      · show n + size = n + (bytesOf (be (r.take size)) size).length
        rw [bytesOf_length]
  byt x := byt_bytesOf x size

/-- A part that must meet a condition, else ErrForm. -/
def must (b : Bool) (s : Rd) : Rd := if s.e = 0 ∧ b = false then ⟨s.r, s.n, 5⟩ else s

def Codec.mustC {α : Type} (c : Codec α) (p : α → Bool) : Codec α where
  enc := c.enc
  ok x := c.ok x ∧ p x = true
  zero := c.zero
  dec s := ((c.dec s).1, must (p (c.dec s).1) (c.dec s).2)
  stick s h := by rw [c.stick s h]; simp [must, h]
  put x r n h := by rw [c.put x r n h.1]; simp [must, h.2]
  short x n k h hk := by
    have := c.short x n k h.1 hk
    show (must _ (c.dec ⟨(c.enc x).take k, n, 0⟩).2).e = 4
    unfold must
    rw [if_neg (by rw [this]; simp)]
    exact this
  again r n hb h := by
    have h' : (must (p (c.dec ⟨r, n, 0⟩).1) (c.dec ⟨r, n, 0⟩).2).e = 0 := h
    unfold must at h'
    by_cases hc : (c.dec ⟨r, n, 0⟩).2.e = 0 ∧ p (c.dec ⟨r, n, 0⟩).1 = false
    · rw [if_pos hc] at h'; cases h'
    · rw [if_neg hc] at h'
      obtain ⟨o1, r1, n1⟩ := c.again r n hb h'
      have hp : p (c.dec ⟨r, n, 0⟩).1 = true := by
        cases hq : p (c.dec ⟨r, n, 0⟩).1 with
        | true => rfl
        | false => exact absurd ⟨h', hq⟩ hc
      have hm : must (p (c.dec ⟨r, n, 0⟩).1) (c.dec ⟨r, n, 0⟩).2 = (c.dec ⟨r, n, 0⟩).2 := by unfold must; rw [if_neg hc]
      refine ⟨⟨o1, hp⟩, ?_, ?_⟩
      · show r = c.enc (c.dec ⟨r, n, 0⟩).1 ++ (must (p (c.dec ⟨r, n, 0⟩).1) (c.dec ⟨r, n, 0⟩).2).r
        rw [hm]; exact r1
      · show (must (p (c.dec ⟨r, n, 0⟩).1) (c.dec ⟨r, n, 0⟩).2).n = _
        rw [hm]; exact n1
  byt := c.byt

/-- Another form of the same values. -/
def Codec.iso {α β : Type} (c : Codec α) (f : α → β) (g : β → α) (hfg : ∀ y, f (g y) = y) (hgf : ∀ x, c.ok x → g (f x) = x) : Codec β where
  enc y := c.enc (g y)
  ok y := c.ok (g y)
  zero := f c.zero
  dec s := (f (c.dec s).1, (c.dec s).2)
  stick s h := by rw [c.stick s h]
  put y r n h := by rw [c.put (g y) r n h]; simp [hfg]
  short y n k h hk := c.short (g y) n k h hk
  again r n hb h := by
    obtain ⟨o1, r1, n1⟩ := c.again r n hb h
    refine ⟨?_, ?_, ?_⟩
    · show c.ok (g (f (c.dec ⟨r, n, 0⟩).1))
      rw [hgf _ o1]; exact o1
    · show r = c.enc (g (f (c.dec ⟨r, n, 0⟩).1)) ++ _
      rw [hgf _ o1]; exact r1
    · show _ = n + (c.enc (g (f (c.dec ⟨r, n, 0⟩).1))).length
      rw [hgf _ o1]; exact n1
  byt y := c.byt (g y)

/-- A part that says whether another part follows. -/
def Codec.dep {α β : Type} (c : Codec α) (q : α → Bool) (d : Codec β) (hq : q c.zero = false) : Codec (α × β) where
  enc x := c.enc x.1 ++ if q x.1 then d.enc x.2 else []
  ok x := c.ok x.1 ∧ if q x.1 then d.ok x.2 else x.2 = d.zero
  zero := (c.zero, d.zero)
  dec s := if q (c.dec s).1 then (((c.dec s).1, (d.dec (c.dec s).2).1), (d.dec (c.dec s).2).2) else (((c.dec s).1, d.zero), (c.dec s).2)
  stick s h := by rw [c.stick s h]; simp [hq]
  put x r n h := by
    cases hx : q x.1 with
    | false =>
      have h2 : x.2 = d.zero := by simpa [hx] using h.2
      simp only [Bool.false_eq_true, if_false, List.append_nil]
      rw [c.put x.1 r n h.1]
      simp [hx, ← h2]
    | true =>
      have h2 : d.ok x.2 := by simpa [hx] using h.2
      simp only [if_true]
      rw [List.append_assoc, c.put x.1 _ n h.1]
      simp only [hx, if_true]
      rw [d.put x.2 r _ h2, List.length_append, Nat.add_assoc]
  short x n k h hk := by
    have hs : ∀ r : List Int, k < (c.enc x.1).length → r = (c.enc x.1).take k → (if q (c.dec ⟨r, n, 0⟩).1 then (((c.dec ⟨r, n, 0⟩).1, (d.dec (c.dec ⟨r, n, 0⟩).2).1), (d.dec (c.dec ⟨r, n, 0⟩).2).2) else (((c.dec ⟨r, n, 0⟩).1, d.zero), (c.dec ⟨r, n, 0⟩).2)).2.e = 4 := by
      intro r hl hr
      have h4 : (c.dec ⟨r, n, 0⟩).2.e = 4 := by rw [hr]; exact c.short x.1 n k h.1 hl
      split
      · show (d.dec (c.dec ⟨r, n, 0⟩).2).2.e = 4
        rw [d.stick _ (by rw [h4]; decide)]
        exact h4
      · exact h4
    by_cases hl : k < (c.enc x.1).length
    · exact hs _ hl (by rw [List.take_append_of_le_length (by omega)])
    · cases hx : q x.1 with
      | false =>
        simp only [hx, Bool.false_eq_true, if_false, List.append_nil] at hk
        omega
      | true =>
        have h2 : d.ok x.2 := by simpa [hx] using h.2
        simp only [hx, if_true] at hk ⊢
        rw [List.take_append, List.take_of_length_le (by omega), c.put x.1 _ n h.1]
        simp only [hx, if_true]
        exact d.short x.2 _ _ h2 (by rw [List.length_append] at hk; omega)
  again r n hb h := by
    cases hx : q (c.dec ⟨r, n, 0⟩).1 with
    | false =>
      simp only [hx, Bool.false_eq_true, if_false, List.append_nil] at h ⊢
      obtain ⟨o1, r1, n1⟩ := c.again r n hb h
      exact ⟨⟨o1, trivial⟩, r1, n1⟩
    | true =>
      simp only [hx, if_true] at h ⊢
      have hc := (c.seq d).again r n hb h
      exact hc
  byt x := by
    cases hx : q x.1 with
    | false => simpa [hx] using c.byt x.1
    | true => simpa [hx] using (c.byt x.1).append (d.byt x.2)
end Go.Proofs.YtecbhhfncklefaaDoor
