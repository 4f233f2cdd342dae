/- Which row bytes have: the rows that are left, number by number; plain mathematics. -/
import Derived.Test.YtmjhgpmeikpbkaaDoorRepSmall
import Derived.Test.YtmjhgpmeikpbkaaDoorRepMath
namespace Go.Proofs.YtmjhgpmeikpbkaaDoor
set_option linter.unusedVariables false
open Go.RowKit Go.Maps

/-- The rows that are left behind so many numbers. -/
def lf (zs : List Int) : Nat → List Int
  | 0 => hows
  | k + 1 => (lf zs k).filter fun a => bgn a k (num zs k)

structure HW where
  e : Int
  h : Int
  k : Nat

def hwEnd (L : List Int) (k : Nat) : HW := match L with
  | [a] => ⟨0, a, k⟩
  | _ => ⟨5, 0, k⟩

/-- What comes of bytes whose first numbers, so many, are read. -/
def hwAt : Nat → List Int → Nat → HW
  | 0, _, k => ⟨5, 0, k⟩
  | f + 1, zs, k => if (lf zs k).length ≤ 1 then hwEnd (lf zs k) k else if zs.length < 4 * (k + 1) then ⟨4, 0, k⟩ else hwAt f zs (k + 1)

theorem lf_sub (zs : List Int) (k : Nat) : (lf zs k).Sublist hows := by
  induction k with
  | zero => exact List.Sublist.refl _
  | succ k ih => exact (List.filter_sublist).trans ih

theorem lf_mem {zs : List Int} {k : Nat} {a : Int} (h : a ∈ lf zs k) : a ∈ hows := (lf_sub zs k).subset h
theorem lf_len (zs : List Int) (k : Nat) : (lf zs k).length ≤ 7 := (lf_sub zs k).length_le
theorem hows_nodup : hows.Nodup := by decide
theorem lf_nodup (zs : List Int) (k : Nat) : (lf zs k).Nodup := (lf_sub zs k).nodup hows_nodup

theorem bgn0 (n : Int) : hows.filter (fun a => bgn a 0 n) = if n = 0 then [0, 1, 2, 3, 4] else if n = 1 then [100, 101] else [] := by
  split
  · subst_vars; decide
  · split
    · subst_vars; decide
    · rename_i h0 h1
      rw [List.filter_eq_nil_iff]
      intro a ha
      simp only [bgn, fxs, Bool.and_eq_true, beq_iff_eq, not_and, if_pos]
      intro _ e
      unfold fx0 at e
      split at e <;> omega

theorem bgnT (k : Nat) (hk : k = 1 ∨ k = 2) (n : Int) : [0, 1, 2, 3, 4].filter (fun a => bgn a k n) = if n = 0 then [0, 1, 2, 3, 4] else [] := by
  split
  · subst_vars; rcases hk with rfl | rfl <;> decide
  · rename_i h0
    rw [List.filter_eq_nil_iff]
    intro a ha
    simp only [bgn, Bool.and_eq_true, beq_iff_eq, not_and]
    intro _ e
    have : fxs a k = 0 := by
      simp only [List.mem_cons, List.not_mem_nil, or_false] at ha
      rcases hk with rfl | rfl <;> rcases ha with rfl | rfl | rfl | rfl | rfl <;> decide
    omega

theorem bgnD (n : Int) : [100, 101].filter (fun a => bgn a 1 n) = if n = 0 then [100] else if n = 1 then [101] else [] := by
  split
  · subst_vars; decide
  · split
    · subst_vars; decide
    · rename_i h0 h1
      rw [List.filter_eq_nil_iff]
      intro a ha
      simp only [bgn, Bool.and_eq_true, beq_iff_eq, not_and]
      intro _ e
      simp only [List.mem_cons, List.not_mem_nil, or_false] at ha
      rcases ha with rfl | rfl
      · exact h0 (e.symm.trans (by decide))
      · exact h1 (e.symm.trans (by decide))

theorem bgn3 (n : Int) : [0, 1, 2, 3, 4].filter (fun a => bgn a 3 n) = if n = 0 ∨ n = 1 ∨ n = 2 ∨ n = 3 ∨ n = 4 then [n] else [] := by
  split
  · rename_i h
    rcases h with rfl | rfl | rfl | rfl | rfl <;> decide
  · rename_i h
    rw [List.filter_eq_nil_iff]
    intro a ha
    simp only [bgn, Bool.and_eq_true, beq_iff_eq, not_and]
    intro _ e
    simp only [List.mem_cons, List.not_mem_nil, or_false] at ha
    rcases ha with rfl | rfl | rfl | rfl | rfl
    · exact h (.inl (e.symm.trans (by decide)))
    · exact h (.inr (.inl (e.symm.trans (by decide))))
    · exact h (.inr (.inr (.inl (e.symm.trans (by decide)))))
    · exact h (.inr (.inr (.inr (.inl (e.symm.trans (by decide))))))
    · exact h (.inr (.inr (.inr (.inr (e.symm.trans (by decide))))))

theorem lf1 (zs : List Int) : lf zs 1 = if num zs 0 = 0 then [0, 1, 2, 3, 4] else if num zs 0 = 1 then [100, 101] else [] := bgn0 (num zs 0)

/-- Behind four numbers one row is left, or none. -/
theorem lf4 (zs : List Int) : (lf zs 4).length ≤ 1 := by
  have e2 : lf zs 2 = (lf zs 1).filter fun a => bgn a 1 (num zs 1) := rfl
  have e3 : lf zs 3 = (lf zs 2).filter fun a => bgn a 2 (num zs 2) := rfl
  have e4 : lf zs 4 = (lf zs 3).filter fun a => bgn a 3 (num zs 3) := rfl
  have key : ∀ L M : List Int, L.Sublist M → M.length ≤ 1 → L.length ≤ 1 := fun L M h h1 => Nat.le_trans h.length_le h1
  rw [lf1] at e2
  split at e2
  · rw [bgnT 1 (.inl rfl)] at e2
    split at e2
    · rw [e2, bgnT 2 (.inr rfl)] at e3
      split at e3
      · rw [e3, bgn3] at e4
        rw [e4]; split <;> simp
      · rw [e4, e3]; simp
    · rw [e4, e3, e2]; simp
  · split at e2
    · rw [bgnD] at e2
      have h2 : (lf zs 2).length ≤ 1 := by rw [e2]; split; simp; split <;> simp
      exact key _ _ ((e4 ▸ List.filter_sublist).trans (e3 ▸ List.filter_sublist)) h2
    · rw [e4, e3, e2]; simp

/-- What comes of bytes. -/
def hw (zs : List Int) : HW :=
  if zs.length < 4 then ⟨4, 0, 0⟩
  else if num zs 0 = 1 then (if zs.length < 8 then ⟨4, 0, 1⟩ else if num zs 1 = 0 then ⟨0, 100, 2⟩ else if num zs 1 = 1 then ⟨0, 101, 2⟩ else ⟨5, 0, 2⟩)
  else if num zs 0 = 0 then
    (if zs.length < 8 then ⟨4, 0, 1⟩ else if num zs 1 ≠ 0 then ⟨5, 0, 2⟩ else if zs.length < 12 then ⟨4, 0, 2⟩ else if num zs 2 ≠ 0 then ⟨5, 0, 3⟩ else if zs.length < 16 then ⟨4, 0, 3⟩
     else if num zs 3 = 0 ∨ num zs 3 = 1 ∨ num zs 3 = 2 ∨ num zs 3 = 3 ∨ num zs 3 = 4 then ⟨0, num zs 3, 4⟩ else ⟨5, 0, 4⟩)
  else ⟨5, 0, 1⟩

theorem hw_eq (zs : List Int) : hwAt 5 zs 0 = hw zs := by
  have e2 : lf zs 2 = (lf zs 1).filter fun a => bgn a 1 (num zs 1) := rfl
  have e3 : lf zs 3 = (lf zs 2).filter fun a => bgn a 2 (num zs 2) := rfl
  have e4 : lf zs 4 = (lf zs 3).filter fun a => bgn a 3 (num zs 3) := rfl
  have e1 := lf1 zs
  unfold hw
  have e0 : ¬ (lf zs 0).length ≤ 1 := by show ¬ hows.length ≤ 1; decide
  rw [hwAt, if_neg e0]
  by_cases l4 : zs.length < 4
  · rw [if_pos (by omega), if_pos l4]
  rw [if_neg (by omega), if_neg l4, hwAt]
  by_cases n1 : num zs 0 = 1
  · rw [if_neg (by omega), if_pos n1] at e1
    rw [if_pos n1, e1, if_neg (by simp)]
    by_cases l8 : zs.length < 8
    · rw [if_pos (by omega), if_pos l8]
    rw [if_neg (by omega), if_neg l8, hwAt]
    rw [e1, bgnD] at e2
    split at e2
    · rename_i h; rw [e2, if_pos (by simp), if_pos h]; rfl
    · split at e2
      · rename_i h h'; rw [e2, if_pos (by simp), if_neg h, if_pos h']; rfl
      · rename_i h h'; rw [e2, if_pos (by simp), if_neg h, if_neg h']; rfl
  rw [if_neg n1]
  by_cases n0 : num zs 0 = 0
  · rw [if_pos n0] at e1
    rw [if_pos n0, e1, if_neg (by simp)]
    by_cases l8 : zs.length < 8
    · rw [if_pos (by omega), if_pos l8]
    rw [if_neg (by omega), if_neg l8, hwAt]
    rw [e1, bgnT 1 (.inl rfl)] at e2
    split at e2
    · rename_i h
      rw [e2, if_neg (by simp), if_neg (show ¬ num zs 1 ≠ 0 by simp [h])]
      by_cases l12 : zs.length < 12
      · rw [if_pos (by omega), if_pos l12]
      rw [if_neg (by omega), if_neg l12, hwAt]
      rw [e2, bgnT 2 (.inr rfl)] at e3
      split at e3
      · rename_i h'
        rw [e3, if_neg (by simp), if_neg (show ¬ num zs 2 ≠ 0 by simp [h'])]
        by_cases l16 : zs.length < 16
        · rw [if_pos (by omega), if_pos l16]
        rw [if_neg (by omega), if_neg l16, hwAt]
        rw [e3, bgn3] at e4
        split at e4
        · rename_i h''; rw [e4, if_pos (by simp), if_pos h'']; rfl
        · rename_i h''; rw [e4, if_pos (by simp), if_neg h'']; rfl
      · rename_i h'; rw [e3, if_pos (by simp), if_pos h']; rfl
    · rename_i h; rw [e2, if_pos (by simp), if_pos h]; rfl
  · rw [if_neg n0, if_neg n1] at e1
    rw [if_neg n0, e1, if_pos (by simp)]; rfl

theorem same_u32 (a x : Int) : (Lit.int .u32 a).sameKey (.int .u32 x) = decide (a = x) := by
  by_cases h : a = x
  · subst h; rw [WideAt.sameKey_self (show WideAt.IsKeyLit (.int .u32 a) from trivial)]; simp
  · rw [sameKey_ne (fun e => h (by injection e))]; simp [h]

/-- Of rows by their keys. -/
theorem atKey_Dp (L : List Int) (x : Int) (zd : DataW Unit) : (Dp L).atKey (.int .u32 x) zd = if x ∈ L then .lit (.int .u32 x) else zd := by
  simp only [Dp, DataW.atKey]
  induction L with
  | nil => simp
  | cons b L ih =>
    rw [List.map_cons, List.find?_cons, same_u32]
    by_cases h : b = x
    · subst h; simp
    · rw [decide_eq_false h]
      simp only [List.mem_cons]
      rw [ih]
      by_cases hx : x ∈ L
      · rw [if_pos hx, if_pos (.inr hx)]
      · rw [if_neg hx, if_neg (by rintro (e | e); exact h e.symm; exact hx e)]

theorem has_Dp (L : List Int) (x : Int) : Maps.has (Dp L) (.int .u32 x) = decide (x ∈ L) := by
  show (L.map fun a => (Lit.int .u32 a, (DataW.lit (.int .u32 a) : DataW Unit))).any (fun p => p.1.sameKey (.int .u32 x)) = _
  rw [List.any_map]
  induction L with
  | nil => simp
  | cons b L ih =>
    rw [List.any_cons, ih]
    simp only [Function.comp, same_u32, List.mem_cons]
    by_cases h : b = x
    · subst h; simp
    · have h' : ¬ x = b := fun e => h e.symm
      simp [h, h']

theorem del_Dp (L : List Int) (x : Int) : (Dp L).del (.int .u32 x) = Dp (L.filter (fun a => a != x)) := by
  show DataW.map ((L.map fun a => (Lit.int .u32 a, (DataW.lit (.int .u32 a) : DataW Unit))).filter fun p => !p.1.sameKey (.int .u32 x)) = DataW.map _
  congr 1
  rw [List.filter_map]
  congr 1
  refine List.filter_congr fun a _ => ?_
  simp only [Function.comp, same_u32]
  by_cases h : a = x <;> simp [h]

theorem size_Dp (L : List Int) : Maps.size (Dp L) = L.length := by
  simp [Maps.size, Dp]

/-- The rows that are left in the middle of a round of striking: those that go on so, and those that are still to come. -/
def mid (L : List Int) (k : Nat) (n : Int) (left : Lit → Bool) : List Int := L.filter fun a => bgn a k n || left (.int .u32 a)

theorem mid_start (L : List Int) (k : Nat) (n : Int) : mid L k n (Maps.has (Dp L)) = L := by
  rw [mid, List.filter_eq_self]
  intro a ha
  rw [has_Dp, decide_eq_true ha]
  simp

theorem mid_end {L : List Int} {k : Nat} {n : Int} {left : Lit → Bool} (h : ∀ kl, left kl = false) : mid L k n left = L.filter fun a => bgn a k n := by
  rw [mid]
  refine List.filter_congr fun a _ => ?_
  rw [h]; simp

theorem mid_stays {L : List Int} {k : Nat} {n x : Int} {left : Lit → Bool} (h : bgn x k n = true) : mid L k n (fun z => left z && !z.sameKey (.int .u32 x)) = mid L k n left := by
  unfold mid
  refine List.filter_congr fun a _ => ?_
  simp only [same_u32]
  by_cases e : a = x
  · subst e; rw [h]; simp
  · simp [e]

theorem mid_goes {L : List Int} {k : Nat} {n x : Int} {left : Lit → Bool} (h : bgn x k n = false) : mid L k n (fun z => left z && !z.sameKey (.int .u32 x)) = (mid L k n left).filter (fun a => a != x) := by
  unfold mid
  rw [List.filter_filter]
  refine List.filter_congr fun a _ => ?_
  simp only [same_u32]
  by_cases e : a = x
  · subst e; rw [h]; simp
  · simp [e]

/-- An entry that comes is a row's own. -/
theorem came {L : List Int} {x c : Int} {y : DataW Unit × List MemPlace} (hc : rowR (rowV c) = some y) (hat : ∀ zd, (Dp L).atKey (.int .u32 x) zd = y.1) : x ∈ L ∧ rowV c = rowV x := by
  obtain ⟨b, hb, e1, rfl⟩ := rowR_inv hc
  have hx : x ∈ L := by
    by_cases hx : x ∈ L
    · exact hx
    · have h0 := hat (.lit (.int .u32 (b + 1)))
      rw [atKey_Dp, if_neg hx] at h0
      injection h0 with h1
      injection h1 with _ h2
      omega
  refine ⟨hx, ?_⟩
  have h0 := hat .nil
  rw [atKey_Dp, if_pos hx] at h0
  injection h0 with h1
  injection h1 with _ h2
  rw [h2, e1]
end Go.Proofs.YtmjhgpmeikpbkaaDoor
