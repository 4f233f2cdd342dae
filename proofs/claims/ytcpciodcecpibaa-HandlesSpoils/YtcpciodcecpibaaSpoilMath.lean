/- Bytes of a handle that are changed, up to four side by side: plain mathematics, nothing of the program. -/
import Derived.Test.YtcpciodcecpibaaHandMath
namespace Go.Proofs.Ytcpciodcecpibaa
set_option linter.unusedVariables false

def x8 (a b : Int) : Int := ((a.toNat ^^^ b.toNat : Nat) : Int)

/-- The bytes behind so many changes, from a place on. -/
def spl (zs : List Int) (k : Nat) (f : Nat → Int) : Nat → List Int
  | 0 => zs
  | i + 1 => (spl zs k f i).set (k + i) (x8 (zs[k + i]?.getD 0) (f i))

/-- How many are changed. -/
def many (k : Nat) : Nat := min 4 (if 12 ≤ k then 16 - k else 12 - k)

/-- The changed ones. -/
def mids (zs : List Int) (k m : Nat) (f : Nat → Int) : List Int := (List.range m).map fun i => x8 (zs[k + i]?.getD 0) (f i)

theorem spl_length (zs : List Int) (k : Nat) (f : Nat → Int) (i : Nat) : (spl zs k f i).length = zs.length := by
  induction i with
  | zero => rfl
  | succ i ih => rw [spl, List.length_set, ih]

theorem spl_get (zs : List Int) (k : Nat) (f : Nat → Int) (m j : Nat) (hj : j < zs.length) : (spl zs k f m)[j]? = some (if k ≤ j ∧ j < k + m then x8 (zs[j]?.getD 0) (f (j - k)) else zs[j]?.getD 0) := by
  induction m with
  | zero =>
    rw [if_neg (by omega), spl, List.getElem?_eq_getElem hj]
    rfl
  | succ m ih =>
    rw [spl, List.getElem?_set, spl_length]
    by_cases h : k + m = j
    · subst h
      rw [if_pos rfl, if_pos hj, if_pos (by omega), show k + m - k = m from by omega]
    · rw [if_neg h, ih]
      by_cases h1 : k ≤ j ∧ j < k + m
      · rw [if_pos h1, if_pos (by omega)]
      · rw [if_neg h1, if_neg (by omega)]

theorem spl_next (zs : List Int) (k : Nat) (f : Nat → Int) (m : Nat) (hj : k + m < zs.length) : (spl zs k f m)[k + m]?.getD 0 = zs[k + m]?.getD 0 := by
  rw [spl_get zs k f m (k + m) hj, if_neg (by omega)]
  rfl

theorem spl_parts (zs : List Int) (k m : Nat) (f : Nat → Int) (h : k + m ≤ zs.length) : spl zs k f m = zs.take k ++ (mids zs k m f ++ zs.drop (k + m)) := by
  refine List.ext_getElem? fun j => ?_
  by_cases hj : j < zs.length
  · rw [spl_get zs k f m j hj]
    by_cases h1 : j < k
    · rw [if_neg (by omega), List.getElem?_append_left (by simp; omega), List.getElem?_take, if_pos h1, List.getElem?_eq_getElem hj]
      rfl
    · rw [List.getElem?_append_right (by simp; omega)]
      have hl : (zs.take k).length = k := by simp; omega
      rw [hl]
      by_cases h2 : j < k + m
      · rw [if_pos (by omega), List.getElem?_append_left (by simp [mids]; omega)]
        unfold mids
        rw [List.getElem?_map, List.getElem?_range (by omega)]
        simp only [Option.map_some]
        rw [show k + (j - k) = j from by omega]
      · rw [if_neg (by omega), List.getElem?_append_right (by simp [mids]; omega), List.getElem?_drop]
        rw [show k + m + (j - k - (mids zs k m f).length) = j from by simp [mids]; omega, List.getElem?_eq_getElem hj]
        rfl
  · rw [List.getElem?_eq_none (by rw [spl_length]; omega), List.getElem?_eq_none (by simp [mids]; omega)]

theorem cut_parts (zs : List Int) (k m : Nat) : zs = zs.take k ++ ((zs.drop k).take m ++ zs.drop (k + m)) := by
  rw [← List.drop_drop, List.take_append_drop, List.take_append_drop]

theorem x8_lt {a b : Int} (h1 : 0 ≤ a ∧ a ≤ 255) (h2 : 0 ≤ b ∧ b ≤ 255) : 0 ≤ x8 a b ∧ x8 a b ≤ 255 := by
  have : a.toNat ^^^ b.toNat < 2 ^ 8 := Nat.xor_lt_two_pow (by omega) (by omega)
  unfold x8
  omega

theorem x8_zero {a : Int} (h1 : 0 ≤ a) : x8 a 0 = a := by
  unfold x8
  simp
  omega

theorem x8_none {a b : Int} (h1 : 0 ≤ a) (h2 : 0 ≤ b) (h : a = x8 a b) : b = 0 := by
  unfold x8 at h
  have h3 : a.toNat ^^^ b.toNat = a.toNat := by omega
  have h4 : a.toNat ^^^ (a.toNat ^^^ b.toNat) = 0 := by rw [h3, Nat.xor_self]
  rw [← Nat.xor_assoc, Nat.xor_self, Nat.zero_xor] at h4
  omega

theorem byt_spl {zs : List Int} (hb : Byt zs) (k : Nat) (f : Nat → Int) (hf : ∀ i, 0 ≤ f i ∧ f i ≤ 255) (m : Nat) : Byt (spl zs k f m) := by
  intro j
  by_cases hj : j < zs.length
  · rw [spl_get zs k f m j hj, Option.getD_some]
    split
    · exact x8_lt (hb j) (hf _)
    · exact hb j
  · rw [List.getElem?_eq_none (by rw [spl_length]; omega)]
    simp

theorem spl_same {zs : List Int} (hb : Byt zs) (k m : Nat) (f : Nat → Int) (h : ∀ i, i < m → f i = 0) : spl zs k f m = zs := by
  refine List.ext_getElem? fun j => ?_
  by_cases hj : j < zs.length
  · rw [spl_get zs k f m j hj, List.getElem?_eq_getElem hj]
    congr 1
    split
    · rw [h _ (by omega)]
      have h1 := hb j
      rw [List.getElem?_eq_getElem hj] at h1
      exact x8_zero h1.1
    · rfl
  · rw [List.getElem?_eq_none (by rw [spl_length]; omega), List.getElem?_eq_none (by omega)]

/-- A handle's bytes that are changed so are no handle's. -/
theorem spl_bad {n g : Int} (k : Nat) (hk : k < 16) (f : Nat → Int) (hf : ∀ i, 0 ≤ f i ∧ f i ≤ 255) (h : ∃ i, i < many k ∧ f i ≠ 0) : hgok (spl (hB n g) k f (many k)) = false := by
  cases hg : hgok (spl (hB n g) k f (many k)) with
  | false => rfl
  | true =>
    exfalso
    obtain ⟨i, hi, hfi⟩ := h
    obtain ⟨_, _, _, h4⟩ := hg_ok hg
    have hlen := hB_length n g
    have hm : many k ≤ 4 ∧ (k + many k ≤ 12 ∨ 12 ≤ k) ∧ k + many k ≤ 16 := by
      unfold many
      split <;> omega
    have hp := spl_parts (hB n g) k (many k) f (by omega)
    rw [h4] at hp
    have hc := cut_parts (hB n g) k (many k)
    have hl1 : (((hB n g).drop k).take (many k)).length = many k := by simp [hlen]; omega
    have hl2 : (mids (hB n g) k (many k) f).length = many k := by simp [mids]
    have hl3 : ((hB n g).take k).length = k := by simp [hlen]; omega
    have he := hB_part (hl1.trans hl2.symm) (by omega) hc hp (by omega)
    have h5 : (((hB n g).drop k).take (many k))[i]?.getD 0 = (mids (hB n g) k (many k) f)[i]?.getD 0 := by rw [he]
    unfold mids at h5
    rw [List.getElem?_take, if_pos hi, List.getElem?_drop, List.getElem?_map, List.getElem?_range hi] at h5
    simp only [Option.map_some, Option.getD_some] at h5
    exact hfi (x8_none (byt_hB n g _).1 (hf i).1 h5)
end Go.Proofs.Ytcpciodcecpibaa
