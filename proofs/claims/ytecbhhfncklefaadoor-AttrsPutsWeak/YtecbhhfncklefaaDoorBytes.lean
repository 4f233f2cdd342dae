/- The bytes of a number and the number of bytes: plain mathematics. -/
import Derived.Test.YtecbhhfncklefaaDoorNum
import Derived.Test.YtecbhhfncklefaaDoorBase
namespace Go.Proofs.YtecbhhfncklefaaDoor
set_option linter.unusedVariables false

/-- The byte that stands so many places ahead of the last. -/
def byteAt (x : Int) (k : Nat) : Int := x / 2 ^ (8 * k) % 256

/-- The lowest bytes of a number, so many, the highest first. -/
def bytesOf (x : Int) (size : Nat) : List Int := (List.range size).map fun i => byteAt x (size - i - 1)

theorem bytesOf_length (x : Int) (size : Nat) : (bytesOf x size).length = size := by simp [bytesOf]

theorem bytesOf_take (x : Int) (size k : Nat) (h : k < size) : (bytesOf x size).take (k + 1) = (bytesOf x size).take k ++ [x / 2 ^ (8 * (size - k - 1)) % 256] := by
  rw [List.take_succ_eq_append_getElem (by rw [bytesOf_length]; exact h)]
  simp [bytesOf, byteAt]

theorem byteAt_succ (x : Int) (k : Nat) : byteAt x (k + 1) = byteAt (x / 256) k := by
  unfold byteAt
  rw [show (2 : Int) ^ (8 * (k + 1)) = 256 * 2 ^ (8 * k) from by rw [show 8 * (k + 1) = 8 * k + 8 from by omega, Int.pow_add]; omega]
  rw [Int.ediv_ediv_of_nonneg (by omega)]

theorem byteAt_zero (x : Int) : byteAt x 0 = x % 256 := by simp [byteAt]

theorem bytesOf_succ (x : Int) (k : Nat) : bytesOf x (k + 1) = bytesOf (x / 256) k ++ [x % 256] := by
  unfold bytesOf
  rw [List.range_succ, List.map_append]
  congr 1
  · refine List.map_congr_left fun i hi => ?_
    have : i < k := by simpa using hi
    rw [show k + 1 - i - 1 = (k - i - 1) + 1 from by omega, byteAt_succ]
  · simp [byteAt_zero]

theorem be_bytesOf (k : Nat) : ∀ x : Int, 0 ≤ x → x < 256 ^ k → be (bytesOf x k) = x := by
  induction k with
  | zero => intro x h0 h1; simp at h1; simp [bytesOf, be]; omega
  | succ k ih =>
    intro x h0 h1
    rw [bytesOf_succ, be_snoc, ih (x / 256) (by omega) (by rw [Int.pow_succ] at h1; omega)]
    omega

theorem byt_bytesOf (x : Int) (k : Nat) : Byt (bytesOf x k) := by
  refine byt_of_all fun z hz => ?_
  obtain ⟨i, _, rfl⟩ := List.mem_map.1 hz
  unfold byteAt
  omega

theorem be_nonneg (zs : List Int) (hb : Byt zs) : 0 ≤ be zs ∧ be zs < 256 ^ zs.length := by
  have := be_bound zs hb zs.length (Nat.le_refl _)
  rwa [List.take_length] at this

theorem bytesOf_be (zs : List Int) (hb : Byt zs) : bytesOf (be zs) zs.length = zs := by
  have key : ∀ k : Nat, k ≤ zs.length → bytesOf (be (zs.take k)) k = zs.take k := by
    intro k
    induction k with
    | zero => intro _; simp [bytesOf]
    | succ k ih =>
      intro hk
      have h1 := be_take zs k (by omega)
      have h2 := hb k
      have e1 : be (zs.take (k + 1)) / 256 = be (zs.take k) := by rw [h1]; omega
      have e2 : be (zs.take (k + 1)) % 256 = zs[k]?.getD 0 := by rw [h1]; omega
      rw [bytesOf_succ, e1, e2, ih (by omega), List.take_succ_eq_append_getElem (by omega), List.getElem?_eq_getElem (by omega)]
      rfl
  have := key zs.length (Nat.le_refl _)
  rwa [List.take_length] at this

theorem bytesOf_be_take (zs : List Int) (hb : Byt zs) (k : Nat) (hk : k ≤ zs.length) : bytesOf (be (zs.take k)) k = zs.take k := by
  have h := bytesOf_be (zs.take k) (hb.take k)
  rwa [List.length_take, Nat.min_eq_left hk] at h

theorem Byt.append {xs ys : List Int} (h : Byt xs) (k : Byt ys) : Byt (xs ++ ys) := by
  intro i
  rw [List.getElem?_append]
  split
  · exact h i
  · exact k _

theorem bytesOf_add (x : Int) (a b : Nat) : bytesOf x (a + b) = bytesOf (x / 256 ^ b) a ++ bytesOf x b := by
  induction b generalizing x with
  | zero => simp [bytesOf]
  | succ b ih =>
    rw [show a + (b + 1) = (a + b) + 1 from by omega, bytesOf_succ, ih, bytesOf_succ x b, List.append_assoc]
    rw [Int.ediv_ediv_of_nonneg (by omega), show (256 : Int) * 256 ^ b = 256 ^ (b + 1) from by rw [Int.pow_succ]; omega]

theorem mod_div (x M : Int) (hM : 0 < M) : x % (256 * M) / 256 = x / 256 % M := by
  have h1 : x / 256 % M + M * (x / 256 / M) = x / 256 := Int.emod_add_mul_ediv _ _
  have h2 : x % 256 + 256 * (x / 256) = x := Int.emod_add_mul_ediv _ _
  have h3 := Int.emod_nonneg (x / 256) (show M ≠ 0 by omega)
  have h4 := Int.emod_lt_of_pos (x / 256) hM
  have e : x = (x % 256 + 256 * (x / 256 % M)) + (256 * M) * (x / 256 / M) := by
    rw [Int.mul_assoc]
    omega
  generalize x / 256 % M = q at *
  have e2 : x % (256 * M) = x % 256 + 256 * q := by
    rw [show x % (256 * M) = ((x % 256 + 256 * q) + (256 * M) * (x / 256 / M)) % (256 * M) from by rw [← e]]
    rw [Int.add_mul_emod_self_left, Int.emod_eq_of_lt (by omega) (by omega)]
  rw [e2]
  omega

theorem bytesOf_mod (x : Int) (b : Nat) : bytesOf (x % 256 ^ b) b = bytesOf x b := by
  induction b generalizing x with
  | zero => simp [bytesOf]
  | succ b ih =>
    rw [bytesOf_succ, bytesOf_succ]
    have e : (256 : Int) ^ (b + 1) = 256 * 256 ^ b := by rw [Int.pow_succ]; omega
    have h1 : x % 256 ^ (b + 1) / 256 = x / 256 % 256 ^ b := by
      rw [e]
      exact mod_div x _ (Int.pow_pos (by omega))
    have h2 : x % 256 ^ (b + 1) % 256 = x % 256 := Int.emod_emod_of_dvd _ (by rw [e]; exact Int.dvd_mul_right _ _)
    rw [h1, h2, ih]
end Go.Proofs.YtecbhhfncklefaaDoor
