/- The bytes of a lesser number come first: plain mathematics. -/
import Derived.Test.YtecbhhfncklefaaDoorBytes
import Derived.Laws.BytesArg
import Derived.Laws.Strings
namespace Go.Proofs.YtecbhhfncklefaaDoor
set_option linter.unusedVariables false

theorem fold_from (ys : List Int) : ∀ a : Int, ys.foldl (fun n x => 256 * n + x) a = a * 256 ^ ys.length + ys.foldl (fun n x => 256 * n + x) 0 := by
  induction ys with
  | nil => intro a; simp
  | cons y ys ih =>
    intro a
    rw [List.foldl_cons, List.foldl_cons, ih (256 * a + y), ih (256 * 0 + y), List.length_cons, Int.pow_succ, Int.add_mul, Int.add_mul, Int.mul_comm 256 a, Int.mul_assoc, Int.mul_comm (256 ^ ys.length) 256]
    omega

theorem be_cons (x : Int) (ys : List Int) : be (x :: ys) = x * 256 ^ ys.length + be ys := by
  unfold be
  rw [List.foldl_cons, fold_from]
  simp

theorem bytesLess_be (xs : List Int) : ∀ ys : List Int, xs.length = ys.length → (∀ z ∈ xs, 0 ≤ z ∧ z ≤ 255) → (∀ z ∈ ys, 0 ≤ z ∧ z ≤ 255) →
    Op.bytesLess (xs.map fun n => UInt8.ofNat n.toNat) (ys.map fun n => UInt8.ofNat n.toNat) = decide (be xs < be ys) := by
  induction xs with
  | nil =>
    intro ys hl _ _
    have : ys = [] := List.length_eq_zero_iff.1 hl.symm
    subst this
    simp [Op.bytesLess]
  | cons x xs ih =>
    intro ys hl hx hy
    cases ys with
    | nil => simp at hl
    | cons y ys =>
      have hl' : xs.length = ys.length := by simpa using hl
      have hx1 := hx x (by simp)
      have hy1 := hy y (by simp)
      have b1 := be_nonneg xs (byt_of_all fun z hz => hx z (by simp [hz]))
      have b2 := be_nonneg ys (byt_of_all fun z hz => hy z (by simp [hz]))
      rw [List.map_cons, List.map_cons, Op.bytesLess, ih ys hl' (fun z hz => hx z (by simp [hz])) (fun z hz => hy z (by simp [hz])), be_cons, be_cons, hl']
      rw [hl'] at b1
      generalize (256 : Int) ^ ys.length = M at *
      have e1 : (UInt8.ofNat x.toNat < UInt8.ofNat y.toNat) ↔ x < y := by
        rw [UInt8.lt_iff_toNat_lt, UInt8.toNat_ofNat', UInt8.toNat_ofNat']
        rw [Nat.mod_eq_of_lt (by omega), Nat.mod_eq_of_lt (by omega)]
        omega
      have e2 : (UInt8.ofNat x.toNat == UInt8.ofNat y.toNat) = decide (x = y) := by
        rw [Bool.eq_iff_iff, beq_iff_eq, decide_eq_true_iff]
        constructor
        · intro h
          have := congrArg UInt8.toNat h
          rw [UInt8.toNat_ofNat', UInt8.toNat_ofNat', Nat.mod_eq_of_lt (by omega), Nat.mod_eq_of_lt (by omega)] at this
          omega
        · intro h; rw [h]
      rw [e2]
      rcases Int.lt_trichotomy x y with h | h | h
      · have : x * M + be xs < y * M + be ys := by
          have : (x + 1) * M ≤ y * M := Int.mul_le_mul_of_nonneg_right (by omega) (by omega)
          rw [Int.add_mul] at this
          omega
        simp [e1.2 h, this]
      · subst h
        simp [e1]
      · have : ¬ (x * M + be xs < y * M + be ys) := by
          have : (y + 1) * M ≤ x * M := Int.mul_le_mul_of_nonneg_right (by omega) (by omega)
          rw [Int.add_mul] at this
          omega
        have h2 : ¬ x < y := by omega
        have h3 : ¬ x = y := by omega
        simp [e1, h2, h3, this]

theorem mem_bytesOf {x z : Int} {k : Nat} (hz : z ∈ bytesOf x k) : 0 ≤ z ∧ z ≤ 255 := by
  obtain ⟨i, _, rfl⟩ := List.mem_map.1 hz
  unfold byteAt
  omega

theorem less_bytesOf (k : Nat) (n m : Int) (hn0 : 0 ≤ n) (hn1 : n < 256 ^ k) (hm0 : 0 ≤ m) (hm1 : m < 256 ^ k) :
    Op.bytesLess (strOfNums (bytesOf n k)).toList (strOfNums (bytesOf m k)).toList = decide (n < m) := by
  rw [ByteArray.toList_eq, ByteArray.toList_eq, strOfNums_data, strOfNums_data, bytesLess_be _ _ (by rw [bytesOf_length, bytesOf_length]) (fun z hz => mem_bytesOf hz) (fun z hz => mem_bytesOf hz),
    be_bytesOf k n hn0 hn1, be_bytesOf k m hm0 hm1]
end Go.Proofs.YtecbhhfncklefaaDoor
