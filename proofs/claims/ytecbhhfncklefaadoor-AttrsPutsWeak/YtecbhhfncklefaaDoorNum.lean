/- Numbers out of bytes, the highest first: plain mathematics; nothing of the program. -/
import Derived.Laws.BitsAllLaws
import Derived.Laws.Bits64
namespace Go.Proofs.YtecbhhfncklefaaDoor
set_option linter.unusedVariables false

/-- The number that bytes are, the highest first. -/
def be (zs : List Int) : Int := zs.foldl (fun n x => 256 * n + x) 0

theorem be_snoc (zs : List Int) (x : Int) : be (zs ++ [x]) = 256 * be zs + x := by simp [be]

theorem be_take (zs : List Int) (k : Nat) (h : k < zs.length) : be (zs.take (k + 1)) = 256 * be (zs.take k) + zs[k]?.getD 0 := by
  rw [List.take_succ_eq_append_getElem h, be_snoc]
  simp [h]

theorem be_bound (zs : List Int) (hb : ∀ i : Nat, 0 ≤ zs[i]?.getD 0 ∧ zs[i]?.getD 0 ≤ 255) (k : Nat) (h : k ≤ zs.length) : 0 ≤ be (zs.take k) ∧ be (zs.take k) < 256 ^ k := by
  induction k with
  | zero => simp [be]
  | succ k ih =>
    have := ih (by omega)
    rw [be_take zs k (by omega)]
    have h2 := hb k
    have e : (256 : Int) ^ (k + 1) = 256 * 256 ^ k := by rw [Int.pow_succ]; omega
    rw [e]
    omega

theorem pow_lt4 {k : Nat} (h : k < 4) : (256 : Int) ^ k ≤ 16777216 := by
  match k, h with
  | 0, _ => decide
  | 1, _ => decide
  | 2, _ => decide
  | 3, _ => decide

theorem pow_lt8 {k : Nat} (h : k < 8) : (256 : Int) ^ k ≤ 72057594037927936 := by
  match k, h with
  | 0, _ => decide
  | 1, _ => decide
  | 2, _ => decide
  | 3, _ => decide
  | 4, _ => decide
  | 5, _ => decide
  | 6, _ => decide
  | 7, _ => decide

theorem shl_or_u32 (n x : Int) (h0 : 0 ≤ n) (h1 : n < 16777216) (h2 : 0 ≤ x) (h3 : x ≤ 255) : bits .or .u32 (n * 256 % 4294967296) x = 256 * n + x := by
  rw [Int.emod_eq_of_lt (by omega) (by omega)]
  obtain ⟨a, rfl⟩ := Int.eq_ofNat_of_zero_le h0
  obtain ⟨b, rfl⟩ := Int.eq_ofNat_of_zero_le h2
  have e : ((a : Int) * 256) = ((a * 256 : Nat) : Int) := by simp
  rw [e, u32_or_nat (a * 256) b (by omega) (by omega), nat_join 8 (a * 256) b (by simp) (by omega)]
  omega

theorem shl_or_u64 (n x : Int) (h0 : 0 ≤ n) (h1 : n < 72057594037927936) (h2 : 0 ≤ x) (h3 : x ≤ 255) : bits .or .u64 (n * 256 % 18446744073709551616) x = 256 * n + x := by
  rw [Int.emod_eq_of_lt (by omega) (by omega)]
  obtain ⟨a, rfl⟩ := Int.eq_ofNat_of_zero_le h0
  obtain ⟨b, rfl⟩ := Int.eq_ofNat_of_zero_le h2
  have e : ((a : Int) * 256) = ((a * 256 : Nat) : Int) := by simp
  rw [e, u64_or_nat (a * 256) b (by omega) (by omega), nat_join 8 (a * 256) b (by simp) (by omega)]
  omega

theorem step4 (zs : List Int) (hb : ∀ i : Nat, 0 ≤ zs[i]?.getD 0 ∧ zs[i]?.getD 0 ≤ 255) (k : Nat) (hk : k < 4) (h : k < zs.length) :
    bits .or .u32 (be (zs.take k) * 256 % 4294967296) (zs[k]?.getD 0) = be (zs.take (k + 1)) := by
  have h1 := be_bound zs hb k (by omega)
  have h2 := pow_lt4 hk
  have h3 := hb k
  rw [be_take zs k h, shl_or_u32 _ _ h1.1 (by omega) h3.1 h3.2]

theorem step8 (zs : List Int) (hb : ∀ i : Nat, 0 ≤ zs[i]?.getD 0 ∧ zs[i]?.getD 0 ≤ 255) (k : Nat) (hk : k < 8) (h : k < zs.length) :
    bits .or .u64 (IntKind.u64.wrap (be (zs.take k) * 256)) (zs[k]?.getD 0) = be (zs.take (k + 1)) := by
  rw [IntKind.wrap_u64]
  have h1 := be_bound zs hb k (by omega)
  have h2 := pow_lt8 hk
  have h3 := hb k
  rw [be_take zs k h, shl_or_u64 _ _ h1.1 (by omega) h3.1 h3.2]

/-- What four bytes ahead say, and the error. -/
def getN (zs : List Int) : Int := if zs.length < 4 then 0 else be (zs.take 4)
def getE (zs : List Int) : Int := if zs.length < 4 then 4 else 0
/-- What eight bytes ahead say, and the error. -/
def getM (zs : List Int) : Int := if zs.length < 8 then 0 else be (zs.take 8)
def getF (zs : List Int) : Int := if zs.length < 8 then 4 else 0
/-- Whether yes or no is ahead, and the error. -/
def getY (zs : List Int) : Bool := !decide (zs.length < 4) && be (zs.take 4) == 1
def getG (zs : List Int) : Int := if zs.length < 4 then 4 else if 1 < be (zs.take 4) then 5 else 0
end Go.Proofs.YtecbhhfncklefaaDoor
