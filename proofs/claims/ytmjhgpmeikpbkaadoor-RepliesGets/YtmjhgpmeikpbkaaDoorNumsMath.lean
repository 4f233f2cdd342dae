/- Numbers one behind the other in bytes, four bytes each: plain mathematics; nothing of the program. -/
import Derived.Test.YtmjhgpmeikpbkaaDoorBytes
namespace Go.Proofs.YtmjhgpmeikpbkaaDoor
set_option linter.unusedVariables false

/-- The bytes of these numbers. -/
def numsB (gs : List Int) : List Int := gs.flatMap fun g => bytesOf g 4

/-- So many numbers that bytes begin with. -/
def numsZ : Nat → List Int → List Int
  | 0, _ => []
  | k + 1, zs => be (zs.take 4) :: numsZ k (zs.drop 4)

theorem numsB_cons (g : Int) (gs : List Int) : numsB (g :: gs) = bytesOf g 4 ++ numsB gs := rfl
theorem numsB_append (gs hs : List Int) : numsB (gs ++ hs) = numsB gs ++ numsB hs := by simp [numsB]
theorem numsB_len (gs : List Int) : (numsB gs).length = 4 * gs.length := by
  induction gs with
  | nil => rfl
  | cons g gs ih => rw [numsB_cons, List.length_append, bytesOf_length, ih, List.length_cons]; omega
theorem byt_numsB (gs : List Int) : Byt (numsB gs) := by
  induction gs with
  | nil => intro i; simp [numsB]
  | cons g gs ih => rw [numsB_cons]; exact (byt_bytesOf g 4).append ih

theorem numsZ_len (k : Nat) : ∀ zs : List Int, (numsZ k zs).length = k := by
  induction k with
  | zero => intro zs; rfl
  | succ k ih => intro zs; simp [numsZ, ih]

theorem numsZ_snoc (k : Nat) : ∀ zs : List Int, numsZ (k + 1) zs = numsZ k zs ++ [be ((zs.drop (4 * k)).take 4)] := by
  induction k with
  | zero => intro zs; simp [numsZ]
  | succ k ih =>
    intro zs
    rw [numsZ, ih, numsZ, List.cons_append, List.drop_drop, show 4 + 4 * k = 4 * (k + 1) from by omega]

theorem numsZ_get (k i : Nat) (zs : List Int) (h : i < k) : (numsZ k zs)[i]'(by rw [numsZ_len]; exact h) = be ((zs.drop (4 * i)).take 4) := by
  induction k generalizing i zs with
  | zero => omega
  | succ k ih =>
    cases i with
    | zero => simp [numsZ]
    | succ i => simp only [numsZ, List.getElem_cons_succ]; rw [ih i (zs.drop 4) (by omega), List.drop_drop, show 4 + 4 * i = 4 * (i + 1) from by omega]

/-- Numbers that are put are got. -/
theorem numsZ_put (gs ms : List Int) (h : ∀ g ∈ gs, 0 ≤ g ∧ g ≤ 4294967295) : numsZ gs.length (numsB gs ++ ms) = gs := by
  induction gs with
  | nil => rfl
  | cons g gs ih =>
    have hg := h g (by simp)
    rw [List.length_cons, numsZ, numsB_cons, List.append_assoc, List.take_append_of_le_length (by rw [bytesOf_length]; omega), List.drop_append_of_le_length (by rw [bytesOf_length]; omega), List.take_of_length_le (by rw [bytesOf_length]; omega), List.drop_eq_nil_of_le (by rw [bytesOf_length]; omega), List.nil_append, be_bytesOf 4 g hg.1 (by omega), ih (fun g' hg' => h g' (by simp [hg']))]

/-- Numbers that are got are put as the bytes that they were. -/
theorem numsB_got (k : Nat) : ∀ zs : List Int, Byt zs → 4 * k ≤ zs.length → numsB (numsZ k zs) = zs.take (4 * k) := by
  induction k with
  | zero => intro zs _ _; simp [numsZ, numsB]
  | succ k ih =>
    intro zs hb hl
    have hd : Byt (zs.drop 4) := fun i => by rw [List.getElem?_drop]; exact hb (4 + i)
    rw [numsZ, numsB_cons, bytesOf_be_take zs hb 4 (by omega), ih (zs.drop 4) hd (by rw [List.length_drop]; omega), show 4 * (k + 1) = 4 + 4 * k from by omega, List.take_add]

theorem numsZ_range (k : Nat) (zs : List Int) (hb : Byt zs) (hl : 4 * k ≤ zs.length) : ∀ g ∈ numsZ k zs, 0 ≤ g ∧ g ≤ 4294967295 := by
  intro g hg
  obtain ⟨i, hi, rfl⟩ := List.getElem_of_mem hg
  rw [numsZ_len] at hi
  rw [numsZ_get k i zs hi]
  have hd : Byt ((zs.drop (4 * i)).take 4) := Byt.take (fun j => by rw [List.getElem?_drop]; exact hb (4 * i + j)) 4
  have h := be_nonneg _ hd
  have hlen : ((zs.drop (4 * i)).take 4).length = 4 := by rw [List.length_take, List.length_drop]; omega
  rw [hlen] at h
  have e : (256 : Int) ^ 4 = 4294967296 := by decide
  rw [e] at h
  omega
end Go.Proofs.YtmjhgpmeikpbkaaDoor
