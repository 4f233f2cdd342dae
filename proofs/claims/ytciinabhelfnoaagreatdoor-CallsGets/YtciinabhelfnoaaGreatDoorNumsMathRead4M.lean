/- Numbers one behind the other in bytes, four bytes each: plain mathematics; nothing of the program. -/
import Derived.Test.YtciinabhelfnoaaGreatDoorNumBytesM
import Derived.Test.YtciinabhelfnoaaGreatDoorRows
import Derived.Test.YtciinabhelfnoaaGreatDoorBase
import Derived.Outline
namespace Go.Proofs.YtciinabhelfnoaaGreatDoor
set_option linter.unusedVariables false

/-- The bytes of these numbers. -/
def numsB (gs : List Int) : List Int := gs.flatMap fun g => bytesOf g 4

/-- So many numbers that bytes begin with. -/
def numsZ : Nat → List Int → List Int
  | 0, _ => []
  | k + 1, zs => be (zs.take 4) :: numsZ k (zs.drop 4)

theorem numsB_cons (g : Int) (gs : List Int) : numsB (g :: gs) = bytesOf g 4 ++ numsB gs := rfl
theorem numsB_append (gs hs : List Int) : numsB (gs ++ hs) = numsB gs ++ numsB hs := by simp [numsB]
theorem numsB_len (gs : List Int) : (numsB gs).length = 4 * gs.length := by
  induction gs with
  | nil => rfl
  | cons g gs ih => rw [numsB_cons, List.length_append, bytesOf_length, ih, List.length_cons]; omega
theorem byt_numsB (gs : List Int) : Byt (numsB gs) := by
  induction gs with
  | nil => intro i; simp [numsB]
  | cons g gs ih => rw [numsB_cons]; exact (byt_bytesOf g 4).append ih

theorem numsZ_len (k : Nat) : ∀ zs : List Int, (numsZ k zs).length = k := by
  induction k with
  | zero => intro zs; rfl
  | succ k ih => intro zs; simp [numsZ, ih]

theorem numsZ_snoc (k : Nat) : ∀ zs : List Int, numsZ (k + 1) zs = numsZ k zs ++ [be ((zs.drop (4 * k)).take 4)] := by
  induction k with
  | zero => intro zs; simp [numsZ]
  | succ k ih =>
    intro zs
    rw [numsZ, ih, numsZ, List.cons_append, List.drop_drop, show 4 + 4 * k = 4 * (k + 1) from by omega]

theorem numsZ_get (k i : Nat) (zs : List Int) (h : i < k) : (numsZ k zs)[i]'(by rw [numsZ_len]; exact h) = be ((zs.drop (4 * i)).take 4) := by
  induction k generalizing i zs with
  | zero => omega
  | succ k ih =>
    cases i with
    | zero => simp [numsZ]
    | succ i => simp only [numsZ, List.getElem_cons_succ]; rw [ih i (zs.drop 4) (by omega), List.drop_drop, show 4 + 4 * i = 4 * (i + 1) from by omega]

/-- Numbers that are put are got. -/
theorem numsZ_put (gs ms : List Int) (h : ∀ g ∈ gs, 0 ≤ g ∧ g ≤ 4294967295) : numsZ gs.length (numsB gs ++ ms) = gs := by
  induction gs with
  | nil => rfl
  | cons g gs ih =>
    have hg := h g (by simp)
    rw [List.length_cons, numsZ, numsB_cons, List.append_assoc, List.take_append_of_le_length (by rw [bytesOf_length]; omega), List.drop_append_of_le_length (by rw [bytesOf_length]; omega), List.take_of_length_le (by rw [bytesOf_length]; omega), List.drop_eq_nil_of_le (by rw [bytesOf_length]; omega), List.nil_append, be_bytesOf 4 g hg.1 (by omega), ih (fun g' hg' => h g' (by simp [hg']))]

/-- Numbers that are got are put as the bytes that they were. -/
theorem numsB_got (k : Nat) : ∀ zs : List Int, Byt zs → 4 * k ≤ zs.length → numsB (numsZ k zs) = zs.take (4 * k) := by
  induction k with
  | zero => intro zs _ _; simp [numsZ, numsB]
  | succ k ih =>
    intro zs hb hl
    have hd : Byt (zs.drop 4) := fun i => by rw [List.getElem?_drop]; exact hb (4 + i)
    rw [numsZ, numsB_cons, bytesOf_be_take zs hb 4 (by omega), ih (zs.drop 4) hd (by rw [List.length_drop]; omega), show 4 * (k + 1) = 4 + 4 * k from by omega, List.take_add]

theorem numsZ_range (k : Nat) (zs : List Int) (hb : Byt zs) (hl : 4 * k ≤ zs.length) : ∀ g ∈ numsZ k zs, 0 ≤ g ∧ g ≤ 4294967295 := by
  intro g hg
  obtain ⟨i, hi, rfl⟩ := List.getElem_of_mem hg
  rw [numsZ_len] at hi
  rw [numsZ_get k i zs hi]
  have hd : Byt ((zs.drop (4 * i)).take 4) := Byt.take (fun j => by rw [List.getElem?_drop]; exact hb (4 * i + j)) 4
  have h := be_nonneg _ hd
  have hlen : ((zs.drop (4 * i)).take 4).length = 4 := by rw [List.length_take, List.length_drop]; omega
  rw [hlen] at h
  have e : (256 : Int) ^ 4 = 4294967296 := by decide
  rw [e] at h
  omega
end Go.Proofs.YtciinabhelfnoaaGreatDoor

/- 'read' of four bytes, and 'Get': the number that the bytes begin with, or ErrShort; nothing turns. -/
namespace Go.Proofs.YtciinabhelfnoaaGreatDoor
set_option linter.unusedVariables false
open Go.RowKit

set_option maxHeartbeats 400000 in
theorem read4_short (a : Option Addr) (len cap : Nat) (w : World) (hl : len < 4) :
    Calls Tryz.prog 86 #[.slice a len cap, .int .i64 4] w fun e w' => e = .returned (.tuple #[.int .u32 0, .int .i64 4]) ∧ w' = w := by
  go_enter Tryz.func86, Tryz.ntmps86
  go_wp2
  go_ret2
  exact ⟨rfl, rfl⟩

set_option maxHeartbeats 400000 in
theorem read4 (b off len cap : Nat) (zs : List Int) (w : World) (hl : 4 ≤ len) (hlc : len ≤ cap) (hm : cap ≤ 9223372036854775807) (hz : zs.length = len) (hb : Byt zs)
    (hc : ∀ i, i < zs.length → w.cell? ⟨b, off + i, none⟩ = some (.int .u8 (zs[i]?.getD 0))) :
    Calls Tryz.prog 86 #[.slice (some ⟨b, off, none⟩) len cap, .int .i64 4] w fun e w' => e = .returned (.tuple #[.int .u32 (be (zs.take 4)), .int .i64 0]) ∧ w' = w := by
  go_enter Tryz.func86, Tryz.ntmps86
  go_wp2
  go_loop [6, 17] (fun n i => ∃ k : Nat, k ≤ 4 ∧ i = .int .i64 k ∧ n = .int .u32 (be (zs.take k))) (fun _ i => 4 - (intOf i).toNat)
  case atStart => exact ⟨0, by omega, rfl, rfl⟩
  case round =>
    obtain ⟨k, hk, rfl, rfl⟩ := hrel
    by_cases hlt : k < 4
    · have hcx := hc k (by omega)
      have hby := hb k
      go_wp2
      go_round
      case rel => exact ⟨k + 1, by omega, by go_num, by rw [step4 zs hb k hlt (by omega)]⟩
      case measure => simp [intOf]; omega
    · obtain rfl : k = 4 := by omega
      go_wp2
      go_ret2
      exact ⟨rfl, rfl⟩

set_option maxHeartbeats 400000 in
theorem get_any (a : Option Addr) (len cap : Nat) (zs : List Int) (w : World) (hlc : len ≤ cap) (hm : cap ≤ 9223372036854775807) (hz : zs.length = len) (hb : Byt zs) (hs : Seg w a zs) :
    Calls Tryz.prog 76 #[.slice a len cap] w fun e w' => e = .returned (.tuple #[.int .u32 (getN zs), .int .i64 (getE zs)]) ∧ w' = w := by
  by_cases hl : len < 4
  · have e1 : getN zs = 0 := by simp [getN, hz, hl]
    have e2 : getE zs = 4 := by simp [getE, hz, hl]
    rw [e1, e2]
    clear e1 e2
    go_enter Tryz.func76, Tryz.ntmps76
    go_wp2_with (go_at_call 86; refine (read4_short _ _ _ _ hl).mono ?_; rintro e w' ⟨rfl, rfl⟩)
    go_ret2
    exact ⟨rfl, rfl⟩
  · rcases hs with rfl | ⟨b, off, rfl, hc⟩
    · simp at hz; omega
    · have e1 : getN zs = be (zs.take 4) := by simp [getN, hz, hl]
      have e2 : getE zs = 0 := by simp [getE, hz, hl]
      rw [e1, e2]
      clear e1 e2
      go_enter Tryz.func76, Tryz.ntmps76
      go_wp2_with (go_at_call 86; refine (read4 b off len cap zs _ (by omega) hlc hm hz hb hc).mono ?_; rintro e w' ⟨rfl, rfl⟩)
      go_ret2
      exact ⟨rfl, rfl⟩
end Go.Proofs.YtciinabhelfnoaaGreatDoor
