/- Bytes with their number and their padding: plain mathematics. -/
import Derived.Test.YtciinabhelfnoaaGreatDoorPadNoughtDefFixDefCutMathOpqDefNoughtsM
import Derived.Test.YtciinabhelfnoaaGreatDoorNumBytesM
import Derived.Test.YtciinabhelfnoaaGreatDoorTextsPiecesM
namespace Go.Proofs.YtciinabhelfnoaaGreatDoor
set_option linter.unusedVariables false

/-- The bytes with their padding. -/
def padded (zs : List Int) : List Int := zs ++ List.replicate (padN zs.length) 0

theorem padded_length (zs : List Int) : (padded zs).length = zs.length + padN zs.length := by simp [padded]

/-- Bytes with their number ahead and their padding behind. -/
def opBytes (zs : List Int) : List Int := bytesOf (zs.length : Int) 4 ++ padded zs

theorem opBytes_length (zs : List Int) : (opBytes zs).length = 4 + (zs.length + padN zs.length) := by rw [opBytes, List.length_append, bytesOf_length, padded_length]
end Go.Proofs.YtciinabhelfnoaaGreatDoor

/- What is put is got, what is got is put: plain mathematics of bytes with their padding. -/
namespace Go.Proofs.YtciinabhelfnoaaGreatDoor
set_option linter.unusedVariables false
open Go.RowKit

theorem told_cons (n : Nat) (r : List Int) (hn : n ≤ 4294967295) : toldN (bytesOf (n : Int) 4 ++ r) = n := by
  unfold toldN
  rw [List.take_left' (bytesOf_length _ 4), be_bytesOf 4 n (by omega) (by omega)]
  omega

theorem nought_rep (k : Nat) : allNought (List.replicate k 0) = true := by
  unfold allNought
  rw [List.all_eq_true]
  intro x hx
  rw [List.mem_replicate] at hx
  simp [hx.2]

theorem fix_put (zs ms : List Int) : fixE (padded zs ++ ms) zs.length = 0 ∧ cutZ (padded zs ++ ms) zs.length = zs := by
  have h : fixE (padded zs ++ ms) zs.length = 0 := by
    rw [fixE_form (by rw [List.length_append, padded_length]; omega)]
    have e : (padded zs ++ ms).drop zs.length = List.replicate (padN zs.length) 0 ++ ms := by
      rw [padded, List.append_assoc, List.drop_left' rfl]
    rw [e, List.take_left' (by simp), nought_rep]
    rfl
  refine ⟨h, ?_⟩
  rw [cutZ, if_pos h, padded, List.append_assoc, List.take_left' rfl]

theorem fix_short (zs : List Int) (k : Nat) (hk : k < (padded zs).length) : fixE ((padded zs).take k) zs.length = 4 := by
  rw [padded_length] at hk
  unfold fixE
  rw [if_pos (by rw [List.length_take]; omega)]

theorem op_put (zs ms : List Int) (h : zs.length ≤ 1048576) : opE (opBytes zs ++ ms) zs.length = 0 ∧ opZ (opBytes zs ++ ms) zs.length = zs ∧ opL (opBytes zs ++ ms) zs.length = 4 + (zs.length + padN zs.length) := by
  have ht : toldN (opBytes zs ++ ms) = zs.length := by rw [opBytes, List.append_assoc]; exact told_cons _ _ (by omega)
  have hd : (opBytes zs ++ ms).drop 4 = padded zs ++ ms := by rw [opBytes, List.append_assoc, List.drop_left' (bytesOf_length _ 4)]
  have he : opE (opBytes zs ++ ms) zs.length = 0 := by
    rw [opE, if_neg (by rw [List.length_append, opBytes_length]; omega), ht, if_neg (by omega), hd]
    exact (fix_put zs ms).1
  refine ⟨he, ?_, ?_⟩
  · rw [opZ, if_pos he, ht, hd, padded, List.append_assoc, List.take_left' rfl]
  · rw [opL, if_pos he, ht]; omega

theorem op_more (zs ms : List Int) (most : Int) (h : zs.length ≤ 1048576) (hm : (zs.length : Int) ≤ most) : opE (opBytes zs ++ ms) most = 0 ∧ opZ (opBytes zs ++ ms) most = zs ∧ opL (opBytes zs ++ ms) most = 4 + (zs.length + padN zs.length) := by
  have ht : toldN (opBytes zs ++ ms) = zs.length := by rw [opBytes, List.append_assoc]; exact told_cons _ _ (by omega)
  have hd : (opBytes zs ++ ms).drop 4 = padded zs ++ ms := by rw [opBytes, List.append_assoc, List.drop_left' (bytesOf_length _ 4)]
  have he : opE (opBytes zs ++ ms) most = 0 := by
    rw [opE, if_neg (by rw [List.length_append, opBytes_length]; omega), ht, if_neg (by omega), hd]
    exact (fix_put zs ms).1
  refine ⟨he, ?_, ?_⟩
  · rw [opZ, if_pos he, ht, hd, padded, List.append_assoc, List.take_left' rfl]
  · rw [opL, if_pos he, ht]; omega

theorem op_limit (zs : List Int) (h : zs.length ≤ 1048576) (most : Int) (hm : most < zs.length) : opE (opBytes zs) most = 3 := by
  have ht : toldN (opBytes zs) = zs.length := told_cons _ _ (by omega)
  rw [opE, if_neg (by rw [opBytes_length]; omega), ht, if_pos hm]

theorem op_short (zs : List Int) (k : Nat) (h : zs.length ≤ 1048576) (hk : k < (opBytes zs).length) : opE ((opBytes zs).take k) zs.length = 4 := by
  rw [opBytes_length] at hk
  by_cases h4 : k < 4
  · rw [opE, if_pos (by rw [List.length_take]; omega)]
  · have e : (opBytes zs).take k = bytesOf (zs.length : Int) 4 ++ (padded zs).take (k - 4) := by
      rw [opBytes, List.take_append, bytesOf_length, List.take_of_length_le (by rw [bytesOf_length]; omega)]
    have ht : toldN ((opBytes zs).take k) = zs.length := by rw [e]; exact told_cons _ _ (by omega)
    rw [opE, if_neg (by rw [List.length_take, opBytes_length]; omega), ht, if_neg (by omega), e, List.drop_left' (bytesOf_length _ 4)]
    exact fix_short zs (k - 4) (by rw [padded_length]; omega)

theorem byt_padded {zs : List Int} (hb : Byt zs) : Byt (padded zs) := by
  refine hb.append (byt_of_all fun z hz => ?_)
  rw [List.mem_replicate] at hz
  omega

theorem byt_op {zs : List Int} (hb : Byt zs) : Byt (opBytes zs) := (byt_bytesOf _ 4).append (byt_padded hb)

theorem fx_nat (zs : List Int) (n : Nat) (h : n ≤ 65536) : fxE zs n = fixE zs n ∧ fxZ zs n = cutZ zs n ∧ fxL zs n = cutL zs n := by
  have h1 : ¬ ((n : Int) < 0 ∨ 65536 < (n : Int)) := by omega
  unfold fxE fxZ fxL
  rw [if_neg h1, if_neg h1, if_neg h1, Int.toNat_natCast]
  exact ⟨rfl, rfl, rfl⟩

theorem fx_put (zs ms : List Int) (h : zs.length ≤ 65536) : fxE (padded zs ++ ms) zs.length = 0 ∧ fxZ (padded zs ++ ms) zs.length = zs ∧ fxL (padded zs ++ ms) zs.length = zs.length + padN zs.length := by
  obtain ⟨h1, h2, h3⟩ := fx_nat (padded zs ++ ms) zs.length h
  obtain ⟨g1, g2⟩ := fix_put zs ms
  rw [h1, h2, h3]
  exact ⟨g1, g2, by rw [cutL, if_pos g1]⟩

theorem fx_short (zs : List Int) (k : Nat) (h : zs.length ≤ 65536) (hk : k < (padded zs).length) : fxE ((padded zs).take k) zs.length = 4 := by
  rw [(fx_nat _ _ h).1]
  exact fix_short zs k hk
end Go.Proofs.YtciinabhelfnoaaGreatDoor

/- What is got is put as it was: the mathematics; no function is named. -/
namespace Go.Proofs.YtciinabhelfnoaaGreatDoor
set_option linter.unusedVariables false
open Go.RowKit

theorem nought_all {zs : List Int} (h : allNought zs = true) : zs = List.replicate zs.length 0 := by
  unfold allNought at h
  rw [List.all_eq_true] at h
  refine List.eq_replicate_iff.2 ⟨rfl, fun z hz => ?_⟩
  simpa using h z hz

theorem cut_again {zs : List Int} {n : Nat} (h : fixE zs n = 0) : padded (zs.take n) = zs.take (n + padN n) ∧ (zs.take n).length = n := by
  have hl := fixE_len h
  rw [fixE_form hl] at h
  have ha : allNought ((zs.drop n).take (padN n)) = true := by
    cases hx : allNought ((zs.drop n).take (padN n)) with
    | true => rfl
    | false => rw [hx] at h; cases h
  have he := nought_all ha
  rw [List.length_take, List.length_drop, Nat.min_eq_left (by omega)] at he
  have hz : (zs.take n).length = n := by rw [List.length_take]; omega
  refine ⟨?_, hz⟩
  rw [padded, hz, List.take_add, ← he]

theorem op_again {zs : List Int} {most : Int} (hb : Byt zs) (h : opE zs most = 0) : opBytes (opZ zs most) = zs.take (opL zs most) ∧ opL zs most ≤ zs.length ∧ ((opZ zs most).length : Int) ≤ most ∧ opL zs most = 4 + ((opZ zs most).length + padN (opZ zs most).length) := by
  have h' := h
  unfold opE at h'
  split at h'
  · cases h'
  · rename_i h4
    split at h'
    · cases h'
    · rename_i hm
      obtain ⟨c1, c2⟩ := cut_again h'
      have hl := fixE_len h'
      have eZ : opZ zs most = (zs.drop 4).take (toldN zs) := by rw [opZ, if_pos h]
      have eL : opL zs most = 4 + (toldN zs + padN (toldN zs)) := by rw [opL, if_pos h]; omega
      rw [List.length_drop] at hl
      have hbe := bytesOf_be_take zs hb 4 (by omega)
      have hto : be (zs.take 4) = (toldN zs : Int) := by
        have := be_bound zs hb 4 (by omega)
        unfold toldN
        omega
      rw [hto] at hbe
      rw [eZ, eL, c2]
      refine ⟨?_, by omega, by omega, rfl⟩
      rw [opBytes, c2, c1, hbe, ← List.take_add]

theorem op_none {zs : List Int} {most : Int} (h : opE zs most ≠ 0) : opL zs most = 0 ∧ opZ zs most = [] := by
  rw [opL, opZ, if_neg h, if_neg h]
  exact ⟨rfl, rfl⟩

end Go.Proofs.YtciinabhelfnoaaGreatDoor
