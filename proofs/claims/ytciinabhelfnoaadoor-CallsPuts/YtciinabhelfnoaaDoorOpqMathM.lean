/- What is put is got, what is got is put: plain mathematics of bytes with their padding. -/
import Derived.Test.YtciinabhelfnoaaDoorPiecesGrowM
import Derived.Test.YtciinabhelfnoaaDoorNoughtDefFixDefCutMathOpqDefM
import Derived.Test.YtciinabhelfnoaaDoorPutOpqM
namespace Go.Proofs.YtciinabhelfnoaaDoor
set_option linter.unusedVariables false
open Go.RowKit

theorem told_cons (n : Nat) (r : List Int) (hn : n ≤ 4294967295) : toldN (bytesOf (n : Int) 4 ++ r) = n := by
  unfold toldN
  rw [List.take_left' (bytesOf_length _ 4), be_bytesOf 4 n (by omega) (by omega)]
  omega

theorem nought_rep (k : Nat) : allNought (List.replicate k 0) = true := by
  unfold allNought
  rw [List.all_eq_true]
  intro x hx
  rw [List.mem_replicate] at hx
  simp [hx.2]

theorem fix_put (zs ms : List Int) : fixE (padded zs ++ ms) zs.length = 0 ∧ cutZ (padded zs ++ ms) zs.length = zs := by
  have h : fixE (padded zs ++ ms) zs.length = 0 := by
    rw [fixE_form (by rw [List.length_append, padded_length]; omega)]
    have e : (padded zs ++ ms).drop zs.length = List.replicate (padN zs.length) 0 ++ ms := by
      rw [padded, List.append_assoc, List.drop_left' rfl]
    rw [e, List.take_left' (by simp), nought_rep]
    rfl
  refine ⟨h, ?_⟩
  rw [cutZ, if_pos h, padded, List.append_assoc, List.take_left' rfl]

theorem fix_short (zs : List Int) (k : Nat) (hk : k < (padded zs).length) : fixE ((padded zs).take k) zs.length = 4 := by
  rw [padded_length] at hk
  unfold fixE
  rw [if_pos (by rw [List.length_take]; omega)]

theorem op_put (zs ms : List Int) (h : zs.length ≤ 1048576) : opE (opBytes zs ++ ms) zs.length = 0 ∧ opZ (opBytes zs ++ ms) zs.length = zs ∧ opL (opBytes zs ++ ms) zs.length = 4 + (zs.length + padN zs.length) := by
  have ht : toldN (opBytes zs ++ ms) = zs.length := by rw [opBytes, List.append_assoc]; exact told_cons _ _ (by omega)
  have hd : (opBytes zs ++ ms).drop 4 = padded zs ++ ms := by rw [opBytes, List.append_assoc, List.drop_left' (bytesOf_length _ 4)]
  have he : opE (opBytes zs ++ ms) zs.length = 0 := by
    rw [opE, if_neg (by rw [List.length_append, opBytes_length]; omega), ht, if_neg (by omega), hd]
    exact (fix_put zs ms).1
  refine ⟨he, ?_, ?_⟩
  · rw [opZ, if_pos he, ht, hd, padded, List.append_assoc, List.take_left' rfl]
  · rw [opL, if_pos he, ht]; omega

theorem op_more (zs ms : List Int) (most : Int) (h : zs.length ≤ 1048576) (hm : (zs.length : Int) ≤ most) : opE (opBytes zs ++ ms) most = 0 ∧ opZ (opBytes zs ++ ms) most = zs ∧ opL (opBytes zs ++ ms) most = 4 + (zs.length + padN zs.length) := by
  have ht : toldN (opBytes zs ++ ms) = zs.length := by rw [opBytes, List.append_assoc]; exact told_cons _ _ (by omega)
  have hd : (opBytes zs ++ ms).drop 4 = padded zs ++ ms := by rw [opBytes, List.append_assoc, List.drop_left' (bytesOf_length _ 4)]
  have he : opE (opBytes zs ++ ms) most = 0 := by
    rw [opE, if_neg (by rw [List.length_append, opBytes_length]; omega), ht, if_neg (by omega), hd]
    exact (fix_put zs ms).1
  refine ⟨he, ?_, ?_⟩
  · rw [opZ, if_pos he, ht, hd, padded, List.append_assoc, List.take_left' rfl]
  · rw [opL, if_pos he, ht]; omega

theorem op_limit (zs : List Int) (h : zs.length ≤ 1048576) (most : Int) (hm : most < zs.length) : opE (opBytes zs) most = 3 := by
  have ht : toldN (opBytes zs) = zs.length := told_cons _ _ (by omega)
  rw [opE, if_neg (by rw [opBytes_length]; omega), ht, if_pos hm]

theorem op_short (zs : List Int) (k : Nat) (h : zs.length ≤ 1048576) (hk : k < (opBytes zs).length) : opE ((opBytes zs).take k) zs.length = 4 := by
  rw [opBytes_length] at hk
  by_cases h4 : k < 4
  · rw [opE, if_pos (by rw [List.length_take]; omega)]
  · have e : (opBytes zs).take k = bytesOf (zs.length : Int) 4 ++ (padded zs).take (k - 4) := by
      rw [opBytes, List.take_append, bytesOf_length, List.take_of_length_le (by rw [bytesOf_length]; omega)]
    have ht : toldN ((opBytes zs).take k) = zs.length := by rw [e]; exact told_cons _ _ (by omega)
    rw [opE, if_neg (by rw [List.length_take, opBytes_length]; omega), ht, if_neg (by omega), e, List.drop_left' (bytesOf_length _ 4)]
    exact fix_short zs (k - 4) (by rw [padded_length]; omega)

theorem byt_padded {zs : List Int} (hb : Byt zs) : Byt (padded zs) := by
  refine hb.append (byt_of_all fun z hz => ?_)
  rw [List.mem_replicate] at hz
  omega

theorem byt_op {zs : List Int} (hb : Byt zs) : Byt (opBytes zs) := (byt_bytesOf _ 4).append (byt_padded hb)

theorem fx_nat (zs : List Int) (n : Nat) (h : n ≤ 65536) : fxE zs n = fixE zs n ∧ fxZ zs n = cutZ zs n ∧ fxL zs n = cutL zs n := by
  have h1 : ¬ ((n : Int) < 0 ∨ 65536 < (n : Int)) := by omega
  unfold fxE fxZ fxL
  rw [if_neg h1, if_neg h1, if_neg h1, Int.toNat_natCast]
  exact ⟨rfl, rfl, rfl⟩

theorem fx_put (zs ms : List Int) (h : zs.length ≤ 65536) : fxE (padded zs ++ ms) zs.length = 0 ∧ fxZ (padded zs ++ ms) zs.length = zs ∧ fxL (padded zs ++ ms) zs.length = zs.length + padN zs.length := by
  obtain ⟨h1, h2, h3⟩ := fx_nat (padded zs ++ ms) zs.length h
  obtain ⟨g1, g2⟩ := fix_put zs ms
  rw [h1, h2, h3]
  exact ⟨g1, g2, by rw [cutL, if_pos g1]⟩

theorem fx_short (zs : List Int) (k : Nat) (h : zs.length ≤ 65536) (hk : k < (padded zs).length) : fxE ((padded zs).take k) zs.length = 4 := by
  rw [(fx_nat _ _ h).1]
  exact fix_short zs k hk
end Go.Proofs.YtciinabhelfnoaaDoor
