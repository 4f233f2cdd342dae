/- The reply that bytes are, as the program reads it, step by step: it is the same; plain mathematics. -/
import Derived.Test.YtmjhgpmeikpbkaaDoorRepHow
namespace Go.Proofs.YtmjhgpmeikpbkaaDoor
set_option linter.unusedVariables false
open Go.RowKit

def z3 (zs : List Int) : List Int := zs.drop (8 + 4 * (hw (zs.drop 8)).k)
def rLo (zs : List Int) : Int := nuE (lo0 (hw (zs.drop 8)).h) (lo1 (hw (zs.drop 8)).h) (z3 zs)
def z4 (zs : List Int) : List Int := nuZ (lo0 (hw (zs.drop 8)).h) (lo1 (hw (zs.drop 8)).h) (z3 zs)
def rHi (zs : List Int) : Int := nuE 0 (hi1 (hw (zs.drop 8)).h) (z4 zs)
def z5 (zs : List Int) : List Int := nuZ 0 (hi1 (hw (zs.drop 8)).h) (z4 zs)
def rEnd (zs : List Int) : Int := if bod (hw (zs.drop 8)).h then 0 else if 0 < (z5 zs).length then 5 else 0

/-- Step by step. -/
def rpC (zs : List Int) : RP :=
  if nuE 0 4294967295 zs ≠ 0 then rpNo (nuE 0 4294967295 zs)
  else if nuE 1 1 (zs.drop 4) ≠ 0 then rpNo (nuE 1 1 (zs.drop 4))
  else if (hw (zs.drop 8)).e ≠ 0 then rpNo (hw (zs.drop 8)).e
  else if rLo zs ≠ 0 then rpNo (rLo zs)
  else if rHi zs ≠ 0 then rpNo (rHi zs)
  else if rEnd zs ≠ 0 then rpNo (rEnd zs)
  else ⟨0, num zs 0, (hw (zs.drop 8)).h, nuN (lo0 (hw (zs.drop 8)).h) (lo1 (hw (zs.drop 8)).h) (z3 zs), nuN 0 (hi1 (hw (zs.drop 8)).h) (z4 zs), if bod (hw (zs.drop 8)).h then z5 zs else []⟩

theorem be_range {zs : List Int} (hb : Byt zs) (h : 4 ≤ zs.length) : 0 ≤ be (zs.take 4) ∧ be (zs.take 4) ≤ 4294967295 := by
  have := num_range hb 0 (by omega)
  simpa [num] using this

theorem nuE_any {zs : List Int} (hb : Byt zs) : nuE 0 4294967295 zs = if zs.length < 4 then 4 else 0 := by
  rw [nuE, if_neg (by decide)]
  split
  · rfl
  · have := be_range hb (by omega)
    rw [if_neg (by omega)]
theorem nuN_any {zs : List Int} (hb : Byt zs) (h : 4 ≤ zs.length) : nuN 0 4294967295 zs = be (zs.take 4) := by
  have e : nuE 0 4294967295 zs = 0 := by rw [nuE_any hb, if_neg (by omega)]
  rw [nuN, if_neg (by decide), if_pos e]
theorem nuZ_any (zs : List Int) : nuZ 0 4294967295 zs = zs.drop 4 := by rw [nuZ, if_neg (by decide)]
theorem nuE_no (zs : List Int) : nuE 0 0 zs = 0 := by rw [nuE, if_pos ⟨rfl, rfl⟩]
theorem nuN_no (zs : List Int) : nuN 0 0 zs = 0 := by rw [nuN, if_pos ⟨rfl, rfl⟩]
theorem nuZ_no (zs : List Int) : nuZ 0 0 zs = zs := by rw [nuZ, if_pos ⟨rfl, rfl⟩]

theorem num_drop (zs : List Int) (j k : Nat) : num (zs.drop (4 * j)) k = num zs (j + k) := by
  unfold num
  rw [List.drop_drop]
  congr 3
  omega

theorem be_drop (zs : List Int) (k : Nat) : be ((zs.drop (4 * k)).take 4) = num zs k := rfl

theorem nuE_one {zs : List Int} : nuE 1 1 zs = if zs.length < 4 then 4 else if be (zs.take 4) = 1 then 0 else 5 := by
  rw [nuE, if_neg (by decide)]
  split
  · rfl
  · split
    · rw [if_neg (by omega)]
    · rw [if_pos (by omega)]
theorem nuE_auth {zs : List Int} : nuE 1 7 zs = if zs.length < 4 then 4 else if be (zs.take 4) < 1 ∨ 7 < be (zs.take 4) then 5 else 0 := by
  rw [nuE, if_neg (by decide)]
theorem nuN_auth {zs : List Int} (h : nuE 1 7 zs = 0) : nuN 1 7 zs = be (zs.take 4) := by
  rw [nuN, if_neg (by decide), if_pos h]
theorem nuZ_auth (zs : List Int) : nuZ 1 7 zs = zs.drop 4 := by rw [nuZ, if_neg (by decide)]

/-- What follows a row, by its kind. -/
def tail (zs : List Int) (h : Int) (k : Nat) : RP :=
  if nuE (lo0 h) (lo1 h) (zs.drop (8 + 4 * k)) ≠ 0 then rpNo (nuE (lo0 h) (lo1 h) (zs.drop (8 + 4 * k)))
  else if nuE 0 (hi1 h) (nuZ (lo0 h) (lo1 h) (zs.drop (8 + 4 * k))) ≠ 0 then rpNo (nuE 0 (hi1 h) (nuZ (lo0 h) (lo1 h) (zs.drop (8 + 4 * k))))
  else if (if bod h then (0 : Int) else if 0 < (nuZ 0 (hi1 h) (nuZ (lo0 h) (lo1 h) (zs.drop (8 + 4 * k)))).length then 5 else 0) ≠ 0 then rpNo (if bod h then (0 : Int) else if 0 < (nuZ 0 (hi1 h) (nuZ (lo0 h) (lo1 h) (zs.drop (8 + 4 * k)))).length then 5 else 0)
  else ⟨0, num zs 0, h, nuN (lo0 h) (lo1 h) (zs.drop (8 + 4 * k)), nuN 0 (hi1 h) (nuZ (lo0 h) (lo1 h) (zs.drop (8 + 4 * k))), if bod h then nuZ 0 (hi1 h) (nuZ (lo0 h) (lo1 h) (zs.drop (8 + 4 * k))) else []⟩

theorem rpC_tail {zs : List Int} {h : Int} {k : Nat} (hy : hw (zs.drop 8) = ⟨0, h, k⟩) :
    (if (hw (zs.drop 8)).e ≠ 0 then rpNo (hw (zs.drop 8)).e else if rLo zs ≠ 0 then rpNo (rLo zs) else if rHi zs ≠ 0 then rpNo (rHi zs) else if rEnd zs ≠ 0 then rpNo (rEnd zs)
     else (⟨0, num zs 0, (hw (zs.drop 8)).h, nuN (lo0 (hw (zs.drop 8)).h) (lo1 (hw (zs.drop 8)).h) (z3 zs), nuN 0 (hi1 (hw (zs.drop 8)).h) (z4 zs), if bod (hw (zs.drop 8)).h then z5 zs else []⟩ : RP)) = tail zs h k := by
  have e3 : z3 zs = zs.drop (8 + 4 * k) := by rw [z3, hy]
  have e4 : z4 zs = nuZ (lo0 h) (lo1 h) (zs.drop (8 + 4 * k)) := by rw [z4, hy, e3]
  have e5 : z5 zs = nuZ 0 (hi1 h) (nuZ (lo0 h) (lo1 h) (zs.drop (8 + 4 * k))) := by rw [z5, hy, e4]
  have eL : rLo zs = nuE (lo0 h) (lo1 h) (zs.drop (8 + 4 * k)) := by rw [rLo, hy, e3]
  have eH : rHi zs = nuE 0 (hi1 h) (nuZ (lo0 h) (lo1 h) (zs.drop (8 + 4 * k))) := by rw [rHi, hy, e4]
  have eE : rEnd zs = if bod h then (0 : Int) else if 0 < (nuZ 0 (hi1 h) (nuZ (lo0 h) (lo1 h) (zs.drop (8 + 4 * k)))).length then 5 else 0 := by rw [rEnd, hy, e5]
  rw [eL, eH, eE, e5, e4, e3, hy]
  rfl

theorem tail_pair {zs : List Int} (hb : Byt zs) {h : Int} (hh : h = 2 ∨ h = 100) (k : Nat) (hk : 8 + 4 * k ≤ zs.length) : tail zs h k =
    if zs.length < 16 + 4 * k then rpNo 4 else if 16 + 4 * k < zs.length then rpNo 5 else ⟨0, num zs 0, h, num zs (2 + k), num zs (3 + k), []⟩ := by
  have l0 : lo0 h = 0 := by rcases hh with rfl | rfl <;> decide
  have l1 : lo1 h = 4294967295 := by rcases hh with rfl | rfl <;> decide
  have g1 : hi1 h = 4294967295 := by rcases hh with rfl | rfl <;> decide
  have bo : bod h = false := by rcases hh with rfl | rfl <;> decide
  have hd : Byt (zs.drop (8 + 4 * k)) := hb.drop' _
  have hd4 : Byt (zs.drop (8 + 4 * k + 4)) := hb.drop' _
  unfold tail
  rw [l0, l1, g1, bo, nuZ_any, nuZ_any, nuE_any hd, List.drop_drop, List.drop_drop, nuE_any hd4, List.length_drop, List.length_drop, List.length_drop]
  simp only [Bool.false_eq_true, if_false]
  by_cases c1 : zs.length < 12 + 4 * k
  · rw [if_pos (show zs.length - (8 + 4 * k) < 4 by omega), if_pos (by decide), if_pos (by omega)]
  rw [if_neg (show ¬ zs.length - (8 + 4 * k) < 4 by omega), if_neg (by decide)]
  by_cases c2 : zs.length < 16 + 4 * k
  · rw [if_pos (show zs.length - (8 + 4 * k + 4) < 4 by omega), if_pos (by decide), if_pos c2]
  rw [if_neg (show ¬ zs.length - (8 + 4 * k + 4) < 4 by omega), if_neg (show ¬ (0 : Int) ≠ 0 by decide), if_neg c2]
  by_cases c3 : 16 + 4 * k < zs.length
  · rw [if_pos (show 0 < zs.length - (8 + 4 * k + 4 + 4) by omega), if_pos (by decide), if_pos c3]
  rw [if_neg (show ¬ 0 < zs.length - (8 + 4 * k + 4 + 4) by omega), if_neg (by decide), if_neg c3, nuN_any hd (by rw [List.length_drop]; omega), nuN_any hd4 (by rw [List.length_drop]; omega)]
  rw [show 8 + 4 * k = 4 * (2 + k) from by omega, show 4 * (2 + k) + 4 = 4 * (3 + k) from by omega]
  rfl

theorem tail_auth {zs : List Int} (hb : Byt zs) (k : Nat) (hk : 8 + 4 * k ≤ zs.length) : tail zs 101 k =
    if zs.length < 12 + 4 * k then rpNo 4 else if num zs (2 + k) < 1 ∨ 7 < num zs (2 + k) then rpNo 5 else if 12 + 4 * k < zs.length then rpNo 5 else ⟨0, num zs 0, 101, num zs (2 + k), 0, []⟩ := by
  have l0 : lo0 101 = 1 := by decide
  have l1 : lo1 101 = 7 := by decide
  have g1 : hi1 101 = 0 := by decide
  have bo : bod 101 = false := by decide
  have en : be ((zs.drop (8 + 4 * k)).take 4) = num zs (2 + k) := by rw [show 8 + 4 * k = 4 * (2 + k) from by omega]; rfl
  unfold tail
  rw [l0, l1, g1, bo, nuZ_auth, nuZ_no, nuE_no, nuN_no, nuE_auth, List.length_drop, List.drop_drop, List.length_drop, en]
  simp only [Bool.false_eq_true, if_false]
  by_cases c1 : zs.length < 12 + 4 * k
  · rw [if_pos (show zs.length - (8 + 4 * k) < 4 by omega), if_pos (by decide), if_pos c1]
  rw [if_neg (show ¬ zs.length - (8 + 4 * k) < 4 by omega), if_neg c1]
  by_cases c2 : num zs (2 + k) < 1 ∨ 7 < num zs (2 + k)
  · rw [if_pos c2, if_pos (by decide), if_pos c2]
  have hz : nuE 1 7 (zs.drop (8 + 4 * k)) = 0 := by rw [nuE_auth, List.length_drop, en, if_neg (by omega), if_neg c2]
  rw [if_neg c2, if_neg (by decide), if_neg (show ¬ (0 : Int) ≠ 0 by decide), if_neg c2]
  by_cases c3 : 12 + 4 * k < zs.length
  · rw [if_pos (show 0 < zs.length - (8 + 4 * k + 4) by omega), if_pos (by decide), if_pos c3]
  rw [if_neg (show ¬ 0 < zs.length - (8 + 4 * k + 4) by omega), if_neg (by decide), if_neg c3, nuN_auth hz, en]

theorem tail_plain {zs : List Int} {h : Int} (hh : h = 1 ∨ h = 3 ∨ h = 4) (k : Nat) : tail zs h k = if 8 + 4 * k < zs.length then rpNo 5 else ⟨0, num zs 0, h, 0, 0, []⟩ := by
  have l0 : lo0 h = 0 := by rcases hh with rfl | rfl | rfl <;> decide
  have l1 : lo1 h = 0 := by rcases hh with rfl | rfl | rfl <;> decide
  have g1 : hi1 h = 0 := by rcases hh with rfl | rfl | rfl <;> decide
  have bo : bod h = false := by rcases hh with rfl | rfl | rfl <;> decide
  unfold tail
  rw [l0, l1, g1, bo, nuZ_no, nuZ_no, nuE_no, nuN_no, List.length_drop, if_neg (show ¬ (0 : Int) ≠ 0 by decide), if_neg (show ¬ (0 : Int) ≠ 0 by decide)]
  simp only [Bool.false_eq_true, if_false]
  by_cases c3 : 8 + 4 * k < zs.length
  · rw [if_pos (show 0 < zs.length - (8 + 4 * k) by omega), if_pos (by decide), if_pos c3]
  · rw [if_neg (show ¬ 0 < zs.length - (8 + 4 * k) by omega), if_neg (by decide), if_neg c3]

theorem tail_done (zs : List Int) (k : Nat) : tail zs 0 k = ⟨0, num zs 0, 0, 0, 0, zs.drop (8 + 4 * k)⟩ := by
  have l0 : lo0 0 = 0 := by decide
  have l1 : lo1 0 = 0 := by decide
  have g1 : hi1 0 = 0 := by decide
  have bo : bod 0 = true := by decide
  unfold tail
  rw [l0, l1, g1, bo, nuZ_no, nuZ_no, nuE_no, nuN_no, if_neg (show ¬ (0 : Int) ≠ 0 by decide), if_neg (show ¬ (0 : Int) ≠ 0 by decide), if_pos rfl, if_neg (show ¬ (0 : Int) ≠ 0 by decide), if_pos rfl]

theorem rpC_eq {zs : List Int} (hb : Byt zs) (hl : zs.length ≤ 65536) : rpC zs = rp zs := by
  have m0 : num (zs.drop 8) 0 = num zs 2 := num_drop zs 2 0
  have m1 : num (zs.drop 8) 1 = num zs 3 := num_drop zs 2 1
  have m2 : num (zs.drop 8) 2 = num zs 4 := num_drop zs 2 2
  have m3 : num (zs.drop 8) 3 = num zs 5 := num_drop zs 2 3
  have e1 : be ((zs.drop 4).take 4) = num zs 1 := rfl
  have d8 : (zs.drop 8).length = zs.length - 8 := List.length_drop
  have d4 : (zs.drop 4).length = zs.length - 4 := List.length_drop
  have dk : ∀ k, (zs.drop k).length = zs.length - k := fun k => List.length_drop
  have hw8 : hw (zs.drop 8) = _ := rfl
  conv at hw8 => rhs; unfold hw
  rw [m0, m1, m2, m3, d8] at hw8
  unfold rp
  rw [if_neg (by omega)]
  unfold rpC
  rw [nuE_any hb]
  by_cases l4 : zs.length < 4
  · rw [if_pos l4, if_pos (by decide), if_pos (by omega)]
  rw [if_neg l4, if_neg (by decide), nuE_one, d4, e1]
  by_cases l8 : zs.length < 8
  · rw [if_pos (show zs.length - 4 < 4 by omega), if_pos (by decide), if_pos l8]
  rw [if_neg (show ¬ zs.length - 4 < 4 by omega), if_neg l8]
  by_cases n1' : num zs 1 ≠ 1
  · rw [if_neg n1', if_pos (by decide), if_pos n1']
  have n1 : num zs 1 = 1 := by simpa using n1'
  rw [if_pos n1, if_neg (show ¬ (0 : Int) ≠ 0 by decide), if_neg n1']
  have err : ∀ (e : Int) (k : Nat), e ≠ 0 → hw (zs.drop 8) = ⟨e, 0, k⟩ → ∀ X : RP, (if (hw (zs.drop 8)).e ≠ 0 then rpNo (hw (zs.drop 8)).e else X) = rpNo e := fun e k he hy X => by
    rw [hy]; exact if_pos he
  by_cases l12 : zs.length < 12
  · rw [if_pos (show zs.length - 8 < 4 by omega)] at hw8
    rw [err 4 0 (by decide) hw8, if_pos l12]
  rw [if_neg (show ¬ zs.length - 8 < 4 by omega)] at hw8
  rw [if_neg l12]
  by_cases d1 : num zs 2 = 1
  · rw [if_pos d1] at hw8
    rw [if_pos d1]
    unfold rpDenied
    by_cases l16 : zs.length < 16
    · rw [if_pos (show zs.length - 8 < 8 by omega)] at hw8
      rw [err 4 1 (by decide) hw8, if_pos l16]
    rw [if_neg (show ¬ zs.length - 8 < 8 by omega)] at hw8
    rw [if_neg l16]
    by_cases f0 : num zs 3 = 0
    · rw [if_pos f0] at hw8
      rw [rpC_tail hw8, if_pos f0, tail_pair hb (.inr rfl) 2 (by omega)]
    rw [if_neg f0] at hw8
    rw [if_neg f0]
    by_cases f1 : num zs 3 = 1
    · rw [if_pos f1] at hw8
      rw [rpC_tail hw8, if_pos f1, tail_auth hb 2 (by omega)]
    rw [if_neg f1] at hw8
    rw [err 5 2 (by decide) hw8, if_neg f1]
  rw [if_neg d1] at hw8
  rw [if_neg d1]
  by_cases d0 : num zs 2 = 0
  · rw [if_pos d0] at hw8
    rw [if_pos d0]
    unfold rpTaken
    by_cases l16 : zs.length < 16
    · rw [if_pos (show zs.length - 8 < 8 by omega)] at hw8
      rw [err 4 1 (by decide) hw8, if_pos l16]
    rw [if_neg (show ¬ zs.length - 8 < 8 by omega)] at hw8
    rw [if_neg l16]
    by_cases f0 : num zs 3 ≠ 0
    · rw [if_pos f0] at hw8
      rw [err 5 2 (by decide) hw8, if_pos f0]
    rw [if_neg f0] at hw8
    rw [if_neg f0]
    by_cases l20 : zs.length < 20
    · rw [if_pos (show zs.length - 8 < 12 by omega)] at hw8
      rw [err 4 2 (by decide) hw8, if_pos l20]
    rw [if_neg (show ¬ zs.length - 8 < 12 by omega)] at hw8
    rw [if_neg l20]
    by_cases f1 : num zs 4 ≠ 0
    · rw [if_pos f1] at hw8
      rw [err 5 3 (by decide) hw8, if_pos f1]
    rw [if_neg f1] at hw8
    rw [if_neg f1]
    by_cases l24 : zs.length < 24
    · rw [if_pos (show zs.length - 8 < 16 by omega)] at hw8
      rw [err 4 3 (by decide) hw8, if_pos l24]
    rw [if_neg (show ¬ zs.length - 8 < 16 by omega)] at hw8
    rw [if_neg l24]
    by_cases g : num zs 5 = 0 ∨ num zs 5 = 1 ∨ num zs 5 = 2 ∨ num zs 5 = 3 ∨ num zs 5 = 4
    · rw [if_pos g] at hw8
      rw [rpC_tail hw8]
      by_cases g0 : num zs 5 = 0
      · rw [if_pos g0, g0, tail_done]
      rw [if_neg g0]
      by_cases g2 : num zs 5 = 2
      · rw [if_pos g2, g2, tail_pair hb (.inl rfl) 4 (by omega)]
      rw [if_neg g2, if_pos (by omega), tail_plain (by omega)]
    · rw [if_neg g] at hw8
      rw [err 5 4 (by decide) hw8, if_neg (by omega), if_neg (by omega), if_neg (by omega)]
  · rw [if_neg d0] at hw8
    rw [err 5 1 (by decide) hw8, if_neg d0]
end Go.Proofs.YtmjhgpmeikpbkaaDoor
