/- Who calls by bytes: the answer as plain mathematics. -/
import Derived.Test.YtciinabhelfnoaaGreatDoorNumsMathRead4M
import Derived.Test.YtciinabhelfnoaaGreatDoorOpqBytesOpqMathAgainMathM
namespace Go.Proofs.YtciinabhelfnoaaGreatDoor
set_option linter.unusedVariables false

/-- The bytes of one who calls. -/
def credB (stamp : Int) (m : List Int) (u g : Int) (gs : List Int) : List Int := numsB [stamp] ++ opBytes m ++ numsB [u, g, gs.length] ++ numsB gs

/-- What is left behind the machine. -/
def crR (zs : List Int) : List Int := (zs.drop 4).drop (opL (zs.drop 4) 255)
def crS (zs : List Int) : Int := be (zs.take 4)
def crM (zs : List Int) : List Int := opZ (zs.drop 4) 255
def crU (zs : List Int) : Int := be ((crR zs).take 4)
def crG (zs : List Int) : Int := be (((crR zs).drop 4).take 4)
def crN (zs : List Int) : Int := be (((crR zs).drop 8).take 4)
def crK (zs : List Int) : Nat := (crN zs).toNat
def crL (zs : List Int) : List Int := numsZ (crK zs) ((crR zs).drop 12)

/-- The error. -/
def crE (zs : List Int) : Int :=
  if zs.length < 4 then 4 else if opE (zs.drop 4) 255 ≠ 0 then opE (zs.drop 4) 255 else if (crR zs).length < 12 then 4 else if 16 < crN zs then 3
  else if (crR zs).length < 12 + 4 * crK zs then 4 else if 12 + 4 * crK zs < (crR zs).length then 5 else 0

/-- What is answered. -/
def cgS (zs : List Int) : Int := if crE zs = 0 then crS zs else 0
def cgM (zs : List Int) : List Int := if crE zs = 0 then crM zs else []
def cgU (zs : List Int) : Int := if crE zs = 0 then crU zs else 0
def cgG (zs : List Int) : Int := if crE zs = 0 then crG zs else 0
def cgL (zs : List Int) : List Int := if crE zs = 0 then crL zs else []

theorem crE_1 {zs : List Int} (h : zs.length < 4) : crE zs = 4 := by rw [crE, if_pos h]
theorem crE_2 {zs : List Int} (h : 4 ≤ zs.length) (h2 : opE (zs.drop 4) 255 ≠ 0) : crE zs = opE (zs.drop 4) 255 := by rw [crE, if_neg (by omega), if_pos h2]
theorem crE_3 {zs : List Int} (h : 4 ≤ zs.length) (h2 : opE (zs.drop 4) 255 = 0) (h3 : (crR zs).length < 12) : crE zs = 4 := by rw [crE, if_neg (by omega), if_neg (by simp [h2]), if_pos h3]
theorem crE_4 {zs : List Int} (h : 4 ≤ zs.length) (h2 : opE (zs.drop 4) 255 = 0) (h3 : 12 ≤ (crR zs).length) (h4 : 16 < crN zs) : crE zs = 3 := by rw [crE, if_neg (by omega), if_neg (by simp [h2]), if_neg (by omega), if_pos h4]
theorem crE_5 {zs : List Int} (h : 4 ≤ zs.length) (h2 : opE (zs.drop 4) 255 = 0) (h3 : 12 ≤ (crR zs).length) (h4 : crN zs ≤ 16) (h5 : (crR zs).length < 12 + 4 * crK zs) : crE zs = 4 := by
  rw [crE, if_neg (by omega), if_neg (by simp [h2]), if_neg (by omega), if_neg (by omega), if_pos h5]
theorem crE_6 {zs : List Int} (h : 4 ≤ zs.length) (h2 : opE (zs.drop 4) 255 = 0) (h3 : 12 ≤ (crR zs).length) (h4 : crN zs ≤ 16) (h5 : 12 + 4 * crK zs < (crR zs).length) : crE zs = 5 := by
  rw [crE, if_neg (by omega), if_neg (by simp [h2]), if_neg (by omega), if_neg (by omega), if_neg (by omega), if_pos h5]
theorem crE_0 {zs : List Int} (h : 4 ≤ zs.length) (h2 : opE (zs.drop 4) 255 = 0) (h3 : 12 ≤ (crR zs).length) (h4 : crN zs ≤ 16) (h5 : (crR zs).length = 12 + 4 * crK zs) : crE zs = 0 := by
  rw [crE, if_neg (by omega), if_neg (by simp [h2]), if_neg (by omega), if_neg (by omega), if_neg (by omega), if_neg (by omega)]

theorem crE_ok {zs : List Int} (h : crE zs = 0) : 4 ≤ zs.length ∧ opE (zs.drop 4) 255 = 0 ∧ 12 ≤ (crR zs).length ∧ crN zs ≤ 16 ∧ (crR zs).length = 12 + 4 * crK zs := by
  by_cases h1 : zs.length < 4
  · rw [crE_1 h1] at h; omega
  by_cases h2 : opE (zs.drop 4) 255 = 0
  case neg => rw [crE_2 (by omega) h2] at h; exact absurd h h2
  by_cases h3 : (crR zs).length < 12
  · rw [crE_3 (by omega) h2 h3] at h; omega
  by_cases h4 : 16 < crN zs
  · rw [crE_4 (by omega) h2 (by omega) h4] at h; omega
  by_cases h5 : (crR zs).length < 12 + 4 * crK zs
  · rw [crE_5 (by omega) h2 (by omega) (by omega) h5] at h; omega
  by_cases h6 : 12 + 4 * crK zs < (crR zs).length
  · rw [crE_6 (by omega) h2 (by omega) (by omega) h6] at h; omega
  exact ⟨by omega, h2, by omega, by omega, by omega⟩

theorem byt_drop {zs : List Int} (h : Byt zs) (n : Nat) : Byt (zs.drop n) := fun i => by rw [List.getElem?_drop]; exact h _
theorem be_range {zs : List Int} (h : Byt zs) (hl : 4 ≤ zs.length) : 0 ≤ be (zs.take 4) ∧ be (zs.take 4) ≤ 4294967295 := by
  have := be_bound zs h 4 hl
  have e : (256 : Int) ^ 4 = 4294967296 := by decide
  rw [e] at this
  omega
end Go.Proofs.YtciinabhelfnoaaGreatDoor
