/- What the document's 'told' answers of numbers, and the reply that bytes are, number by number; nothing of the program. -/
import Derived.Test.YtmjhgpmeikpbkaaDoorRepMath
namespace Go.Proofs.YtmjhgpmeikpbkaaDoor
set_option linter.unusedVariables false

/-- What numbers tell so far: more: one more must follow; ok: they may stand there. -/
structure TD where
  h : Int
  l : Int
  g : Int
  more : Bool
  ok : Bool

def tdNo : TD := ⟨0, 0, 0, false, false⟩
def tdOn : TD := ⟨0, 0, 0, true, true⟩

def dnT (n : Nat) (z : Nat → Int) : TD :=
  if 1 < z 0 then tdNo
  else if n = 1 then tdOn
  else if z 0 = 1 then ⟨101, z 1, 0, false, decide (1 ≤ z 1) && decide (z 1 ≤ 7)⟩
  else if n = 2 then ⟨100, z 1, 0, true, true⟩
  else ⟨100, z 1, z 2, false, true⟩

def acT (n : Nat) (z : Nat → Int) : TD :=
  if n < 3 then (if z (n - 1) = 0 then tdOn else tdNo)
  else if 4 < z 2 then ⟨z 2, 0, 0, false, false⟩
  else if z 2 ≠ 2 then ⟨z 2, 0, 0, false, true⟩
  else if n < 5 then ⟨2, 0, 0, true, true⟩
  else ⟨2, z 3, z 4, false, true⟩

def tdT (n : Nat) (z : Nat → Int) : TD :=
  if n = 1 then tdOn
  else if z 1 ≠ 1 then tdNo
  else if n = 2 then tdOn
  else if 1 < z 2 then tdNo
  else if n = 3 then tdOn
  else if z 2 = 1 then dnT (n - 3) (fun i => z (3 + i))
  else acT (n - 3) (fun i => z (3 + i))

/-- The reply that bytes are, by what their numbers tell behind the first k. -/
def rgo (zs : List Int) : Nat → Nat → RP
  | 0, _ => rpNo 4
  | f + 1, k =>
    if zs.length < 4 * (k + 1) then rpNo 4
    else if (tdT (k + 1) (num zs)).ok = false then rpNo 5
    else if (tdT (k + 1) (num zs)).more = true then rgo zs f (k + 1)
    else if (tdT (k + 1) (num zs)).h ≠ 0 ∧ 4 * (k + 1) < zs.length then rpNo 5
    else ⟨0, num zs 0, (tdT (k + 1) (num zs)).h, (tdT (k + 1) (num zs)).l, (tdT (k + 1) (num zs)).g, zs.drop (4 * (k + 1))⟩

theorem rgo_short {zs : List Int} {f k : Nat} (h : zs.length < 4 * (k + 1)) : rgo zs (f + 1) k = rpNo 4 := by
  rw [rgo, if_pos h]
theorem rgo_bad {zs : List Int} {f k : Nat} (h : ¬ zs.length < 4 * (k + 1)) (hk : (tdT (k + 1) (num zs)).ok = false) : rgo zs (f + 1) k = rpNo 5 := by
  rw [rgo, if_neg h, if_pos hk]
theorem rgo_more {zs : List Int} {f k : Nat} (h : ¬ zs.length < 4 * (k + 1)) (hk : (tdT (k + 1) (num zs)).ok = true) (hm : (tdT (k + 1) (num zs)).more = true) : rgo zs (f + 1) k = rgo zs f (k + 1) := by
  rw [rgo, if_neg h, if_neg (by simp [hk]), if_pos hm]
theorem rgo_form {zs : List Int} {f k : Nat} (h : ¬ zs.length < 4 * (k + 1)) (hk : (tdT (k + 1) (num zs)).ok = true) (hm : (tdT (k + 1) (num zs)).more = false) (h2 : (tdT (k + 1) (num zs)).h ≠ 0) (h3 : 4 * (k + 1) < zs.length) : rgo zs (f + 1) k = rpNo 5 := by
  rw [rgo, if_neg h, if_neg (by simp [hk]), if_neg (by simp [hm]), if_pos ⟨h2, h3⟩]
theorem rgo_end {zs : List Int} {f k : Nat} (h : ¬ zs.length < 4 * (k + 1)) (hk : (tdT (k + 1) (num zs)).ok = true) (hm : (tdT (k + 1) (num zs)).more = false) (h2 : ¬ ((tdT (k + 1) (num zs)).h ≠ 0 ∧ 4 * (k + 1) < zs.length)) : rgo zs (f + 1) k = ⟨0, num zs 0, (tdT (k + 1) (num zs)).h, (tdT (k + 1) (num zs)).l, (tdT (k + 1) (num zs)).g, zs.drop (4 * (k + 1))⟩ := by
  rw [rgo, if_neg h, if_neg (by simp [hk]), if_neg (by simp [hm]), if_neg h2]

/-- Behind eight numbers none follows. -/
theorem tdT_last {n : Nat} {z : Nat → Int} (h : 8 ≤ n) : (tdT n z).more = false := by
  unfold tdT
  rw [if_neg (by omega)]
  split
  · rfl
  · rw [if_neg (by omega)]
    split
    · rfl
    · rw [if_neg (by omega)]
      split
      · unfold dnT
        split
        · rfl
        · rw [if_neg (by omega)]
          split
          · rfl
          · rw [if_neg (by omega)]
      · unfold acT
        rw [if_neg (by omega)]
        split
        · rfl
        · split
          · rfl
          · rw [if_neg (by omega)]

theorem drop_nil {zs : List Int} {k : Nat} (h : zs.length ≤ k) : zs.drop k = [] := List.drop_eq_nil_of_le h

set_option maxHeartbeats 1000000 in
theorem rp_go {zs : List Int} (hb : Byt zs) (hl : zs.length ≤ 65536) : rp zs = rgo zs 8 0 := by
  have ur : ∀ k, 4 * (k + 1) ≤ zs.length → 0 ≤ num zs k := fun k hk => (num_range hb k hk).1
  unfold rp
  rw [if_neg (by omega)]
  have t1 : tdT 1 (num zs) = tdOn := rfl
  by_cases l4 : zs.length < 4
  · rw [if_pos (by omega), rgo_short (by omega)]
  rw [rgo_more (k := 0) (by omega) (by rw [t1]; rfl) (by rw [t1]; rfl)]
  by_cases l8 : zs.length < 8
  · rw [if_pos l8, rgo_short (by omega)]
  rw [if_neg l8]
  by_cases n1 : num zs 1 ≠ 1
  · rw [if_pos n1, rgo_bad (k := 1) (by omega) (by simp [tdT, n1, tdNo])]
  rw [if_neg n1]
  have n1' : num zs 1 = 1 := by simpa using n1
  rw [rgo_more (k := 1) (by omega) (by simp [tdT, n1', tdOn]) (by simp [tdT, n1', tdOn])]
  by_cases l12 : zs.length < 12
  · rw [if_pos l12, rgo_short (by omega)]
  rw [if_neg l12]
  have u2 := ur 2 (by omega)
  by_cases n2 : 1 < num zs 2
  · rw [if_neg (by omega), if_neg (by omega), rgo_bad (k := 2) (by omega) (by simp [tdT, n1', n2, tdNo])]
  rw [rgo_more (k := 2) (by omega) (by simp [tdT, n1', n2, tdOn]) (by simp [tdT, n1', n2, tdOn])]
  have t4 : ∀ n, tdT (n + 4) (num zs) = if num zs 2 = 1 then dnT (n + 1) (fun i => num zs (3 + i)) else acT (n + 1) (fun i => num zs (3 + i)) := by
    intro n
    rw [tdT, if_neg (by omega), if_neg n1, if_neg (by omega), if_neg n2, if_neg (by omega), show n + 4 - 3 = n + 1 by omega]
  by_cases d1 : num zs 2 = 1
  · rw [if_pos d1]
    unfold rpDenied
    by_cases l16 : zs.length < 16
    · rw [if_pos l16, rgo_short (by omega)]
    rw [if_neg l16]
    have u3 := ur 3 (by omega)
    have e4 := t4 0
    rw [if_pos d1] at e4
    by_cases f2 : 1 < num zs 3
    · rw [if_neg (by omega), if_neg (by omega), rgo_bad (k := 3) (by omega) (by rw [e4]; simp [dnT, f2, tdNo])]
    rw [rgo_more (k := 3) (by omega) (by rw [e4]; simp [dnT, f2, tdOn]) (by rw [e4]; simp [dnT, f2, tdOn])]
    have e5 := t4 1
    rw [if_pos d1] at e5
    by_cases l20 : zs.length < 20
    · rw [rgo_short (by omega)]
      by_cases f0 : num zs 3 = 0
      · rw [if_pos f0, if_pos (by omega)]
      · rw [if_neg f0, if_pos (by omega), if_pos l20]
    by_cases f0 : num zs 3 = 0
    · rw [if_pos f0]
      have e5' : dnT 2 (fun i => num zs (3 + i)) = ⟨100, num zs 4, 0, true, true⟩ := by simp [dnT, f0]
      rw [rgo_more (k := 4) (by omega) (by rw [e5, e5']) (by rw [e5, e5'])]
      by_cases l24 : zs.length < 24
      · rw [if_pos l24, rgo_short (by omega)]
      rw [if_neg l24]
      have e6 := t4 2
      rw [if_pos d1] at e6
      have e6' : dnT 3 (fun i => num zs (3 + i)) = ⟨100, num zs 4, num zs 5, false, true⟩ := by simp [dnT, f0]
      by_cases l24' : 24 < zs.length
      · rw [if_pos l24', rgo_form (k := 5) (by omega) (by rw [e6, e6']) (by rw [e6, e6']) (by rw [e6, e6']; simp) (by omega)]
      · rw [if_neg l24', rgo_end (k := 5) (by omega) (by rw [e6, e6']) (by rw [e6, e6']) (by omega), e6, e6', drop_nil (by omega)]
    · have f1 : num zs 3 = 1 := by omega
      rw [if_neg f0, if_pos f1, if_neg l20]
      have e5' : dnT 2 (fun i => num zs (3 + i)) = ⟨101, num zs 4, 0, false, decide (1 ≤ num zs 4) && decide (num zs 4 ≤ 7)⟩ := by simp [dnT, f1]
      by_cases f7 : num zs 4 < 1 ∨ 7 < num zs 4
      · rw [if_pos f7, rgo_bad (k := 4) (by omega) (by rw [e5, e5']; simp; omega)]
      rw [if_neg f7]
      have ok : (tdT 5 (num zs)).ok = true := by rw [e5, e5']; simp; omega
      by_cases l20' : 20 < zs.length
      · rw [if_pos l20', rgo_form (k := 4) (by omega) ok (by rw [e5, e5']) (by rw [e5, e5']; simp) (by omega)]
      · rw [if_neg l20', rgo_end (k := 4) (by omega) ok (by rw [e5, e5']) (by omega), e5, e5', drop_nil (by omega)]
  have d0 : num zs 2 = 0 := by omega
  rw [if_neg d1, if_pos d0]
  unfold rpTaken
  by_cases l16 : zs.length < 16
  · rw [if_pos l16, rgo_short (by omega)]
  rw [if_neg l16]
  have e4 := t4 0
  rw [if_neg d1] at e4
  by_cases f0 : num zs 3 ≠ 0
  · rw [if_pos f0, rgo_bad (k := 3) (by omega) (by rw [e4]; simp [acT, f0, tdNo])]
  have f0' : num zs 3 = 0 := by simpa using f0
  rw [if_neg f0, rgo_more (k := 3) (by omega) (by rw [e4]; simp [acT, f0', tdOn]) (by rw [e4]; simp [acT, f0', tdOn])]
  by_cases l20 : zs.length < 20
  · rw [if_pos l20, rgo_short (by omega)]
  rw [if_neg l20]
  have e5 := t4 1
  rw [if_neg d1] at e5
  by_cases f1 : num zs 4 ≠ 0
  · rw [if_pos f1, rgo_bad (k := 4) (by omega) (by rw [e5]; simp [acT, f1, tdNo])]
  have f1' : num zs 4 = 0 := by simpa using f1
  rw [if_neg f1, rgo_more (k := 4) (by omega) (by rw [e5]; simp [acT, f1', tdOn]) (by rw [e5]; simp [acT, f1', tdOn])]
  by_cases l24 : zs.length < 24
  · rw [if_pos l24, rgo_short (by omega)]
  rw [if_neg l24]
  have u5 := ur 5 (by omega)
  have e6 := t4 2
  rw [if_neg d1] at e6
  by_cases g2 : num zs 5 = 2
  · rw [if_neg (by omega), if_pos g2]
    have e6' : acT 3 (fun i => num zs (3 + i)) = ⟨2, 0, 0, true, true⟩ := by simp [acT, g2]
    rw [rgo_more (k := 5) (by omega) (by rw [e6, e6']) (by rw [e6, e6'])]
    have e7 := t4 3
    rw [if_neg d1] at e7
    have e7' : acT 4 (fun i => num zs (3 + i)) = ⟨2, 0, 0, true, true⟩ := by simp [acT, g2]
    by_cases l28 : zs.length < 28
    · rw [if_pos (by omega), rgo_short (by omega)]
    rw [rgo_more (k := 6) (by omega) (by rw [e7, e7']) (by rw [e7, e7'])]
    by_cases l32 : zs.length < 32
    · rw [if_pos l32, rgo_short (by omega)]
    rw [if_neg l32]
    have e8 := t4 4
    rw [if_neg d1] at e8
    have e8' : acT 5 (fun i => num zs (3 + i)) = ⟨2, num zs 6, num zs 7, false, true⟩ := by simp [acT, g2]
    by_cases l32' : 32 < zs.length
    · rw [if_pos l32', rgo_form (k := 7) (by omega) (by rw [e8, e8']) (by rw [e8, e8']) (by rw [e8, e8']; simp) (by omega)]
    · rw [if_neg l32', rgo_end (k := 7) (by omega) (by rw [e8, e8']) (by rw [e8, e8']) (by omega), e8, e8', drop_nil (by omega)]
  by_cases g4 : 4 < num zs 5
  · have e6' : acT 3 (fun i => num zs (3 + i)) = ⟨num zs 5, 0, 0, false, false⟩ := by simp [acT, g4]
    rw [if_neg (by omega), if_neg g2, if_neg (by omega), rgo_bad (k := 5) (by omega) (by rw [e6, e6'])]
  have e6' : acT 3 (fun i => num zs (3 + i)) = ⟨num zs 5, 0, 0, false, true⟩ := by simp [acT, g4, g2]
  by_cases g0 : num zs 5 = 0
  · rw [if_pos g0, rgo_end (k := 5) (by omega) (by rw [e6, e6']) (by rw [e6, e6']) (by rw [e6, e6']; simp [g0]), e6, e6', g0]
  rw [if_neg g0, if_neg g2, if_pos (by omega)]
  by_cases l24' : 24 < zs.length
  · rw [if_pos l24', rgo_form (k := 5) (by omega) (by rw [e6, e6']) (by rw [e6, e6']) (by rw [e6, e6']; exact g0) (by omega)]
  · rw [if_neg l24', rgo_end (k := 5) (by omega) (by rw [e6, e6']) (by rw [e6, e6']) (by omega), e6, e6', drop_nil (by omega)]
end Go.Proofs.YtmjhgpmeikpbkaaDoor
