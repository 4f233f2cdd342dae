/- Points of time: plain mathematics. -/
import Derived.Test.YtecbhhfncklefaaDoorOrderMath
namespace Go.Proofs.YtecbhhfncklefaaDoor
set_option linter.unusedVariables false

/-- May a point of time be? Is one ahead of another one? -/
def tok (n : Int) : Bool := decide (n < 1000000000)
def tls (a b c d : Int) : Bool := decide (a < c) || (decide (a = c) && decide (b < d))

/-- What 'Add' answers: the error, the second, the nanosecond. -/
def tE (s n k : Int) : Int := if 1000000000 ≤ n then 1 else if 4294967295 < s + (n + k) / 1000000000 then 3 else 0
def tS (s n k : Int) : Int := if tE s n k = 0 then s + (n + k) / 1000000000 else 0
def tN (s n k : Int) : Int := if tE s n k = 0 then (n + k) % 1000000000 else 0

/-- The bytes; what 'Get' answers. -/
def tB (s n : Int) : List Int := bytesOf s 4 ++ bytesOf n 4
def gtE (zs : List Int) : Int := if zs.length < 8 then 4 else if 1000000000 ≤ be ((zs.drop 4).take 4) then 5 else 0
def gtS (zs : List Int) : Int := if gtE zs = 0 then be (zs.take 4) else 0
def gtN (zs : List Int) : Int := if gtE zs = 0 then be ((zs.drop 4).take 4) else 0

theorem ad_cases (s n k : Int) : (tE s n k = 1 ∧ tS s n k = 0 ∧ tN s n k = 0 ∧ 1000000000 ≤ n) ∨
    (tE s n k = 3 ∧ tS s n k = 0 ∧ tN s n k = 0 ∧ n < 1000000000 ∧ 4294967295 < s + (n + k) / 1000000000) ∨
    (tE s n k = 0 ∧ tS s n k = s + (n + k) / 1000000000 ∧ tN s n k = (n + k) % 1000000000 ∧ n < 1000000000 ∧ s + (n + k) / 1000000000 ≤ 4294967295) := by
  unfold tS tN tE
  by_cases h : 1000000000 ≤ n
  · simp [h]
  · by_cases h2 : 4294967295 < s + (n + k) / 1000000000
    · simp [h, h2]; omega
    · simp [h, h2]; omega

theorem ad_lt {s n k : Int} (s0 : 0 ≤ s) (n0 : 0 ≤ n) (k0 : 0 ≤ k) : 0 ≤ tS s n k ∧ tS s n k ≤ 4294967295 ∧ 0 ≤ tN s n k ∧ tN s n k < 1000000000 := by
  rcases ad_cases s n k with ⟨_, e1, e2, _⟩ | ⟨_, e1, e2, _⟩ | ⟨_, e1, e2, _⟩ <;> rw [e1, e2] <;> omega

theorem ad_step {s n k m : Int} (n0 : 0 ≤ n) (k0 : 0 ≤ k) (m0 : 0 ≤ m) :
    (tE s n k ≠ 0 → tE s n (k + m) = tE s n k) ∧
    (tE s n k = 0 → tE (tS s n k) (tN s n k) m = tE s n (k + m) ∧ tS (tS s n k) (tN s n k) m = tS s n (k + m) ∧ tN (tS s n k) (tN s n k) m = tN s n (k + m)) := by
  refine ⟨fun h => ?_, fun h => ?_⟩
  · rcases ad_cases s n k with ⟨h1, _, _, _⟩ | ⟨h1, _, _, h2, h3⟩ | ⟨h1, _⟩
    · rcases ad_cases s n (k + m) with ⟨g1, _, _, _⟩ | ⟨g1, _, _, _, _⟩ | ⟨g1, _⟩ <;> omega
    · rcases ad_cases s n (k + m) with ⟨g1, _, _, _⟩ | ⟨g1, _, _, _, _⟩ | ⟨g1, _⟩ <;> omega
    · exact absurd h1 h
  · rcases ad_cases s n k with ⟨h1, _⟩ | ⟨h1, _⟩ | ⟨h1, h2, h3, h4, h5⟩
    · omega
    · omega
    · rw [h2, h3]
      clear h2 h3
      rcases ad_cases s n (k + m) with ⟨g1, g2, g3, g4⟩ | ⟨g1, g2, g3, g4, g5⟩ | ⟨g1, g2, g3, g4, g5⟩ <;>
        rcases ad_cases (s + (n + k) / 1000000000) ((n + k) % 1000000000) m with ⟨f1, f2, f3, f4⟩ | ⟨f1, f2, f3, f4, f5⟩ | ⟨f1, f2, f3, f4, f5⟩ <;> omega

theorem tls_iff {a b c d : Int} : tls a b c d = true ↔ a < c ∨ (a = c ∧ b < d) := by simp [tls]

theorem ad_later {s n k : Int} (s0 : 0 ≤ s) (n0 : 0 ≤ n) (k0 : 0 ≤ k) (h : tE s n k = 0) : tls s n (tS s n k) (tN s n k) = decide (0 < k) ∧ tok (tN s n k) = true := by
  rcases ad_cases s n k with ⟨h1, _⟩ | ⟨h1, _⟩ | ⟨h1, h2, h3, h4, h5⟩
  · omega
  · omega
  · refine ⟨?_, by simp [tok]; omega⟩
    rw [Bool.eq_iff_iff, tls_iff, h2, h3, decide_eq_true_iff]
    omega

theorem ad_not {s n k : Int} (h : tok n = false) : tE s n k = 1 ∧ tS s n k = 0 ∧ tN s n k = 0 := by
  simp [tok] at h
  rcases ad_cases s n k with ⟨h1, h2, h3, _⟩ | ⟨h1, _⟩ | ⟨h1, _⟩
  · exact ⟨h1, h2, h3⟩
  · omega
  · omega

theorem ad_yes {s n k : Int} (h : tok n = true) : tE s n k ≠ 1 := by
  simp [tok] at h
  rcases ad_cases s n k with ⟨h1, h2, h3, _⟩ | ⟨h1, _⟩ | ⟨h1, _⟩ <;> omega

theorem ad_ahead {s n t o k : Int} (n0 : 0 ≤ n) (o0 : 0 ≤ o) (k0 : 0 ≤ k) (h1 : tok n = true) (h2 : tok o = true) (h : tls s n t o = true) (hf : tE t o k = 0) :
    tE s n k = 0 ∧ tls (tS s n k) (tN s n k) (tS t o k) (tN t o k) = true := by
  simp [tok] at h1 h2
  rw [tls_iff] at *
  rcases ad_cases s n k with ⟨f1, f2, f3, f4⟩ | ⟨f1, f2, f3, f4, f5⟩ | ⟨f1, f2, f3, f4, f5⟩ <;> rcases ad_cases t o k with ⟨g1, g2, g3, g4⟩ | ⟨g1, g2, g3, g4, g5⟩ | ⟨g1, g2, g3, g4, g5⟩ <;> omega

/-- So many whole seconds; less than one. -/
theorem ad_whole {s n k : Int} (n0 : 0 ≤ n) (h : tok n = true) : (4294967295 < s + k → tE s n (k * 1000000000) = 3) ∧ (s + k ≤ 4294967295 → tE s n (k * 1000000000) = 0 ∧ tS s n (k * 1000000000) = s + k ∧ tN s n (k * 1000000000) = n) := by
  simp [tok] at h
  rcases ad_cases s n (k * 1000000000) with ⟨f1, f2, f3, f4⟩ | ⟨f1, f2, f3, f4, f5⟩ | ⟨f1, f2, f3, f4, f5⟩ <;> omega
theorem ad_part {s n k : Int} (s1 : s ≤ 4294967295) (n0 : 0 ≤ n) (k0 : 0 ≤ k) (k1 : k < 1000000000) (h : tok n = true) :
    (tE s n k = 0 ∧ ((tS s n k = s ∧ tN s n k = n + k) ∨ (tS s n k = s + 1 ∧ tN s n k + 1000000000 = n + k))) ∨ (tE s n k = 3 ∧ s = 4294967295) := by
  simp [tok] at h
  rcases ad_cases s n k with ⟨f1, f2, f3, f4⟩ | ⟨f1, f2, f3, f4, f5⟩ | ⟨f1, f2, f3, f4, f5⟩ <;> omega

theorem byt_tail {zs : List Int} (h : Byt zs) (n : Nat) : Byt (zs.drop n) := by
  intro i
  rw [List.getElem?_drop]
  exact h (n + i)
theorem tB_length (s n : Int) : (tB s n).length = 8 := by simp [tB, bytesOf_length]
theorem byt_tB (s n : Int) : Byt (tB s n) := (byt_bytesOf s 4).append (byt_bytesOf n 4)

theorem num_lt {zs : List Int} (hb : Byt zs) : 0 ≤ be (zs.take 4) ∧ be (zs.take 4) ≤ 4294967295 := by
  have h := be_nonneg (zs.take 4) (hb.take 4)
  have hl : (zs.take 4).length ≤ 4 := by simp; omega
  have : (256 : Int) ^ (zs.take 4).length ≤ 256 ^ 4 := by
    rcases (show (zs.take 4).length = 0 ∨ (zs.take 4).length = 1 ∨ (zs.take 4).length = 2 ∨ (zs.take 4).length = 3 ∨ (zs.take 4).length = 4 by omega) with e | e | e | e | e <;> rw [e] <;> decide
  have e4 : (256 : Int) ^ 4 = 4294967296 := by decide
  omega

theorem gt_lt {zs : List Int} (hb : Byt zs) : 0 ≤ gtS zs ∧ gtS zs ≤ 4294967295 ∧ 0 ≤ gtN zs ∧ gtN zs ≤ 4294967295 := by
  have h1 := num_lt hb
  have h2 := num_lt (byt_tail hb 4)
  unfold gtS gtN
  split <;> omega

theorem gt_short {zs : List Int} (h : zs.length < 8) : gtE zs = 4 ∧ gtS zs = 0 ∧ gtN zs = 0 := by simp [gtS, gtN, gtE, h]

theorem gt_form {zs : List Int} (h : ¬ zs.length < 8) (hn : 1000000000 ≤ be ((zs.drop 4).take 4)) : gtE zs = 5 ∧ gtS zs = 0 ∧ gtN zs = 0 := by simp [gtS, gtN, gtE, h, hn]
theorem gt_ok {zs : List Int} (h : ¬ zs.length < 8) (hn : ¬ 1000000000 ≤ be ((zs.drop 4).take 4)) : gtE zs = 0 ∧ gtS zs = be (zs.take 4) ∧ gtN zs = be ((zs.drop 4).take 4) := by simp [gtS, gtN, gtE, h, hn]

theorem gt_more {s n : Int} (s0 : 0 ≤ s) (s1 : s ≤ 4294967295) (n0 : 0 ≤ n) (n1 : n ≤ 4294967295) (more : List Int) :
    (tok n = false → gtE (tB s n ++ more) = 5 ∧ gtS (tB s n ++ more) = 0 ∧ gtN (tB s n ++ more) = 0) ∧ (tok n = true → gtE (tB s n ++ more) = 0 ∧ gtS (tB s n ++ more) = s ∧ gtN (tB s n ++ more) = n) := by
  have hl : ¬ (tB s n ++ more).length < 8 := by rw [List.length_append, tB_length]; omega
  have e1 : be ((tB s n ++ more).take 4) = s := by
    rw [tB, List.append_assoc, List.take_append_of_le_length (by rw [bytesOf_length]; omega), List.take_of_length_le (by rw [bytesOf_length]; omega), be_bytesOf 4 s s0 (by omega)]
  have e2 : be (((tB s n ++ more).drop 4).take 4) = n := by
    rw [tB, List.append_assoc, List.drop_append_of_le_length (by rw [bytesOf_length]; omega), List.drop_of_length_le (by rw [bytesOf_length]; omega), List.nil_append, List.take_append_of_le_length (by rw [bytesOf_length]; omega), List.take_of_length_le (by rw [bytesOf_length]; omega), be_bytesOf 4 n n0 (by omega)]
  refine ⟨fun h => gt_form hl ?_, fun h => ?_⟩
  · rw [e2]; simp [tok] at h; omega
  · have := gt_ok hl (by rw [e2]; simp [tok] at h; omega)
    rw [e1, e2] at this
    exact this

theorem be_append (xs ys : List Int) : be (xs ++ ys) = be xs * 256 ^ ys.length + be ys := by
  unfold be
  rw [List.foldl_append, fold_from ys]

theorem be_tB {s n : Int} (s0 : 0 ≤ s) (s1 : s ≤ 4294967295) (n0 : 0 ≤ n) (n1 : n ≤ 4294967295) : be (tB s n) = s * 4294967296 + n := by
  rw [tB, be_append, bytesOf_length, be_bytesOf 4 s s0 (by omega), be_bytesOf 4 n n0 (by omega)]
  rfl

/-- The bytes are in the order of the points of time. -/
theorem less_tB {s n t o : Int} (s0 : 0 ≤ s) (s1 : s ≤ 4294967295) (n0 : 0 ≤ n) (n1 : n ≤ 4294967295) (t0 : 0 ≤ t) (t1 : t ≤ 4294967295) (o0 : 0 ≤ o) (o1 : o ≤ 4294967295) :
    Op.bytesLess (strOfNums (tB s n)).toList (strOfNums (tB t o)).toList = tls s n t o := by
  have hm : ∀ s n z, z ∈ tB s n → 0 ≤ z ∧ z ≤ 255 := fun s n z hz => by
    rcases List.mem_append.1 hz with h | h <;> exact mem_bytesOf h
  rw [ByteArray.toList_eq, ByteArray.toList_eq, strOfNums_data, strOfNums_data, bytesLess_be _ _ (by rw [tB_length, tB_length]) (hm s n) (hm t o), be_tB s0 s1 n0 n1, be_tB t0 t1 o0 o1, Bool.eq_iff_iff, tls_iff, decide_eq_true_iff]
  omega

/-- What is put together in spans. -/
theorem span_sum {s n k : Int} (s0 : 0 ≤ s) (s1 : s ≤ 4294967295) (n0 : 0 ≤ n) (n1 : n < 1000000000) (k0 : 0 ≤ k) (k1 : k ≤ 18446744073709551615) :
    s + k / 1000000000 + (n + k % 1000000000) / 1000000000 = s + (n + k) / 1000000000 ∧ (n + k % 1000000000) % 1000000000 = (n + k) % 1000000000 := by omega
end Go.Proofs.YtecbhhfncklefaaDoor
