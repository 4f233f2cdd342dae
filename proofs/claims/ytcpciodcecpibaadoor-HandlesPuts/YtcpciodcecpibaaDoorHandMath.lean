/- A handle's bytes, and what bytes are of a handle, as plain mathematics: what is put is got, what is got is put so, what is changed is seen. Nothing of the program. -/
import Derived.Test.YtcpciodcecpibaaDoorSumMath
namespace Go.Proofs.YtcpciodcecpibaaDoor
set_option linter.unusedVariables false

def nz (zs : List Int) : List Nat := zs.map Int.toNat

/-- A sum of bytes, as it goes on and as it is told. -/
def sumX (zs : List Int) : Nat := smF 4294967295 (nz zs)
def sumN (zs : List Int) : Nat := sumX zs ^^^ 4294967295
def sumZ (zs : List Int) : Int := (sumN zs : Int)

/-- The bytes of two numbers, behind the text; a handle's bytes. -/
def hd (n g : Int) : List Int := [119, 104, 114, 102] ++ (bytesOf n 4 ++ bytesOf g 4)
def hB (n g : Int) : List Int := hd n g ++ bytesOf (sumZ (hd n g)) 4

/-- The two numbers of bytes. -/
def nodeOf (zs : List Int) : Int := be ((zs.drop 4).take 4)
def genOf (zs : List Int) : Int := be ((zs.drop 8).take 4)

/-- What bytes are: whether a handle's, the error, its numbers. -/
def hgok (zs : List Int) : Bool := decide (zs.length = 16) && (decide (1 ≤ nodeOf zs) && decide (nodeOf zs ≤ 1024)) && decide (zs = hB (nodeOf zs) (genOf zs))
def hgE (zs : List Int) : Int := if hgok zs then 0 else 5
def hgN (zs : List Int) : Int := if hgok zs then nodeOf zs else 0
def hgG (zs : List Int) : Int := if hgok zs then genOf zs else 0

theorem nz_lt {zs : List Int} (h : Byt zs) : ∀ c ∈ nz zs, c < 256 := by
  intro c hc
  obtain ⟨z, hz, rfl⟩ := List.mem_map.1 hc
  obtain ⟨i, hi, rfl⟩ := List.mem_iff_getElem.1 hz
  have := h i
  rw [List.getElem?_eq_getElem hi, Option.getD_some] at this
  omega

theorem nz_append (xs ys : List Int) : nz (xs ++ ys) = nz xs ++ nz ys := by simp [nz]
theorem nz_length (xs : List Int) : (nz xs).length = xs.length := by simp [nz]

theorem nz_inj : ∀ {xs ys : List Int}, Byt xs → Byt ys → nz xs = nz ys → xs = ys := by
  intro xs
  induction xs with
  | nil => intro ys _ _ h; cases ys with | nil => rfl | cons y ys => simp [nz] at h
  | cons x xs ih =>
    intro ys hx hy h
    cases ys with
    | nil => simp [nz] at h
    | cons y ys =>
      simp only [nz, List.map_cons, List.cons.injEq] at h
      have h1 := hx 0
      have h2 := hy 0
      simp only [List.getElem?_cons_zero, Option.getD_some] at h1 h2
      have h3 : Byt xs := fun i => by simpa using hx (i + 1)
      have h4 : Byt ys := fun i => by simpa using hy (i + 1)
      rw [ih h3 h4 h.2, show x = y from by omega]

theorem sumX_lt {zs : List Int} (h : Byt zs) : sumX zs < 4294967296 := smF_lt (by omega) _ (nz_lt h)

theorem sumN_lt {zs : List Int} (h : Byt zs) : sumN zs < 4294967296 := Nat.xor_lt_two_pow (n := 32) (sumX_lt h) (by omega)

theorem sumZ_lt {zs : List Int} (h : Byt zs) : 0 ≤ sumZ zs ∧ sumZ zs ≤ 4294967295 := by
  have := sumN_lt h
  unfold sumZ
  omega

theorem sumX_nil : sumX [] = 4294967295 := rfl

theorem sumX_snoc (zs : List Int) (z : Int) : sumX (zs ++ [z]) = smN 8 (sumX zs ^^^ z.toNat) := by
  unfold sumX
  rw [nz_append, smF_append]
  rfl

theorem sumZ_inj {as bs : List Int} (h : sumZ as = sumZ bs) : sumX as = sumX bs := by
  have h1 : sumN as = sumN bs := by unfold sumZ at h; omega
  unfold sumN at h1
  have h2 : sumX as ^^^ 4294967295 ^^^ 4294967295 = sumX bs ^^^ 4294967295 ^^^ 4294967295 := by rw [h1]
  rwa [Nat.xor_assoc, Nat.xor_assoc, Nat.xor_self, Nat.xor_zero, Nat.xor_zero] at h2

theorem Byt.drop' {zs : List Int} (h : Byt zs) (n : Nat) : Byt (zs.drop n) := by
  intro i
  rw [List.getElem?_drop]
  exact h _

/-- Bytes that part in up to four side by side alone have another sum. -/
theorem sumZ_part {p as bs q : List Int} (h : as.length = bs.length) (h4 : as.length ≤ 4) (hp : Byt p) (ha : Byt as) (hb : Byt bs) (hq : Byt q) (he : sumZ (p ++ (as ++ q)) = sumZ (p ++ (bs ++ q))) : as = bs := by
  have h1 := sumZ_inj he
  unfold sumX at h1
  rw [nz_append, nz_append, nz_append, nz_append] at h1
  exact nz_inj ha hb (smF_part (by omega) _ _ _ _ (by rw [nz_length, nz_length, h]) (by rw [nz_length]; exact h4) (nz_lt hp) (nz_lt ha) (nz_lt hb) (nz_lt hq) h1)

theorem byt_whrf : Byt [119, 104, 114, 102] := byt_of_all (by decide)
theorem byt_hd (n g : Int) : Byt (hd n g) := byt_whrf.append ((byt_bytesOf n 4).append (byt_bytesOf g 4))
theorem byt_hB (n g : Int) : Byt (hB n g) := (byt_hd n g).append (byt_bytesOf _ 4)
theorem hd_length (n g : Int) : (hd n g).length = 12 := by simp [hd, bytesOf_length]
theorem hB_length (n g : Int) : (hB n g).length = 16 := by simp [hB, hd_length, bytesOf_length]
theorem hB_take (n g : Int) : (hB n g).take 12 = hd n g := by
  unfold hB
  rw [List.take_append_of_le_length (by rw [hd_length]; omega), List.take_of_length_le (by rw [hd_length]; omega)]
theorem hB_drop (n g : Int) : (hB n g).drop 12 = bytesOf (sumZ (hd n g)) 4 := by
  unfold hB
  rw [List.drop_append_of_le_length (by rw [hd_length]; omega), List.drop_of_length_le (by rw [hd_length]; omega), List.nil_append]
theorem hd_take (n g : Int) : (hd n g).take 4 = [119, 104, 114, 102] := by simp [hd]
theorem hd_drop4 (n g : Int) : (hd n g).drop 4 = bytesOf n 4 ++ bytesOf g 4 := by simp [hd]
theorem hB_drop4 (n g : Int) : (hB n g).drop 4 = bytesOf n 4 ++ (bytesOf g 4 ++ bytesOf (sumZ (hd n g)) 4) := by simp [hB, hd]
theorem hB_drop8 (n g : Int) : (hB n g).drop 8 = bytesOf g 4 ++ bytesOf (sumZ (hd n g)) 4 := by
  rw [show 8 = 4 + 4 from rfl, ← List.drop_drop, hB_drop4, List.drop_append_of_le_length (by rw [bytesOf_length]; omega), List.drop_of_length_le (by rw [bytesOf_length]; omega), List.nil_append]

theorem nodeOf_hB (n g : Int) (h0 : 0 ≤ n) (h1 : n ≤ 4294967295) : nodeOf (hB n g) = n := by
  unfold nodeOf
  rw [hB_drop4, List.take_append_of_le_length (by rw [bytesOf_length]; omega), List.take_of_length_le (by rw [bytesOf_length]; omega), be_bytesOf 4 n h0 (by omega)]
theorem genOf_hB (n g : Int) (h0 : 0 ≤ g) (h1 : g ≤ 4294967295) : genOf (hB n g) = g := by
  unfold genOf
  rw [hB_drop8, List.take_append_of_le_length (by rw [bytesOf_length]; omega), List.take_of_length_le (by rw [bytesOf_length]; omega), be_bytesOf 4 g h0 (by omega)]

theorem num4 {zs : List Int} (hb : Byt zs) (h : zs.length ≤ 4) : 0 ≤ be zs ∧ be zs ≤ 4294967295 := by
  have h1 := be_nonneg zs hb
  have h2 : (256 : Int) ^ zs.length ≤ 256 ^ 4 := by
    generalize hl : zs.length = k at h
    match k, h with
    | 0, _ => decide
    | 1, _ => decide
    | 2, _ => decide
    | 3, _ => decide
    | 4, _ => decide
  omega
theorem nodeOf_lt {zs : List Int} (hb : Byt zs) : 0 ≤ nodeOf zs ∧ nodeOf zs ≤ 4294967295 := num4 ((hb.drop' 4).take 4) (by simp; omega)
theorem genOf_lt {zs : List Int} (hb : Byt zs) : 0 ≤ genOf zs ∧ genOf zs ≤ 4294967295 := num4 ((hb.drop' 8).take 4) (by simp; omega)

theorem hgok_hB {n g : Int} (h0 : 1 ≤ n) (h1 : n ≤ 1024) (h2 : 0 ≤ g) (h3 : g ≤ 4294967295) : hgok (hB n g) = true := by
  unfold hgok
  rw [nodeOf_hB n g (by omega) (by omega), genOf_hB n g h2 h3, hB_length]
  simp [h0, h1]

theorem hg_put {n g : Int} (h0 : 1 ≤ n) (h1 : n ≤ 1024) (h2 : 0 ≤ g) (h3 : g ≤ 4294967295) : hgE (hB n g) = 0 ∧ hgN (hB n g) = n ∧ hgG (hB n g) = g := by
  have h := hgok_hB h0 h1 h2 h3
  unfold hgE hgN hgG
  rw [h, nodeOf_hB n g (by omega) (by omega), genOf_hB n g h2 h3]
  exact ⟨rfl, rfl, rfl⟩

theorem hg_bad {zs : List Int} (h : hgok zs = false) : hgE zs = 5 ∧ hgN zs = 0 ∧ hgG zs = 0 := by
  unfold hgE hgN hgG
  rw [h]
  exact ⟨rfl, rfl, rfl⟩

theorem hg_ok {zs : List Int} (h : hgok zs = true) : zs.length = 16 ∧ 1 ≤ nodeOf zs ∧ nodeOf zs ≤ 1024 ∧ zs = hB (nodeOf zs) (genOf zs) := by
  unfold hgok at h
  simp only [Bool.and_eq_true, decide_eq_true_eq] at h
  exact ⟨h.1.1, h.1.2.1, h.1.2.2, h.2⟩

theorem hg_len {zs : List Int} (h : zs.length ≠ 16) : hgok zs = false := by
  cases hk : hgok zs with
  | false => rfl
  | true => exact absurd (hg_ok hk).1 h

theorem hg_again {zs : List Int} (hb : Byt zs) : (hgE zs = 0 ∧ zs = hB (hgN zs) (hgG zs) ∧ 1 ≤ hgN zs ∧ hgN zs ≤ 1024 ∧ 0 ≤ hgG zs ∧ hgG zs ≤ 4294967295) ∨ (hgE zs = 5 ∧ hgN zs = 0 ∧ hgG zs = 0) := by
  cases hk : hgok zs with
  | false => exact .inr (hg_bad hk)
  | true =>
    obtain ⟨h1, h2, h3, h4⟩ := hg_ok hk
    have h5 := genOf_lt hb
    refine .inl ?_
    have e1 : hgN zs = nodeOf zs := by unfold hgN; rw [hk]; rfl
    have e2 : hgG zs = genOf zs := by unfold hgG; rw [hk]; rfl
    have e3 : hgE zs = 0 := by unfold hgE; rw [hk]; rfl
    rw [e1, e2, e3]
    exact ⟨rfl, h4, h2, h3, h5.1, h5.2⟩

/-- Bytes of two handles that part in up to four side by side among the first twelve, or among the last four, are alike. -/
theorem hB_part {n g n' g' : Int} {p as bs q : List Int} (h : as.length = bs.length) (h4 : as.length ≤ 4) (he : hB n g = p ++ (as ++ q)) (he' : hB n' g' = p ++ (bs ++ q)) (hw : p.length + as.length ≤ 12 ∨ 12 ≤ p.length) : as = bs := by
  have hbt := byt_hB n g
  have hbt' := byt_hB n' g'
  have hlen := hB_length n g
  rw [he] at hbt hlen
  rw [he'] at hbt'
  have hp : Byt p := by have := hbt.take p.length; rwa [List.take_left] at this
  have haq : Byt (as ++ q) := by have := hbt.drop' p.length; rwa [List.drop_left] at this
  have hbq : Byt (bs ++ q) := by have := hbt'.drop' p.length; rwa [List.drop_left] at this
  have ha : Byt as := by have := haq.take as.length; rwa [List.take_left] at this
  have hb : Byt bs := by have := hbq.take bs.length; rwa [List.take_left] at this
  have hq : Byt q := by have := haq.drop' as.length; rwa [List.drop_left] at this
  simp only [List.length_append] at hlen
  have k1 := hB_drop n g
  have k2 := hB_drop n' g'
  have k3 := hB_take n g
  have k4 := hB_take n' g'
  rw [he] at k1 k3
  rw [he'] at k2 k4
  have s1 := sumZ_lt (byt_hd n g)
  have s2 := sumZ_lt (byt_hd n' g')
  rcases hw with hw | hw
  · have hs : sumZ (hd n g) = sumZ (hd n' g') := by
      rw [List.drop_append, List.drop_append] at k1 k2
      rw [List.drop_of_length_le (show p.length ≤ 12 by omega), List.nil_append, List.drop_of_length_le (by omega), List.nil_append] at k1 k2
      rw [h] at k1
      rw [← be_bytesOf 4 (sumZ (hd n g)) s1.1 (by omega), ← be_bytesOf 4 (sumZ (hd n' g')) s2.1 (by omega), ← k1, ← k2]
    rw [← k3, ← k4] at hs
    rw [List.take_append, List.take_append, List.take_append, List.take_append] at hs
    rw [List.take_of_length_le (show p.length ≤ 12 by omega), List.take_of_length_le (show as.length ≤ 12 - p.length by omega), List.take_of_length_le (show bs.length ≤ 12 - p.length by omega), h] at hs
    exact sumZ_part h h4 hp ha hb (hq.take _) hs
  · have hh : hd n g = hd n' g' := by
      rw [← k3, ← k4, List.take_append_of_le_length hw, List.take_append_of_le_length hw]
    have : hB n g = hB n' g' := by unfold hB; rw [hh]
    rw [he, he'] at this
    exact List.append_cancel_right (List.append_cancel_left this)

/-- Two handles' bytes are alike just if they are. -/
theorem hB_inj {n g n' g' : Int} (h0 : 0 ≤ n) (h1 : n ≤ 4294967295) (h2 : 0 ≤ g) (h3 : g ≤ 4294967295) (k0 : 0 ≤ n') (k1 : n' ≤ 4294967295) (k2 : 0 ≤ g') (k3 : g' ≤ 4294967295) (h : hB n g = hB n' g') : n = n' ∧ g = g' := by
  have e1 := nodeOf_hB n g h0 h1
  have e2 := genOf_hB n g h2 h3
  rw [h, nodeOf_hB n' g' k0 k1] at e1
  rw [h, genOf_hB n' g' k2 k3] at e2
  exact ⟨e1.symm, e2.symm⟩

theorem be4_inj {x y : Int} (h0 : 0 ≤ x) (h1 : x ≤ 4294967295) (k0 : 0 ≤ y) (k1 : y ≤ 4294967295) (h : bytesOf x 4 = bytesOf y 4) : x = y := by
  rw [← be_bytesOf 4 x h0 (by omega), ← be_bytesOf 4 y k0 (by omega), h]

/-- If one number alone is another one, the sums part. -/
theorem sums_node {n g n' : Int} (h0 : 0 ≤ n) (h1 : n ≤ 4294967295) (k0 : 0 ≤ n') (k1 : n' ≤ 4294967295) (h : (hB n g).drop 12 = (hB n' g).drop 12) : n = n' := by
  rw [hB_drop, hB_drop] at h
  have hs := be4_inj (sumZ_lt (byt_hd n g)).1 (sumZ_lt (byt_hd n g)).2 (sumZ_lt (byt_hd n' g)).1 (sumZ_lt (byt_hd n' g)).2 h
  unfold hd at hs
  exact be4_inj h0 h1 k0 k1 (sumZ_part (by rw [bytesOf_length, bytesOf_length]) (by rw [bytesOf_length]; omega) byt_whrf (byt_bytesOf _ _) (byt_bytesOf _ _) (byt_bytesOf _ _) hs)
theorem sums_gen {n g g' : Int} (h0 : 0 ≤ g) (h1 : g ≤ 4294967295) (k0 : 0 ≤ g') (k1 : g' ≤ 4294967295) (h : (hB n g).drop 12 = (hB n g').drop 12) : g = g' := by
  rw [hB_drop, hB_drop] at h
  have hs := be4_inj (sumZ_lt (byt_hd n g)).1 (sumZ_lt (byt_hd n g)).2 (sumZ_lt (byt_hd n g')).1 (sumZ_lt (byt_hd n g')).2 h
  unfold hd at hs
  rw [← List.append_assoc, ← List.append_assoc] at hs
  have e : ∀ x : List Int, x = x ++ [] := fun x => by simp
  rw [e (bytesOf g 4), e (bytesOf g' 4)] at hs
  exact be4_inj h0 h1 k0 k1 (sumZ_part (by rw [bytesOf_length, bytesOf_length]) (by rw [bytesOf_length]; omega) (byt_whrf.append (byt_bytesOf _ _)) (byt_bytesOf _ _) (byt_bytesOf _ _) (byt_of_all (by simp)) hs)

/-- The sums of four handles, two by two, against one another. -/
theorem sums_four (n m g k : Int) : sumN (hd n g) ^^^ sumN (hd m g) ^^^ sumN (hd n k) ^^^ sumN (hd m k) = 0 := by
  have h := smF_pairs (smF 4294967295 (nz [119, 104, 114, 102])) (nz (bytesOf n 4)) (nz (bytesOf m 4)) (nz (bytesOf g 4)) (nz (bytesOf k 4)) (by simp [nz_length, bytesOf_length]) (by simp [nz_length, bytesOf_length])
  have e : ∀ x y : Int, sumX (hd x y) = smF (smF 4294967295 (nz [119, 104, 114, 102])) (nz (bytesOf x 4) ++ nz (bytesOf y 4)) := by
    intro x y
    unfold sumX hd
    rw [nz_append, nz_append, smF_append]
  rw [← e, ← e, ← e, ← e] at h
  unfold sumN
  revert h
  generalize sumX (hd n g) = A
  generalize sumX (hd m g) = B
  generalize sumX (hd n k) = C
  generalize sumX (hd m k) = D
  intro h
  have : A ^^^ 4294967295 ^^^ (B ^^^ 4294967295) ^^^ (C ^^^ 4294967295) ^^^ (D ^^^ 4294967295) = A ^^^ B ^^^ C ^^^ D := by
    refine Nat.eq_of_testBit_eq fun i => ?_
    simp only [Nat.testBit_xor]
    cases A.testBit i <;> cases B.testBit i <;> cases C.testBit i <;> cases D.testBit i <;> cases Nat.testBit 4294967295 i <;> rfl
  rw [this, h]
end Go.Proofs.YtcpciodcecpibaaDoor
