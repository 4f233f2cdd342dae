/- Messages in fragments: plain mathematics of lists; nothing of the program. -/
import Derived.Test.YtmjjoiljdcjhdaaDoorBytes
namespace Go.Proofs.YtmjjoiljdcjhdaaDoor
set_option linter.unusedVariables false

/-- The number ahead; how many bytes it tells; whether the message ends there; those bytes. -/
def markN (zs : List Int) : Nat := (be (zs.take 4)).toNat
def markK (zs : List Int) : Nat := markN zs % 2147483648
def markL (zs : List Int) : Bool := decide (2147483648 ≤ markN zs)
def piece (zs : List Int) : List Int := (zs.drop 4).take (markK zs)

/-- The error of the first fragment. -/
def frE (most : Nat) (zs : List Int) : Int :=
  if zs.length < 4 then 4 else if markN zs = 0 then 5 else if most < markK zs then 3 else if zs.length - 4 < markK zs then 4 else 0

/-- A fragment ahead of what follows. -/
def glue (p : List Int) (n : Nat) (r : Int × List Int × Nat) : Int × List Int × Nat := if r.1 = 0 then (0, p ++ r.2.1, n + r.2.2) else (r.1, [], 0)

def mgF : Nat → Nat → List Int → Int × List Int × Nat
  | 0, _, _ => (4, [], 0)
  | f + 1, most, zs => if frE most zs ≠ 0 then (frE most zs, [], 0) else if markL zs = true then (0, piece zs, 4 + markK zs) else glue (piece zs) (4 + markK zs) (mgF f (most - markK zs) (zs.drop (4 + markK zs)))

/-- The first message of bytes, of at most so many: the error, the message, how many bytes it has. -/
def mg (most : Nat) (zs : List Int) : Int × List Int × Nat := mgF zs.length most zs

theorem frE_ok {most : Nat} {zs : List Int} (h : frE most zs = 0) : 4 + markK zs ≤ zs.length ∧ markK zs ≤ most ∧ markN zs ≠ 0 := by
  unfold frE at h
  split at h
  · cases h
  · split at h
    · cases h
    · split at h
      · cases h
      · split at h
        · cases h
        · omega

theorem frE_nil (most : Nat) (zs : List Int) (h : zs.length < 4) : frE most zs = 4 := by rw [frE, if_pos h]

theorem piece_length {most : Nat} {zs : List Int} (h : frE most zs = 0) : (piece zs).length = markK zs := by
  have := frE_ok h
  rw [piece, List.length_take, List.length_drop]
  omega

theorem mgF_same (f g most : Nat) (zs : List Int) (hf : zs.length ≤ f) (hg : zs.length ≤ g) : mgF f most zs = mgF g most zs := by
  induction f generalizing g most zs with
  | zero =>
    cases g with
    | zero => rfl
    | succ g =>
      have h4 := frE_nil most zs (by omega)
      rw [mgF, mgF, h4]
      rfl
  | succ f ih =>
    cases g with
    | zero =>
      have h4 := frE_nil most zs (by omega)
      rw [mgF, mgF, h4]
      rfl
    | succ g =>
      rw [mgF, mgF]
      by_cases h : frE most zs ≠ 0
      · rw [if_pos h, if_pos h]
      · rw [if_neg h, if_neg h]
        have hk := frE_ok (Decidable.of_not_not h)
        rw [ih g (most - markK zs) (zs.drop (4 + markK zs)) (by rw [List.length_drop]; omega) (by rw [List.length_drop]; omega)]

theorem mg_eq (most : Nat) (zs : List Int) : mg most zs = if frE most zs ≠ 0 then (frE most zs, [], 0) else if markL zs = true then (0, piece zs, 4 + markK zs) else glue (piece zs) (4 + markK zs) (mg (most - markK zs) (zs.drop (4 + markK zs))) := by
  unfold mg
  rw [mgF_same zs.length (zs.length + 1) most zs (Nat.le_refl _) (by omega), mgF]
  by_cases h : frE most zs ≠ 0
  · rw [if_pos h, if_pos h]
  · rw [if_neg h, if_neg h]
    have hk := frE_ok (Decidable.of_not_not h)
    rw [mgF_same zs.length (zs.drop (4 + markK zs)).length _ _ (by rw [List.length_drop]; omega) (Nat.le_refl _)]

theorem mg_bad {most : Nat} {zs : List Int} (h : frE most zs ≠ 0) : mg most zs = (frE most zs, [], 0) := by rw [mg_eq, if_pos h]
theorem mg_last {most : Nat} {zs : List Int} (h : frE most zs = 0) (hl : markL zs = true) : mg most zs = (0, piece zs, 4 + markK zs) := by rw [mg_eq, if_neg (by simp [h]), if_pos hl]
theorem mg_more {most : Nat} {zs : List Int} (h : frE most zs = 0) (hl : markL zs = false) : mg most zs = glue (piece zs) (4 + markK zs) (mg (most - markK zs) (zs.drop (4 + markK zs))) := by rw [mg_eq, if_neg (by simp [h]), if_neg (by simp [hl])]

theorem glue_glue (p q : List Int) (n m : Nat) (r : Int × List Int × Nat) : glue p n (glue q m r) = glue (p ++ q) (n + m) r := by
  unfold glue
  by_cases h : r.1 = 0
  · simp [h, Nat.add_assoc]
  · simp [h]

theorem glue_end (p q : List Int) (n m : Nat) : glue p n (0, q, m) = (0, p ++ q, n + m) := rfl
theorem glue_bad (p : List Int) (n : Nat) (e : Int) (q : List Int) (m : Nat) (h : e ≠ 0) : glue p n (e, q, m) = (e, [], 0) := by simp [glue, h]

/-- An induction over the fragments. -/
theorem mg_induct {Q : Nat → List Int → Prop} (bad : ∀ most zs, frE most zs ≠ 0 → Q most zs) (last : ∀ most zs, frE most zs = 0 → markL zs = true → Q most zs)
    (more : ∀ most zs, frE most zs = 0 → markL zs = false → Q (most - markK zs) (zs.drop (4 + markK zs)) → Q most zs) (most : Nat) (zs : List Int) : Q most zs := by
  obtain ⟨n, hn⟩ : ∃ n, zs.length ≤ n := ⟨_, Nat.le_refl _⟩
  induction n generalizing most zs with
  | zero => exact bad _ _ (by rw [frE_nil _ _ (by omega)]; decide)
  | succ n ih =>
    by_cases h : frE most zs = 0
    · have hk := frE_ok h
      cases hl : markL zs with
      | true => exact last _ _ h hl
      | false => exact more _ _ h hl (ih _ _ (by rw [List.length_drop]; omega))
    · exact bad _ _ h

theorem mg_norm (most : Nat) (zs : List Int) : (mg most zs).1 ≠ 0 → mg most zs = ((mg most zs).1, [], 0) := by
  refine mg_induct (Q := fun most zs => (mg most zs).1 ≠ 0 → mg most zs = ((mg most zs).1, [], 0)) ?_ ?_ ?_ most zs
  · intro most zs h _
    rw [mg_bad h]
  · intro most zs h hl h0
    rw [mg_last h hl] at h0
    simp at h0
  · intro most zs h hl _ h0
    rw [mg_more h hl] at h0 ⊢
    unfold glue at *
    split
    · rename_i h1
      rw [if_pos h1] at h0
      simp at h0
    · rfl

theorem glue_none (most : Nat) (zs : List Int) : glue [] 0 (mg most zs) = mg most zs := by
  by_cases h : (mg most zs).1 = 0
  · unfold glue
    rw [if_pos h]
    simp
    rw [← h]
  · rw [mg_norm most zs h]
    exact glue_bad _ _ _ _ _ h

/-- A message that is got: how many bytes it has. -/
theorem mg_size (most : Nat) (zs : List Int) : (mg most zs).1 = 0 → (mg most zs).2.2 ≤ zs.length ∧ (mg most zs).2.1.length + 4 ≤ (mg most zs).2.2 ∧ (mg most zs).2.1.length ≤ most := by
  refine mg_induct (Q := fun most zs => (mg most zs).1 = 0 → (mg most zs).2.2 ≤ zs.length ∧ (mg most zs).2.1.length + 4 ≤ (mg most zs).2.2 ∧ (mg most zs).2.1.length ≤ most) ?_ ?_ ?_ most zs
  · intro most zs h h0
    rw [mg_bad h] at h0
    exact absurd h0 h
  · intro most zs h hl _
    have hk := frE_ok h
    rw [mg_last h hl]
    simp only [piece_length h]
    omega
  · intro most zs h hl ih h0
    have hk := frE_ok h
    rw [mg_more h hl] at h0 ⊢
    generalize mg (most - markK zs) (zs.drop (4 + markK zs)) = r at *
    unfold glue at *
    by_cases h1 : r.1 = 0
    · have := ih h1
      rw [if_pos h1]
      simp only [List.length_append, piece_length h]
      rw [List.length_drop] at this
      omega
    · rw [if_neg h1] at h0
      exact absurd h0 h1

theorem mg_zero (most : Nat) (zs : List Int) (h : (mg most zs).1 ≠ 0) : (mg most zs).2.1 = [] ∧ (mg most zs).2.2 = 0 := by
  rw [mg_norm most zs h]
  exact ⟨rfl, rfl⟩

theorem mg_len (most : Nat) (zs : List Int) : (mg most zs).2.2 ≤ zs.length ∧ (mg most zs).2.1.length ≤ zs.length ∧ (mg most zs).2.1.length ≤ most := by
  by_cases h : (mg most zs).1 = 0
  · have := mg_size most zs h
    omega
  · have := mg_zero most zs h
    rw [this.1, this.2]
    simp

theorem frE_cases (most : Nat) (zs : List Int) : frE most zs = 0 ∨ frE most zs = 3 ∨ frE most zs = 4 ∨ frE most zs = 5 := by
  unfold frE
  split
  · simp
  · split
    · simp
    · split
      · simp
      · split <;> simp

theorem mg_cases (most : Nat) (zs : List Int) : (mg most zs).1 = 0 ∨ (mg most zs).1 = 3 ∨ (mg most zs).1 = 4 ∨ (mg most zs).1 = 5 := by
  refine mg_induct (Q := fun most zs => (mg most zs).1 = 0 ∨ (mg most zs).1 = 3 ∨ (mg most zs).1 = 4 ∨ (mg most zs).1 = 5) ?_ ?_ ?_ most zs
  · intro most zs h
    rw [mg_bad h]
    exact frE_cases most zs
  · intro most zs h hl
    rw [mg_last h hl]
    simp
  · intro most zs h hl ih
    rw [mg_more h hl]
    unfold glue
    split
    · simp
    · exact ih

theorem byt_drop {zs : List Int} (h : Byt zs) (n : Nat) : Byt (zs.drop n) := by
  intro i
  rw [List.getElem?_drop]
  exact h _

theorem byt_mg (most : Nat) (zs : List Int) : Byt zs → Byt (mg most zs).2.1 := by
  refine mg_induct (Q := fun most zs => Byt zs → Byt (mg most zs).2.1) ?_ ?_ ?_ most zs
  · intro most zs h _
    rw [mg_bad h]
    exact fun i => by simp
  · intro most zs h hl hb
    rw [mg_last h hl]
    exact (byt_drop hb 4).take _
  · intro most zs h hl ih hb
    rw [mg_more h hl]
    unfold glue
    split
    · exact ((byt_drop hb 4).take _).append (ih (byt_drop hb _))
    · exact fun i => by simp

/-! More bytes. -/
theorem markN_more (zs ys : List Int) (h : ¬ zs.length < 4) : markN (zs ++ ys) = markN zs := by
  unfold markN
  rw [List.take_append_of_le_length (by omega)]

theorem frE_more (most : Nat) (zs ys : List Int) (h : frE most zs ≠ 4) : frE most (zs ++ ys) = frE most zs ∧ markK (zs ++ ys) = markK zs ∧ markL (zs ++ ys) = markL zs := by
  by_cases h4 : zs.length < 4
  · exact absurd (frE_nil most zs h4) h
  · have hn := markN_more zs ys h4
    have hk : markK (zs ++ ys) = markK zs := by unfold markK; rw [hn]
    refine ⟨?_, hk, by unfold markL; rw [hn]⟩
    unfold frE at *
    rw [if_neg h4] at h ⊢
    rw [if_neg (by rw [List.length_append]; omega), hn, hk]
    split
    · rfl
    · rename_i h5
      rw [if_neg h5] at h
      split
      · rfl
      · rename_i h6
        rw [if_neg h6] at h
        split at h
        · exact absurd rfl h
        · rename_i h7
          rw [if_neg h7, if_neg (by rw [List.length_append]; omega)]

theorem mg_on (most : Nat) (zs ys : List Int) : (mg most zs).1 ≠ 4 → mg most (zs ++ ys) = mg most zs := by
  refine mg_induct (Q := fun most zs => (mg most zs).1 ≠ 4 → mg most (zs ++ ys) = mg most zs) ?_ ?_ ?_ most zs
  · intro most zs h h4
    rw [mg_bad h] at h4 ⊢
    obtain ⟨e1, _, _⟩ := frE_more most zs ys h4
    rw [mg_bad (by rw [e1]; exact h), e1]
  · intro most zs h hl _
    obtain ⟨e1, e2, e3⟩ := frE_more most zs ys (by rw [h]; decide)
    have hk := frE_ok h
    rw [mg_last h hl, mg_last (by rw [e1]; exact h) (by rw [e3]; exact hl), e2]
    congr 2
    unfold piece
    rw [e2, List.drop_append_of_le_length (by omega), List.take_append_of_le_length (by rw [List.length_drop]; omega)]
  · intro most zs h hl ih h4
    obtain ⟨e1, e2, e3⟩ := frE_more most zs ys (by rw [h]; decide)
    have hk := frE_ok h
    have hp : piece (zs ++ ys) = piece zs := by
      unfold piece
      rw [e2, List.drop_append_of_le_length (by omega), List.take_append_of_le_length (by rw [List.length_drop]; omega)]
    rw [mg_more (by rw [e1]; exact h) (by rw [e3]; exact hl), hp, e2, List.drop_append_of_le_length (by omega), mg_more h hl]
    rw [mg_more h hl] at h4
    rw [ih ?_]
    intro h5
    rw [glue, if_neg (by rw [h5]; decide)] at h4
    exact h4 h5

theorem mg_short (most : Nat) (zs : List Int) (k : Nat) (h : (mg most zs).1 = 0) (hk : k < (mg most zs).2.2) : (mg most (zs.take k)).1 = 4 := by
  by_cases h4 : (mg most (zs.take k)).1 = 4
  · exact h4
  · have e := mg_on most (zs.take k) (zs.drop k) h4
    rw [List.take_append_drop] at e
    rw [e] at h hk
    have := (mg_size most _ h).1
    rw [List.length_take] at this
    omega

/-! What is put. -/
/-- A fragment of bytes. -/
def frag (last : Bool) (zs : List Int) : List Int := bytesOf ((if last then 2147483648 else 0) + zs.length : Int) 4 ++ zs

def cutF : Nat → Nat → List Int → List Int
  | 0, _, zs => frag true zs
  | f + 1, size, zs => if zs.length ≤ size then frag true zs else frag false (zs.take size) ++ cutF f size (zs.drop size)

/-- A message in fragments of so many bytes. -/
def cutB (size : Nat) (zs : List Int) : List Int := cutF zs.length size zs

theorem cutF_same (f g size : Nat) (zs : List Int) (hs : 1 ≤ size) (hf : zs.length ≤ f) (hg : zs.length ≤ g) : cutF f size zs = cutF g size zs := by
  induction f generalizing g zs with
  | zero =>
    cases g with
    | zero => rfl
    | succ g => rw [cutF, cutF, if_pos (by omega)]
  | succ f ih =>
    cases g with
    | zero => rw [cutF, cutF, if_pos (by omega)]
    | succ g =>
      rw [cutF, cutF]
      by_cases h : zs.length ≤ size
      · rw [if_pos h, if_pos h]
      · rw [if_neg h, if_neg h, ih g (zs.drop size) (by rw [List.length_drop]; omega) (by rw [List.length_drop]; omega)]

theorem cutB_end (size : Nat) (zs : List Int) (h : zs.length ≤ size) : cutB size zs = frag true zs := by
  unfold cutB
  cases hz : zs.length with
  | zero => rfl
  | succ n => rw [cutF, if_pos h]

theorem cutB_more (size : Nat) (zs : List Int) (hs : 1 ≤ size) (h : ¬ zs.length ≤ size) : cutB size zs = frag false (zs.take size) ++ cutB size (zs.drop size) := by
  unfold cutB
  rw [cutF_same zs.length (zs.length + 1) size zs hs (Nat.le_refl _) (by omega), cutF, if_neg h]
  rw [cutF_same zs.length (zs.drop size).length size (zs.drop size) hs (by rw [List.length_drop]; omega) (Nat.le_refl _)]

theorem frag_length (l : Bool) (zs : List Int) : (frag l zs).length = 4 + zs.length := by rw [frag, List.length_append, bytesOf_length]

theorem byt_frag {zs : List Int} (h : Byt zs) (l : Bool) : Byt (frag l zs) := (byt_bytesOf _ 4).append h

theorem mark_frag (l : Bool) (zs ys : List Int) (h : zs.length < 2147483648) : markN (frag l zs ++ ys) = (if l then 2147483648 else 0) + zs.length := by
  unfold markN frag
  rw [List.append_assoc, List.take_left' (bytesOf_length _ 4)]
  cases l
  · rw [be_bytesOf 4 _ (by simp) (by simp; omega)]
    simp
  · rw [be_bytesOf 4 _ (by simp; omega) (by simp; omega)]
    simp
    omega

theorem frag_parts (l : Bool) (zs ys : List Int) (h : zs.length < 2147483648) : markK (frag l zs ++ ys) = zs.length ∧ markL (frag l zs ++ ys) = l ∧ piece (frag l zs ++ ys) = zs ∧ (frag l zs ++ ys).drop (4 + zs.length) = ys := by
  have hn := mark_frag l zs ys h
  have hk : markK (frag l zs ++ ys) = zs.length := by
    unfold markK
    rw [hn]
    cases l
    · simp; omega
    · simp; omega
  refine ⟨hk, ?_, ?_, ?_⟩
  · unfold markL
    rw [hn]
    cases l
    · simp; omega
    · simp
  · unfold piece
    rw [hk, frag, List.append_assoc, List.drop_left' (bytesOf_length _ 4), List.take_left' rfl]
  · exact List.drop_left' (frag_length l zs)

theorem mg_frag (most : Nat) (zs ys : List Int) (h : zs.length ≤ most) (hm : most < 2147483648) : mg most (frag true zs ++ ys) = (0, zs, 4 + zs.length) := by
  obtain ⟨h1, h2, h3, h4⟩ := frag_parts true zs ys (by omega)
  have hn := mark_frag true zs ys (by omega)
  have hf : frE most (frag true zs ++ ys) = 0 := by
    unfold frE
    have hl : (frag true zs ++ ys).length = 4 + zs.length + ys.length := by rw [List.length_append, frag_length]
    rw [if_neg (by omega), if_neg (by rw [hn]; simp), h1, if_neg (by omega), if_neg (by omega)]
  rw [mg_last hf h2, h3, h1]

theorem mg_cut (most size : Nat) (zs ys : List Int) (hs : 1 ≤ size) (h : zs.length ≤ most) (hm : most < 2147483648) : mg most (cutB size zs ++ ys) = (0, zs, (cutB size zs).length) := by
  obtain ⟨n, hn⟩ : ∃ n, zs.length ≤ n := ⟨_, Nat.le_refl _⟩
  induction n generalizing most zs with
  | zero => rw [cutB_end _ _ (by omega), mg_frag most zs ys h hm, frag_length]
  | succ n ih =>
    by_cases hz : zs.length ≤ size
    · rw [cutB_end _ _ hz, mg_frag most zs ys h hm, frag_length]
    · have ht : (zs.take size).length = size := by rw [List.length_take]; omega
      rw [cutB_more _ _ hs hz, List.append_assoc]
      obtain ⟨h1, h2, h3, h4⟩ := frag_parts false (zs.take size) (cutB size (zs.drop size) ++ ys) (by omega)
      have hk := mark_frag false (zs.take size) (cutB size (zs.drop size) ++ ys) (by omega)
      have hf : frE most (frag false (zs.take size) ++ (cutB size (zs.drop size) ++ ys)) = 0 := by
        unfold frE
        have hl : (frag false (zs.take size) ++ (cutB size (zs.drop size) ++ ys)).length = 4 + size + (cutB size (zs.drop size) ++ ys).length := by rw [List.length_append, frag_length, ht]
        rw [if_neg (by omega), if_neg (by rw [hk, ht]; simp; omega), h1, ht, if_neg (by omega), if_neg (by omega)]
      rw [mg_more hf h2, h3, h1, h4, ih (most - (zs.take size).length) (zs.drop size) (by rw [List.length_drop]; omega) (by omega) (by rw [List.length_drop]; omega), glue_end, List.take_append_drop, List.length_append, frag_length]

theorem cut_length (size : Nat) (zs : List Int) (hs : 1 ≤ size) : 4 + zs.length ≤ (cutB size zs).length ∧ (cutB size zs).length ≤ 4 + 5 * zs.length := by
  obtain ⟨n, hn⟩ : ∃ n, zs.length ≤ n := ⟨_, Nat.le_refl _⟩
  induction n generalizing zs with
  | zero => rw [cutB_end _ _ (by omega), frag_length]; omega
  | succ n ih =>
    by_cases hz : zs.length ≤ size
    · rw [cutB_end _ _ hz, frag_length]; omega
    · have ht : (zs.take size).length = size := by rw [List.length_take]; omega
      have := ih (zs.drop size) (by rw [List.length_drop]; omega)
      rw [cutB_more _ _ hs hz, List.length_append, frag_length, ht]
      rw [List.length_drop] at this
      omega

theorem byt_cut {zs : List Int} (hb : Byt zs) (size : Nat) (hs : 1 ≤ size) : Byt (cutB size zs) := by
  obtain ⟨n, hn⟩ : ∃ n, zs.length ≤ n := ⟨_, Nat.le_refl _⟩
  induction n generalizing zs with
  | zero => rw [cutB_end _ _ (by omega)]; exact byt_frag hb _
  | succ n ih =>
    by_cases hz : zs.length ≤ size
    · rw [cutB_end _ _ hz]; exact byt_frag hb _
    · rw [cutB_more _ _ hs hz]
      exact (byt_frag (hb.take _) _).append (ih (byt_drop hb _) (by rw [List.length_drop]; omega))

/-! All messages. -/
def maF : Nat → List Int → List (List Int) × Nat × Int
  | 0, _ => ([], 0, 0)
  | f + 1, zs => if (mg 65536 zs).1 = 0 then ((mg 65536 zs).2.1 :: (maF f (zs.drop (mg 65536 zs).2.2)).1, (mg 65536 zs).2.2 + (maF f (zs.drop (mg 65536 zs).2.2)).2.1, (maF f (zs.drop (mg 65536 zs).2.2)).2.2)
    else if (mg 65536 zs).1 = 4 then ([], 0, 0) else ([], 0, (mg 65536 zs).1)

/-- All messages; how many bytes they have; the error of the next. -/
def mall (zs : List Int) : List (List Int) × Nat × Int := maF zs.length zs

theorem mg_none (most : Nat) (zs : List Int) (h : zs.length < 4) : mg most zs = (4, [], 0) := by
  have := frE_nil most zs h
  rw [mg_bad (by rw [this]; decide), this]

theorem maF_same (f g : Nat) (zs : List Int) (hf : zs.length ≤ f) (hg : zs.length ≤ g) : maF f zs = maF g zs := by
  induction f generalizing g zs with
  | zero =>
    cases g with
    | zero => rfl
    | succ g => rw [maF, maF, mg_none _ _ (by omega)]; rfl
  | succ f ih =>
    cases g with
    | zero => rw [maF, maF, mg_none _ _ (by omega)]; rfl
    | succ g =>
      rw [maF, maF]
      by_cases h : (mg 65536 zs).1 = 0
      · rw [if_pos h, if_pos h]
        have := mg_size _ _ h
        rw [ih g (zs.drop (mg 65536 zs).2.2) (by rw [List.length_drop]; omega) (by rw [List.length_drop]; omega)]
      · rw [if_neg h, if_neg h]

theorem mall_ok (zs : List Int) (h : (mg 65536 zs).1 = 0) : mall zs = ((mg 65536 zs).2.1 :: (mall (zs.drop (mg 65536 zs).2.2)).1, (mg 65536 zs).2.2 + (mall (zs.drop (mg 65536 zs).2.2)).2.1, (mall (zs.drop (mg 65536 zs).2.2)).2.2) := by
  have := mg_size _ _ h
  unfold mall
  rw [maF_same zs.length (zs.length + 1) zs (Nat.le_refl _) (by omega), maF, if_pos h]
  rw [maF_same zs.length (zs.drop (mg 65536 zs).2.2).length _ (by rw [List.length_drop]; omega) (Nat.le_refl _)]

theorem mall_bad (zs : List Int) (h : (mg 65536 zs).1 ≠ 0) : mall zs = ([], 0, if (mg 65536 zs).1 = 4 then 0 else (mg 65536 zs).1) := by
  unfold mall
  rw [maF_same zs.length (zs.length + 1) zs (Nat.le_refl _) (by omega), maF, if_neg h]
  split <;> rfl

theorem mall_induct {Q : List Int → Prop} (bad : ∀ zs, (mg 65536 zs).1 ≠ 0 → Q zs) (ok : ∀ zs, (mg 65536 zs).1 = 0 → Q (zs.drop (mg 65536 zs).2.2) → Q zs) (zs : List Int) : Q zs := by
  obtain ⟨n, hn⟩ : ∃ n, zs.length ≤ n := ⟨_, Nat.le_refl _⟩
  induction n generalizing zs with
  | zero => exact bad _ (by rw [mg_none _ _ (by omega)]; decide)
  | succ n ih =>
    by_cases h : (mg 65536 zs).1 = 0
    · have := mg_size _ _ h
      exact ok _ h (ih _ (by rw [List.length_drop]; omega))
    · exact bad _ h

theorem mall_size (zs : List Int) : (mall zs).2.1 ≤ zs.length ∧ 4 * (mall zs).1.length ≤ (mall zs).2.1 := by
  refine mall_induct (Q := fun zs => (mall zs).2.1 ≤ zs.length ∧ 4 * (mall zs).1.length ≤ (mall zs).2.1) ?_ ?_ zs
  · intro zs h
    rw [mall_bad zs h]
    simp
  · intro zs h ih
    have := mg_size _ _ h
    rw [mall_ok zs h]
    simp only [List.length_cons]
    rw [List.length_drop] at ih
    omega

theorem mall_e (zs : List Int) : (mall zs).2.2 = 0 ∨ (mall zs).2.2 = 3 ∨ (mall zs).2.2 = 5 := by
  refine mall_induct (Q := fun zs => (mall zs).2.2 = 0 ∨ (mall zs).2.2 = 3 ∨ (mall zs).2.2 = 5) ?_ ?_ zs
  · intro zs h
    rw [mall_bad zs h]
    rcases mg_cases 65536 zs with h1 | h1 | h1 | h1 <;> simp [h1]
  · intro zs h ih
    rw [mall_ok zs h]
    exact ih

theorem mall_on (zs ys : List Int) : (∃ r, (mall (zs ++ ys)).1 = (mall zs).1 ++ r) ∧ (mall zs).2.1 ≤ (mall (zs ++ ys)).2.1 ∧ ((mall zs).2.2 ≠ 0 → mall (zs ++ ys) = mall zs) := by
  refine mall_induct (Q := fun zs => (∃ r, (mall (zs ++ ys)).1 = (mall zs).1 ++ r) ∧ (mall zs).2.1 ≤ (mall (zs ++ ys)).2.1 ∧ ((mall zs).2.2 ≠ 0 → mall (zs ++ ys) = mall zs)) ?_ ?_ zs
  · intro zs h
    rw [mall_bad zs h]
    refine ⟨⟨_, rfl⟩, Nat.zero_le _, fun h0 => ?_⟩
    by_cases h4 : (mg 65536 zs).1 = 4
    · simp [h4] at h0
    · have e := mg_on 65536 zs ys h4
      rw [mall_bad (zs ++ ys) (by rw [e]; exact h), e]
  · intro zs h ih
    have e := mg_on 65536 zs ys (by rw [h]; decide)
    have hs := mg_size _ _ h
    obtain ⟨⟨r, h1⟩, h2, h3⟩ := ih
    rw [mall_ok zs h, mall_ok (zs ++ ys) (by rw [e]; exact h), e, List.drop_append_of_le_length hs.1]
    refine ⟨⟨r, by rw [h1]; rfl⟩, by simp only; omega, fun h0 => ?_⟩
    rw [h3 h0]

/-- What has come, ahead of what follows. -/
def after (ls : List (List Int)) (n : Nat) (r : List (List Int) × Nat × Int) : List (List Int) × Nat × Int := (ls ++ r.1, n + r.2.1, r.2.2)

theorem after_none (r : List (List Int) × Nat × Int) : after [] 0 r = r := by simp [after]
theorem after_step (ls : List (List Int)) (n : Nat) (zs : List Int) (h : (mg 65536 zs).1 = 0) : after ls n (mall zs) = after (ls ++ [(mg 65536 zs).2.1]) (n + (mg 65536 zs).2.2) (mall (zs.drop (mg 65536 zs).2.2)) := by
  rw [mall_ok zs h]
  simp [after, Nat.add_assoc]

theorem mall_row (ls : List (List Int)) (ys : List Int) (size : Nat) (hs : 1 ≤ size) (hl : ∀ l ∈ ls, l.length ≤ 65536) (hy : (mg 65536 ys).1 = 4) : mall (ls.flatMap (cutB size) ++ ys) = (ls, (ls.flatMap (cutB size)).length, 0) := by
  induction ls with
  | nil =>
    rw [List.flatMap_nil, List.nil_append, mall_bad ys (by rw [hy]; decide), hy]
    rfl
  | cons l r ih =>
    have e := mg_cut 65536 size l (r.flatMap (cutB size) ++ ys) hs (hl l List.mem_cons_self) (by omega)
    rw [List.flatMap_cons, List.append_assoc, mall_ok _ (by rw [e])]
    rw [e]
    simp only
    rw [List.drop_left' rfl, ih (fun x hx => hl x (List.mem_cons_of_mem _ hx)), List.length_append]
end Go.Proofs.YtmjjoiljdcjhdaaDoor
