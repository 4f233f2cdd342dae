/- Replies by bytes: the answer as plain mathematics; nothing of the program. -/
import Derived.Test.YtmjhgpmeikpbkaaDoorNumsMath
namespace Go.Proofs.YtmjhgpmeikpbkaaDoor
set_option linter.unusedVariables false

/-- The number that stands behind so many others. -/
def num (zs : List Int) (k : Nat) : Int := be ((zs.drop (4 * k)).take 4)

/-- A reply as bytes tell it, and the error. -/
structure RP where
  e : Int
  x : Int
  h : Int
  l : Int
  g : Int
  b : List Int

def rpNo (e : Int) : RP := ⟨e, 0, 0, 0, 0, []⟩

/-- What bytes are, behind their number of a call, if the call was not taken. -/
def rpDenied (zs : List Int) : RP :=
  if zs.length < 16 then rpNo 4
  else if num zs 3 = 0 then
    (if zs.length < 24 then rpNo 4 else if 24 < zs.length then rpNo 5 else ⟨0, num zs 0, 100, num zs 4, num zs 5, []⟩)
  else if num zs 3 = 1 then
    (if zs.length < 20 then rpNo 4 else if num zs 4 < 1 ∨ 7 < num zs 4 then rpNo 5 else if 20 < zs.length then rpNo 5 else ⟨0, num zs 0, 101, num zs 4, 0, []⟩)
  else rpNo 5

/-- .. if it was. -/
def rpTaken (zs : List Int) : RP :=
  if zs.length < 16 then rpNo 4
  else if num zs 3 ≠ 0 then rpNo 5
  else if zs.length < 20 then rpNo 4
  else if num zs 4 ≠ 0 then rpNo 5
  else if zs.length < 24 then rpNo 4
  else if num zs 5 = 0 then ⟨0, num zs 0, 0, 0, 0, zs.drop 24⟩
  else if num zs 5 = 2 then
    (if zs.length < 32 then rpNo 4 else if 32 < zs.length then rpNo 5 else ⟨0, num zs 0, 2, num zs 6, num zs 7, []⟩)
  else if num zs 5 = 1 ∨ num zs 5 = 3 ∨ num zs 5 = 4 then
    (if 24 < zs.length then rpNo 5 else ⟨0, num zs 0, num zs 5, 0, 0, []⟩)
  else rpNo 5

/-- The reply that bytes are. -/
def rp (zs : List Int) : RP :=
  if 65536 < zs.length then rpNo 3
  else if zs.length < 8 then rpNo 4
  else if num zs 1 ≠ 1 then rpNo 5
  else if zs.length < 12 then rpNo 4
  else if num zs 2 = 1 then rpDenied zs
  else if num zs 2 = 0 then rpTaken zs
  else rpNo 5

/-- The numbers behind the first two. -/
def rowN (h l g : Int) : List Int :=
  if h = 2 then [0, 0, 0, 2, l, g] else if h = 100 then [1, 0, l, g] else if h = 101 then [1, 1, l] else [0, 0, 0, h]

/-- A reply's bytes. -/
def replyB (x h l g : Int) (bs : List Int) : List Int := numsB (x :: 1 :: rowN h l g) ++ bs

/-- May a reply be? -/
def May (h l g : Int) (n : Nat) : Prop :=
  (h = 0 ∧ l = 0 ∧ g = 0) ∨ ((h = 1 ∨ h = 3 ∨ h = 4) ∧ l = 0 ∧ g = 0 ∧ n = 0) ∨ ((h = 2 ∨ h = 100) ∧ n = 0) ∨ (h = 101 ∧ 1 ≤ l ∧ l ≤ 7 ∧ g = 0 ∧ n = 0)

instance (h l g : Int) (n : Nat) : Decidable (May h l g n) := by unfold May; infer_instance

/-- The error of a reply that is put. -/
def rputE (h l g : Int) (n : Nat) : Int := if May h l g n then (if 65536 < 4 * (2 + (rowN h l g).length) + n then 3 else 0) else 1
/-- Its bytes: none with an error. -/
def rputZ (x h l g : Int) (bs : List Int) : List Int := if rputE h l g bs.length = 0 then replyB x h l g bs else []

theorem replyB_length (x h l g : Int) (bs : List Int) : (replyB x h l g bs).length = 4 * (2 + (rowN h l g).length) + bs.length := by
  rw [replyB, List.length_append, numsB_len, List.length_cons, List.length_cons]; omega

theorem byt_replyB {x h l g : Int} {bs : List Int} (hb : Byt bs) : Byt (replyB x h l g bs) := (byt_numsB _).append hb

theorem rputE_zero {h l g : Int} {n : Nat} (he : rputE h l g n = 0) : May h l g n ∧ 4 * (2 + (rowN h l g).length) + n ≤ 65536 := by
  unfold rputE at he
  split at he
  · split at he
    · cases he
    · exact ⟨by assumption, by omega⟩
  · cases he

theorem rputE_cases (h l g : Int) (n : Nat) : rputE h l g n = 0 ∨ rputE h l g n = 1 ∨ rputE h l g n = 3 := by
  unfold rputE; split <;> (try split) <;> simp

/-- A number among numbers, with anything behind. -/
theorem nums_drop (ns t : List Int) (i : Nat) (h : i ≤ ns.length) : (numsB ns ++ t).drop (4 * i) = numsB (ns.drop i) ++ t := by
  have e : numsB ns = numsB (ns.take i) ++ numsB (ns.drop i) := by rw [← numsB_append, List.take_append_drop]
  rw [e, List.append_assoc]
  exact List.drop_left' (by rw [numsB_len, List.length_take]; omega)

theorem num_at' (ns t : List Int) (i : Nat) (h : i < ns.length) (hr : 0 ≤ ns[i] ∧ ns[i] ≤ 4294967295) : num (numsB ns ++ t) i = ns[i] := by
  rw [num, nums_drop ns t i (by omega), List.drop_eq_getElem_cons h, numsB_cons, List.append_assoc, List.take_left' (bytesOf_length _ 4)]
  exact be_bytesOf 4 _ hr.1 (by omega)

theorem num_take (zs : List Int) (k i : Nat) (h : 4 * (i + 1) ≤ k) : num (zs.take k) i = num zs i := by
  unfold num
  rw [List.drop_take, List.take_take, Nat.min_eq_left (by omega)]

theorem num_range {zs : List Int} (hb : Byt zs) (k : Nat) (h : 4 * (k + 1) ≤ zs.length) : 0 ≤ num zs k ∧ num zs k ≤ 4294967295 := by
  have hd : Byt ((zs.drop (4 * k)).take 4) := Byt.take (fun j => by rw [List.getElem?_drop]; exact hb (4 * k + j)) 4
  have h1 := be_nonneg _ hd
  have hlen : ((zs.drop (4 * k)).take 4).length = 4 := by rw [List.length_take, List.length_drop]; omega
  rw [hlen] at h1
  have e : (256 : Int) ^ 4 = 4294967296 := by decide
  rw [e] at h1
  unfold num
  omega

/-- Bytes are their first numbers, and what stands behind them. -/
theorem nums_split {zs : List Int} (hb : Byt zs) (k : Nat) (h : 4 * k ≤ zs.length) : zs = numsB ((List.range k).map (num zs)) ++ zs.drop (4 * k) := by
  have e : (List.range k).map (num zs) = numsZ k zs := by
    refine List.ext_getElem (by simp [numsZ_len]) fun i h1 h2 => ?_
    have hi : i < k := by simpa using h1
    rw [numsZ_get k i zs hi]
    simp [num]
  rw [e, numsB_got k zs hb h, List.take_append_drop]

structure U (x : Int) : Prop where
  lo : 0 ≤ x
  hi : x ≤ 4294967295

/-- A reply that was put is got. -/
theorem rp_put {x h l g : Int} {bs : List Int} (hx : U x) (hl : U l) (hg : U g) (he : rputE h l g bs.length = 0) : rp (replyB x h l g bs) = ⟨0, x, h, l, g, bs⟩ := by
  obtain ⟨hm, hlen⟩ := rputE_zero he
  have hL := replyB_length x h l g bs
  have hr : ∀ i (hi : i < (x :: 1 :: rowN h l g).length), (0 ≤ (x :: 1 :: rowN h l g)[i] ∧ (x :: 1 :: rowN h l g)[i] ≤ 4294967295) → num (replyB x h l g bs) i = (x :: 1 :: rowN h l g)[i] := fun i hi h1 => num_at' _ _ i hi h1
  have hx' := hx.lo
  have hx'' := hx.hi
  have hl' := hl.lo
  have hl'' := hl.hi
  have hg' := hg.lo
  have hg'' := hg.hi
  have n0 : num (replyB x h l g bs) 0 = x := hr 0 (by simp) ⟨hx', hx''⟩
  have n1 : num (replyB x h l g bs) 1 = 1 := hr 1 (by simp) (by simp)
  rcases hm with ⟨rfl, rfl, rfl⟩ | ⟨hh, rfl, rfl, hn⟩ | ⟨hh, hn⟩ | ⟨rfl, h1, h7, rfl, hn⟩
  · have e : rowN 0 0 0 = [0, 0, 0, 0] := by decide
    rw [e] at hr hL
    have n2 : num (replyB x 0 0 0 bs) 2 = 0 := hr 2 (by simp) (by simp)
    have n3 : num (replyB x 0 0 0 bs) 3 = 0 := hr 3 (by simp) (by simp)
    have n4 : num (replyB x 0 0 0 bs) 4 = 0 := hr 4 (by simp) (by simp)
    have n5 : num (replyB x 0 0 0 bs) 5 = 0 := hr 5 (by simp) (by simp)
    have hd : (replyB x 0 0 0 bs).drop 24 = bs := by rw [replyB, e]; exact List.drop_left' (by rw [numsB_len]; rfl)
    simp at hL
    rw [e] at hlen
    simp at hlen
    generalize replyB x 0 0 0 bs = zs at *
    rw [rp, if_neg (by omega), if_neg (by omega), if_neg (by simp [n1]), if_neg (by omega), if_neg (by omega), if_pos n2, rpTaken, if_neg (by omega), if_neg (by simp [n3]), if_neg (by omega), if_neg (by simp [n4]), if_neg (by omega), if_pos n5, n0, hd]
  · have hb : bs = [] := List.length_eq_zero_iff.1 hn
    subst hb
    have e : rowN h 0 0 = [0, 0, 0, h] := by rcases hh with rfl | rfl | rfl <;> decide
    rw [e] at hr hL
    have n2 : num (replyB x h 0 0 []) 2 = 0 := hr 2 (by simp) (by simp)
    have n3 : num (replyB x h 0 0 []) 3 = 0 := hr 3 (by simp) (by simp)
    have n4 : num (replyB x h 0 0 []) 4 = 0 := hr 4 (by simp) (by simp)
    have n5 : num (replyB x h 0 0 []) 5 = h := hr 5 (by simp) (by simp; omega)
    simp at hL
    generalize replyB x h 0 0 [] = zs at *
    rw [rp, if_neg (by omega), if_neg (by omega), if_neg (by simp [n1]), if_neg (by omega), if_neg (by omega), if_pos n2, rpTaken, if_neg (by omega), if_neg (by simp [n3]), if_neg (by omega), if_neg (by simp [n4]), if_neg (by omega), if_neg (by omega), if_neg (by omega), if_pos (by omega), if_neg (by omega), n0, n5]
  · have hb : bs = [] := List.length_eq_zero_iff.1 hn
    subst hb
    rcases hh with rfl | rfl
    · have e : rowN 2 l g = [0, 0, 0, 2, l, g] := by simp [rowN]
      rw [e] at hr hL
      have n2 : num (replyB x 2 l g []) 2 = 0 := hr 2 (by simp) (by simp)
      have n3 : num (replyB x 2 l g []) 3 = 0 := hr 3 (by simp) (by simp)
      have n4 : num (replyB x 2 l g []) 4 = 0 := hr 4 (by simp) (by simp)
      have n5 : num (replyB x 2 l g []) 5 = 2 := hr 5 (by simp) (by simp)
      have n6 : num (replyB x 2 l g []) 6 = l := hr 6 (by simp) (by simp; omega)
      have n7 : num (replyB x 2 l g []) 7 = g := hr 7 (by simp) (by simp; omega)
      simp at hL
      generalize replyB x 2 l g [] = zs at *
      rw [rp, if_neg (by omega), if_neg (by omega), if_neg (by simp [n1]), if_neg (by omega), if_neg (by omega), if_pos n2, rpTaken, if_neg (by omega), if_neg (by simp [n3]), if_neg (by omega), if_neg (by simp [n4]), if_neg (by omega), if_neg (by omega), if_pos n5, if_neg (by omega), if_neg (by omega), n0, n6, n7]
    · have e : rowN 100 l g = [1, 0, l, g] := by simp [rowN]
      rw [e] at hr hL
      have n2 : num (replyB x 100 l g []) 2 = 1 := hr 2 (by simp) (by simp)
      have n3 : num (replyB x 100 l g []) 3 = 0 := hr 3 (by simp) (by simp)
      have n4 : num (replyB x 100 l g []) 4 = l := hr 4 (by simp) (by simp; omega)
      have n5 : num (replyB x 100 l g []) 5 = g := hr 5 (by simp) (by simp; omega)
      simp at hL
      generalize replyB x 100 l g [] = zs at *
      rw [rp, if_neg (by omega), if_neg (by omega), if_neg (by simp [n1]), if_neg (by omega), if_pos n2, rpDenied, if_neg (by omega), if_pos n3, if_neg (by omega), if_neg (by omega), n0, n4, n5]
  · have hb : bs = [] := List.length_eq_zero_iff.1 hn
    subst hb
    have e : rowN 101 l 0 = [1, 1, l] := by simp [rowN]
    rw [e] at hr hL
    have n2 : num (replyB x 101 l 0 []) 2 = 1 := hr 2 (by simp) (by simp)
    have n3 : num (replyB x 101 l 0 []) 3 = 1 := hr 3 (by simp) (by simp)
    have n4 : num (replyB x 101 l 0 []) 4 = l := hr 4 (by simp) (by simp; omega)
    simp at hL
    generalize replyB x 101 l 0 [] = zs at *
    rw [rp, if_neg (by omega), if_neg (by omega), if_neg (by simp [n1]), if_neg (by omega), if_pos n2, rpDenied, if_neg (by omega), if_neg (by omega), if_pos n3, if_neg (by omega), if_neg (by omega), if_neg (by omega), n0, n4]

theorem four_taken (zs : List Int) (h0 : zs.length ≤ 65536) (h1 : 8 ≤ zs.length → num zs 1 = 1) (h2 : 12 ≤ zs.length → num zs 2 = 0) (h3 : 16 ≤ zs.length → num zs 3 = 0) (h4 : 20 ≤ zs.length → num zs 4 = 0)
    (h5 : zs.length < 24 ∨ ((24 ≤ zs.length → num zs 5 = 2) ∧ zs.length < 32)) : (rp zs).e = 4 := by
  generalize hr : rp zs = r
  unfold rp at hr
  repeat' split at hr
  case isFalse.isFalse.isFalse.isFalse.isTrue => exfalso; omega
  case isFalse.isFalse.isFalse.isFalse.isFalse.isTrue =>
    unfold rpTaken at hr
    repeat' split at hr
    all_goals first | (subst hr; rfl) | (exfalso; omega)
  all_goals first | (subst hr; rfl) | (exfalso; omega)

theorem four_denied (zs : List Int) (h0 : zs.length ≤ 65536) (h1 : 8 ≤ zs.length → num zs 1 = 1) (h2 : 12 ≤ zs.length → num zs 2 = 1)
    (h5 : ((16 ≤ zs.length → num zs 3 = 0) ∧ zs.length < 24) ∨ ((16 ≤ zs.length → num zs 3 = 1) ∧ zs.length < 20)) : (rp zs).e = 4 := by
  generalize hr : rp zs = r
  unfold rp at hr
  repeat' split at hr
  case isFalse.isFalse.isFalse.isFalse.isTrue =>
    unfold rpDenied at hr
    repeat' split at hr
    all_goals first | (subst hr; rfl) | (exfalso; omega)
  case isFalse.isFalse.isFalse.isFalse.isFalse.isTrue => exfalso; omega
  all_goals first | (subst hr; rfl) | (exfalso; omega)

set_option maxHeartbeats 4000000 in
/-- Of fewer bytes than its numbers have none is. -/
theorem rp_short {x h l g : Int} {bs : List Int} (hx : U x) (hl : U l) (hg : U g) (he : rputE h l g bs.length = 0) (k : Nat) (hk : k < 4 * (2 + (rowN h l g).length)) : (rp ((replyB x h l g bs).take k)).e = 4 := by
  obtain ⟨hm, hlen⟩ := rputE_zero he
  have hL := replyB_length x h l g bs
  have hr : ∀ i (hi : i < (x :: 1 :: rowN h l g).length), (0 ≤ (x :: 1 :: rowN h l g)[i] ∧ (x :: 1 :: rowN h l g)[i] ≤ 4294967295) → 4 * (i + 1) ≤ k → num ((replyB x h l g bs).take k) i = (x :: 1 :: rowN h l g)[i] := fun i hi h1 h2 => by rw [num_take _ _ _ h2]; exact num_at' _ _ i hi h1
  have hlk : ((replyB x h l g bs).take k).length = k := by rw [List.length_take]; omega
  have n1 : 8 ≤ k → num ((replyB x h l g bs).take k) 1 = 1 := hr 1 (by simp) (by simp)
  have hl' := hl.lo
  have hl'' := hl.hi
  rcases hm with ⟨rfl, rfl, rfl⟩ | ⟨hh, rfl, rfl, hn⟩ | ⟨hh, hn⟩ | ⟨rfl, h1, h7, rfl, hn⟩
  all_goals try (rcases hh with rfl | rfl | rfl)
  all_goals try (rcases hh with rfl | rfl)
  all_goals simp [rowN] at hr hk hL hlen
  all_goals have n2 := hr 2 (by omega)
  all_goals have n3 := hr 3 (by omega)
  all_goals have n4 := hr 4 (by omega)
  all_goals try have n5 := hr 5 (by omega)
  all_goals try have n6 := hr 6 (by omega)
  all_goals simp at n2 n3 n4
  all_goals try simp at n5
  all_goals try simp at n6
  all_goals clear hr
  all_goals generalize (replyB _ _ _ _ bs).take k = zs at *
  · exact four_taken zs (by omega) (by omega) (by omega) (by omega) (by omega) (.inl (by omega))
  · exact four_taken zs (by omega) (by omega) (by omega) (by omega) (by omega) (.inl (by omega))
  · exact four_taken zs (by omega) (by omega) (by omega) (by omega) (by omega) (.inl (by omega))
  · exact four_taken zs (by omega) (by omega) (by omega) (by omega) (by omega) (.inl (by omega))
  · exact four_taken zs (by omega) (by omega) (by omega) (by omega) (by omega) (.inr ⟨by omega, by omega⟩)
  · exact four_denied zs (by omega) (by omega) (by omega) (.inl ⟨by omega, by omega⟩)
  · exact four_denied zs (by omega) (by omega) (by omega) (.inr ⟨by omega, by omega⟩)

/-- What is got of any bytes is put as these. -/
theorem rp_again {zs : List Int} (hb : Byt zs) (he : (rp zs).e = 0) : rputE (rp zs).h (rp zs).l (rp zs).g (rp zs).b.length = 0 ∧ replyB (rp zs).x (rp zs).h (rp zs).l (rp zs).g (rp zs).b = zs ∧ U (rp zs).x ∧ U (rp zs).l ∧ U (rp zs).g ∧ Byt (rp zs).b := by
  have hB : Byt (zs.drop 24) := fun i => by rw [List.getElem?_drop]; exact hb (24 + i)
  have hN : Byt [] := fun i => by simp
  have u0 : U 0 := ⟨by decide, by decide⟩
  have ur : ∀ k, 4 * (k + 1) ≤ zs.length → U (num zs k) := fun k hk => ⟨(num_range hb k hk).1, (num_range hb k hk).2⟩
  have sp := fun k hk => nums_split hb k hk
  by_cases c0 : 65536 < zs.length
  · rw [rp, if_pos c0] at he; cases he
  by_cases c1 : zs.length < 8
  · rw [rp, if_neg c0, if_pos c1] at he; cases he
  by_cases c2' : num zs 1 ≠ 1
  · rw [rp, if_neg c0, if_neg c1, if_pos c2'] at he; cases he
  have c2 : num zs 1 = 1 := by simpa using c2'
  by_cases c3 : zs.length < 12
  · rw [rp, if_neg c0, if_neg c1, if_neg (by simp [c2]), if_pos c3] at he; cases he
  have e0 : rp zs = if num zs 2 = 1 then rpDenied zs else if num zs 2 = 0 then rpTaken zs else rpNo 5 := by rw [rp, if_neg c0, if_neg c1, if_neg (by simp [c2]), if_neg c3]
  rw [e0] at he ⊢
  clear e0
  by_cases d1 : num zs 2 = 1
  · rw [if_pos d1] at he ⊢
    unfold rpDenied at he ⊢
    repeat' split at he
    all_goals try (cases he; done)
    · rename_i f0 f1 f2 f3
      rw [if_neg f0, if_pos f1, if_neg f2, if_neg f3]
      have s6 := sp 6 (by omega)
      simp only [List.range_succ, List.range_zero, List.nil_append, List.map_cons, List.map_nil, List.cons_append] at s6
      rw [List.drop_eq_nil_of_le (show zs.length ≤ 4 * 6 by omega), List.append_nil, c2, d1, f1] at s6
      exact ⟨by simp [rputE, May, rowN], by rw [replyB, List.append_nil]; exact s6.symm, ur 0 (by omega), ur 4 (by omega), ur 5 (by omega), hN⟩
    · rename_i f0 f1 f2 f3 f4 f5
      rw [if_neg f0, if_neg f1, if_pos f2, if_neg f3, if_neg f4, if_neg f5]
      have s5 := sp 5 (by omega)
      simp only [List.range_succ, List.range_zero, List.nil_append, List.map_cons, List.map_nil, List.cons_append] at s5
      rw [List.drop_eq_nil_of_le (show zs.length ≤ 4 * 5 by omega), List.append_nil, c2, d1, f2] at s5
      exact ⟨by simp [rputE, May, rowN]; omega, by rw [replyB, List.append_nil]; exact s5.symm, ur 0 (by omega), ur 4 (by omega), u0, hN⟩
  · rw [if_neg d1] at he ⊢
    by_cases d0' : num zs 2 ≠ 0
    · rw [if_neg d0'] at he; cases he
    have d0 : num zs 2 = 0 := by simpa using d0'
    rw [if_pos d0] at he ⊢
    unfold rpTaken at he ⊢
    repeat' split at he
    all_goals try (cases he; done)
    · rename_i f0 f1 f2 f3 f4 f5
      rw [if_neg f0, if_neg f1, if_neg f2, if_neg f3, if_neg f4, if_pos f5]
      have f1' : num zs 3 = 0 := by simpa using f1
      have f3' : num zs 4 = 0 := by simpa using f3
      have s6 := sp 6 (by omega)
      simp only [List.range_succ, List.range_zero, List.nil_append, List.map_cons, List.map_nil, List.cons_append] at s6
      rw [c2, d0, f1', f3', f5] at s6
      exact ⟨by simp [rputE, May, rowN]; omega, by rw [replyB]; exact s6.symm, ur 0 (by omega), u0, u0, hB⟩
    · rename_i f0 f1 f2 f3 f4 f5 f6 f7 f8
      rw [if_neg f0, if_neg f1, if_neg f2, if_neg f3, if_neg f4, if_neg f5, if_pos f6, if_neg f7, if_neg f8]
      have f1' : num zs 3 = 0 := by simpa using f1
      have f3' : num zs 4 = 0 := by simpa using f3
      have s8 := sp 8 (by omega)
      simp only [List.range_succ, List.range_zero, List.nil_append, List.map_cons, List.map_nil, List.cons_append] at s8
      rw [List.drop_eq_nil_of_le (show zs.length ≤ 4 * 8 by omega), List.append_nil, c2, d0, f1', f3', f6] at s8
      exact ⟨by simp [rputE, May, rowN], by rw [replyB, List.append_nil]; exact s8.symm, ur 0 (by omega), ur 6 (by omega), ur 7 (by omega), hN⟩
    · rename_i f0 f1 f2 f3 f4 f5 f6 f7 f8
      rw [if_neg f0, if_neg f1, if_neg f2, if_neg f3, if_neg f4, if_neg f5, if_neg f6, if_pos f7, if_neg f8]
      have f1' : num zs 3 = 0 := by simpa using f1
      have f3' : num zs 4 = 0 := by simpa using f3
      have s6 := sp 6 (by omega)
      simp only [List.range_succ, List.range_zero, List.nil_append, List.map_cons, List.map_nil, List.cons_append] at s6
      rw [List.drop_eq_nil_of_le (show zs.length ≤ 4 * 6 by omega), List.append_nil, c2, d0, f1', f3'] at s6
      have hrow : rowN (num zs 5) 0 0 = [0, 0, 0, num zs 5] := by
        unfold rowN
        rw [if_neg f6, if_neg (by omega), if_neg (by omega)]
      have hmay : May (num zs 5) 0 0 0 := .inr (.inl ⟨f7, rfl, rfl, rfl⟩)
      exact ⟨by simp only [rputE, List.length_nil]; rw [if_pos hmay, hrow]; simp, by rw [replyB, List.append_nil]; simp only [hrow]; exact s6.symm, ur 0 (by omega), u0, u0, hN⟩

theorem rpDenied_cases (zs : List Int) : (rpDenied zs).e = 0 ∨ ∃ e, rpDenied zs = rpNo e ∧ (e = 3 ∨ e = 4 ∨ e = 5) := by
  generalize hr : rpDenied zs = r
  unfold rpDenied at hr
  repeat' split at hr
  all_goals subst hr
  all_goals first | exact .inl rfl | exact .inr ⟨3, rfl, by decide⟩ | exact .inr ⟨4, rfl, by decide⟩ | exact .inr ⟨5, rfl, by decide⟩

theorem rpTaken_cases (zs : List Int) : (rpTaken zs).e = 0 ∨ ∃ e, rpTaken zs = rpNo e ∧ (e = 3 ∨ e = 4 ∨ e = 5) := by
  generalize hr : rpTaken zs = r
  unfold rpTaken at hr
  repeat' split at hr
  all_goals subst hr
  all_goals first | exact .inl rfl | exact .inr ⟨3, rfl, by decide⟩ | exact .inr ⟨4, rfl, by decide⟩ | exact .inr ⟨5, rfl, by decide⟩

theorem rp_cases (zs : List Int) : (rp zs).e = 0 ∨ ∃ e, rp zs = rpNo e ∧ (e = 3 ∨ e = 4 ∨ e = 5) := by
  generalize hr : rp zs = r
  unfold rp at hr
  repeat' split at hr
  case isFalse.isFalse.isFalse.isFalse.isTrue => rw [← hr]; exact rpDenied_cases zs
  case isFalse.isFalse.isFalse.isFalse.isFalse.isTrue => rw [← hr]; exact rpTaken_cases zs
  all_goals subst hr
  all_goals first | exact .inl rfl | exact .inr ⟨3, rfl, by decide⟩ | exact .inr ⟨4, rfl, by decide⟩ | exact .inr ⟨5, rfl, by decide⟩

/-- With an error nothing else is told. -/
theorem rp_err {zs : List Int} (he : (rp zs).e ≠ 0) : rp zs = rpNo (rp zs).e ∧ ((rp zs).e = 3 ∨ (rp zs).e = 4 ∨ (rp zs).e = 5) := by
  rcases rp_cases zs with h | ⟨e, h, hc⟩
  · exact absurd h he
  · rw [h]; exact ⟨rfl, hc⟩
end Go.Proofs.YtmjhgpmeikpbkaaDoor
