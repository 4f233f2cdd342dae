/- Who is put is got, who is got is put: plain mathematics. -/
import Derived.Test.YtciinabhelfnoaaGreatDoorCredMathM
namespace Go.Proofs.YtciinabhelfnoaaGreatDoor
set_option linter.unusedVariables false

/-- What may be put. -/
structure CrOk (s : Int) (m : List Int) (u g : Int) (gs : List Int) : Prop where
  okS : 0 ≤ s ∧ s ≤ 4294967295
  okU : 0 ≤ u ∧ u ≤ 4294967295
  okG : 0 ≤ g ∧ g ≤ 4294967295
  okL : ∀ x ∈ gs, 0 ≤ x ∧ x ≤ 4294967295
  okM : m.length ≤ 255
  okN : gs.length ≤ 16

theorem numsB_one (x : Int) : numsB [x] = bytesOf x 4 := by simp [numsB]
theorem numsB_three (x y z : Int) : numsB [x, y, z] = bytesOf x 4 ++ (bytesOf y 4 ++ bytesOf z 4) := by simp [numsB]
theorem credB_length (s : Int) (m : List Int) (u g : Int) (gs : List Int) : (credB s m u g gs).length = 4 + (4 + (m.length + padN m.length)) + 12 + 4 * gs.length := by
  simp only [credB, List.length_append, numsB_len, opBytes_length, List.length_cons, List.length_nil]
theorem byt_credB (s : Int) {m : List Int} (hm : Byt m) (u g : Int) (gs : List Int) : Byt (credB s m u g gs) :=
  (((byt_numsB _).append (byt_op hm)).append (byt_numsB _)).append (byt_numsB _)

theorem be4 {x : Int} (h : 0 ≤ x ∧ x ≤ 4294967295) : be (bytesOf x 4) = x := be_bytesOf 4 x h.1 (by omega)

/-- The tail: User, Group, how many, the Groups, and what stands behind. -/
theorem tail_got (u g : Int) (gs ms : List Int) (hu : 0 ≤ u ∧ u ≤ 4294967295) (hg : 0 ≤ g ∧ g ≤ 4294967295) (hl : gs.length ≤ 16) :
    be ((numsB [u, g, gs.length] ++ ms).take 4) = u ∧ be (((numsB [u, g, gs.length] ++ ms).drop 4).take 4) = g ∧ be (((numsB [u, g, gs.length] ++ ms).drop 8).take 4) = gs.length ∧ (numsB [u, g, gs.length] ++ ms).drop 12 = ms := by
  rw [numsB_three]
  simp only [List.append_assoc]
  have h1 : (bytesOf u 4 ++ (bytesOf g 4 ++ (bytesOf (gs.length : Int) 4 ++ ms))).drop 4 = bytesOf g 4 ++ (bytesOf (gs.length : Int) 4 ++ ms) := List.drop_left' (bytesOf_length _ 4)
  have h2 : (bytesOf u 4 ++ (bytesOf g 4 ++ (bytesOf (gs.length : Int) 4 ++ ms))).drop 8 = bytesOf (gs.length : Int) 4 ++ ms := by
    rw [show (8 : Nat) = 4 + 4 from rfl, ← List.drop_drop, h1]
    exact List.drop_left' (bytesOf_length _ 4)
  refine ⟨?_, ?_, ?_, ?_⟩
  · rw [List.take_left' (bytesOf_length _ 4)]; exact be4 hu
  · rw [h1, List.take_left' (bytesOf_length _ 4)]; exact be4 hg
  · rw [h2, List.take_left' (bytesOf_length _ 4)]; exact be4 (by omega)
  · rw [show (12 : Nat) = 8 + 4 from rfl, ← List.drop_drop, h2]
    exact List.drop_left' (bytesOf_length _ 4)

theorem credB_parts (s : Int) (m : List Int) (u g : Int) (gs ms : List Int) (h : CrOk s m u g gs) :
    (credB s m u g gs ++ ms).take 4 = bytesOf s 4 ∧ (credB s m u g gs ++ ms).drop 4 = opBytes m ++ (numsB [u, g, gs.length] ++ (numsB gs ++ ms)) ∧ crR (credB s m u g gs ++ ms) = numsB [u, g, gs.length] ++ (numsB gs ++ ms) := by
  have e : credB s m u g gs ++ ms = bytesOf s 4 ++ (opBytes m ++ (numsB [u, g, gs.length] ++ (numsB gs ++ ms))) := by
    rw [credB, numsB_one]
    simp only [List.append_assoc]
  have h1 : (credB s m u g gs ++ ms).drop 4 = opBytes m ++ (numsB [u, g, gs.length] ++ (numsB gs ++ ms)) := by rw [e]; exact List.drop_left' (bytesOf_length _ 4)
  refine ⟨by rw [e]; exact List.take_left' (bytesOf_length _ 4), h1, ?_⟩
  rw [crR, h1, (op_more m _ 255 (by have := h.okM; omega) (by have := h.okM; omega)).2.2]
  exact List.drop_left' (opBytes_length _)

/-- Whoever is put is got; with bytes behind, refused. -/
theorem cr_put (s : Int) (m : List Int) (u g : Int) (gs ms : List Int) (h : CrOk s m u g gs) :
    crE (credB s m u g gs ++ ms) = (if ms = [] then 0 else 5) ∧ crS (credB s m u g gs ++ ms) = s ∧ crM (credB s m u g gs ++ ms) = m ∧ crU (credB s m u g gs ++ ms) = u ∧ crG (credB s m u g gs ++ ms) = g ∧ crL (credB s m u g gs ++ ms) = gs := by
  obtain ⟨p1, p2, p3⟩ := credB_parts s m u g gs ms h
  obtain ⟨t1, t2, t3, t4⟩ := tail_got u g gs (numsB gs ++ ms) h.okU h.okG h.okN
  obtain ⟨o1, o2, o3⟩ := op_more m (numsB [u, g, gs.length] ++ (numsB gs ++ ms)) 255 (by have := h.okM; omega) (by have := h.okM; omega)
  have hN : crN (credB s m u g gs ++ ms) = gs.length := by rw [crN, p3]; exact t3
  have hK : crK (credB s m u g gs ++ ms) = gs.length := by rw [crK, hN]; omega
  have hl : 4 ≤ (credB s m u g gs ++ ms).length := by rw [List.length_append, credB_length]; omega
  have hR : (crR (credB s m u g gs ++ ms)).length = 12 + 4 * gs.length + ms.length := by
    rw [p3]
    simp only [List.length_append, numsB_len, List.length_cons, List.length_nil]
    omega
  have hlg := h.okN
  refine ⟨?_, by rw [crS, p1]; exact be4 h.okS, by rw [crM, p2]; exact o2, by rw [crU, p3]; exact t1, by rw [crG, p3]; exact t2, ?_⟩
  · by_cases hms : ms = []
    · rw [if_pos hms]
      exact crE_0 hl (by rw [p2]; exact o1) (by omega) (by omega) (by rw [hK, hR, hms]; simp)
    · rw [if_neg hms]
      have : 0 < ms.length := List.length_pos_iff.2 hms
      exact crE_6 hl (by rw [p2]; exact o1) (by omega) (by omega) (by rw [hK, hR]; omega)
  · rw [crL, hK, p3, t4]
    exact numsZ_put gs ms h.okL

theorem op_less (zs : List Int) (k : Nat) (most : Int) (h : zs.length ≤ 1048576) (hm : (zs.length : Int) ≤ most) (hk : k < (opBytes zs).length) : opE ((opBytes zs).take k) most = 4 := by
  rw [opBytes_length] at hk
  by_cases h4 : k < 4
  · rw [opE, if_pos (by rw [List.length_take]; omega)]
  · have e : (opBytes zs).take k = bytesOf (zs.length : Int) 4 ++ (padded zs).take (k - 4) := by
      rw [opBytes, List.take_append, bytesOf_length, List.take_of_length_le (by rw [bytesOf_length]; omega)]
    have ht : toldN ((opBytes zs).take k) = zs.length := by rw [e]; exact told_cons _ _ (by omega)
    rw [opE, if_neg (by rw [List.length_take, opBytes_length]; omega), ht, if_neg (by omega), e, List.drop_left' (bytesOf_length _ 4)]
    exact fix_short zs (k - 4) (by rw [padded_length]; omega)

/-- Of fewer bytes nobody is. -/
theorem cr_short (s : Int) (m : List Int) (u g : Int) (gs : List Int) (h : CrOk s m u g gs) (k : Nat) (hk : k < (credB s m u g gs).length) : crE ((credB s m u g gs).take k) = 4 := by
  have hcl := credB_length s m u g gs
  have hm := h.okM
  have hlg := h.okN
  by_cases h4 : k < 4
  · exact crE_1 (by rw [List.length_take]; omega)
  have hlen : 4 ≤ ((credB s m u g gs).take k).length := by rw [List.length_take]; omega
  have hd : ((credB s m u g gs).take k).drop 4 = (opBytes m ++ (numsB [u, g, gs.length] ++ numsB gs)).take (k - 4) := by
    rw [List.drop_take]
    congr 1
    rw [credB, numsB_one]
    simp only [List.append_assoc]
    exact List.drop_left' (bytesOf_length _ 4)
  by_cases h5 : k - 4 < (opBytes m).length
  · have he : opE (((credB s m u g gs).take k).drop 4) 255 = 4 := by
      rw [hd, List.take_append_of_le_length (by omega)]
      exact op_less m (k - 4) 255 (by omega) (by omega) h5
    rw [crE_2 hlen (by rw [he]; decide), he]
  · have hd2 : ((credB s m u g gs).take k).drop 4 = opBytes m ++ (numsB [u, g, gs.length] ++ numsB gs).take (k - 4 - (opBytes m).length) := by
      rw [hd, List.take_append, List.take_of_length_le (by omega)]
    rw [opBytes_length] at h5 hd2
    obtain ⟨o1, o2, o3⟩ := op_more m ((numsB [u, g, gs.length] ++ numsB gs).take (k - 4 - (4 + (m.length + padN m.length)))) 255 (by omega) (by omega)
    have hR : crR ((credB s m u g gs).take k) = (numsB [u, g, gs.length] ++ numsB gs).take (k - 4 - (4 + (m.length + padN m.length))) := by
      rw [crR, hd2, o3]
      exact List.drop_left' (opBytes_length _)
    have hRl : (crR ((credB s m u g gs).take k)).length = k - 4 - (4 + (m.length + padN m.length)) := by
      rw [hR, List.length_take]
      simp only [List.length_append, numsB_len, List.length_cons, List.length_nil]
      omega
    by_cases h12 : k - 4 - (4 + (m.length + padN m.length)) < 12
    · exact crE_3 hlen (by rw [hd2]; exact o1) (by omega)
    · have hN : crN ((credB s m u g gs).take k) = gs.length := by
        have et : (numsB [u, g, (gs.length : Int)] ++ numsB gs).take (k - 4 - (4 + (m.length + padN m.length))) = numsB [u, g, (gs.length : Int)] ++ (numsB gs).take (k - 4 - (4 + (m.length + padN m.length)) - (numsB [u, g, (gs.length : Int)]).length) := by
          rw [List.take_append, List.take_of_length_le (l := numsB [u, g, (gs.length : Int)]) (by rw [numsB_len]; simp only [List.length_cons, List.length_nil]; omega)]
        rw [crN, hR, et]
        exact (tail_got u g gs _ h.okU h.okG h.okN).2.2.1
      exact crE_5 hlen (by rw [hd2]; exact o1) (by omega) (by omega) (by rw [hRl, crK, hN]; omega)

/-- Whoever is got is put as the bytes were. -/
theorem cr_again {zs : List Int} (hb : Byt zs) (h : crE zs = 0) : credB (crS zs) (crM zs) (crU zs) (crG zs) (crL zs) = zs ∧ CrOk (crS zs) (crM zs) (crU zs) (crG zs) (crL zs) := by
  obtain ⟨h1, h2, h3, h4, h5⟩ := crE_ok h
  have hb4 := byt_drop hb 4
  obtain ⟨o1, o2, o3, o4⟩ := op_again hb4 h2
  have hbR : Byt (crR zs) := byt_drop hb4 _
  have hl : (crL zs).length = crK zs := numsZ_len _ _
  have rN := be_range (byt_drop hbR 8) (by rw [List.length_drop]; omega)
  have rN' : 0 ≤ crN zs ∧ crN zs ≤ 4294967295 := rN
  have hKN : ((crK zs : Nat) : Int) = crN zs := by unfold crK; omega
  refine ⟨?_, ⟨be_range hb h1, be_range hbR (by omega), be_range (byt_drop hbR 4) (by rw [List.length_drop]; omega), numsZ_range _ _ (byt_drop hbR 12) (by rw [List.length_drop]; omega), by have : ((crM zs).length : Int) ≤ 255 := o3; omega, by omega⟩⟩
  have e1 : numsB [crS zs] = zs.take 4 := by rw [numsB_one]; exact bytesOf_be_take zs hb 4 h1
  have e2 : opBytes (crM zs) = (zs.drop 4).take (opL (zs.drop 4) 255) := o1
  have e3 : numsB [crU zs, crG zs, ((crL zs).length : Int)] = (crR zs).take 12 := by
    rw [hl, hKN, numsB_three]
    have a1 : bytesOf (crU zs) 4 = (crR zs).take 4 := bytesOf_be_take _ hbR 4 (by omega)
    have a2 : bytesOf (crG zs) 4 = ((crR zs).drop 4).take 4 := bytesOf_be_take _ (byt_drop hbR 4) 4 (by rw [List.length_drop]; omega)
    have a3 : bytesOf (crN zs) 4 = ((crR zs).drop 8).take 4 := bytesOf_be_take _ (byt_drop hbR 8) 4 (by rw [List.length_drop]; omega)
    rw [a1, a2, a3, show (12 : Nat) = 4 + 8 from rfl, List.take_add, show (8 : Nat) = 4 + 4 from rfl, List.take_add, List.drop_drop]
  have e4 : numsB (crL zs) = (crR zs).drop 12 := by
    rw [crL, numsB_got _ _ (byt_drop hbR 12) (by rw [List.length_drop]; omega), List.take_of_length_le (by rw [List.length_drop]; omega)]
  rw [credB, e1, e2, e3, e4]
  simp only [List.append_assoc]
  rw [List.take_append_drop]
  show zs.take 4 ++ ((zs.drop 4).take (opL (zs.drop 4) 255) ++ (zs.drop 4).drop (opL (zs.drop 4) 255)) = zs
  rw [List.take_append_drop, List.take_append_drop]
end Go.Proofs.YtciinabhelfnoaaGreatDoor
