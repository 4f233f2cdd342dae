/- Of fewer bytes no call is; what is got is put as it was; a fixed number that is another one is refused: plain mathematics. -/
import Derived.Test.YtciinabhelfnoaaGreatDoorCallMathM
namespace Go.Proofs.YtciinabhelfnoaaGreatDoor
set_option linter.unusedVariables false

theorem take_in (zs : List Int) (k j : Nat) (h : j + 4 ≤ k) : ((zs.take k).drop j).take 4 = (zs.drop j).take 4 := by
  rw [List.drop_take, List.take_take]
  congr 1
  omega

theorem firstE_one {e : Int} {es : List Int} {k j : Nat} (h1 : k < j → e = 4) (h2 : j ≤ k → e = 0 ∧ firstE es = 4) : firstE (e :: es) = 4 := by
  by_cases h : k < j
  · rw [firstE_stop (by rw [h1 h]; decide), h1 h]
  · obtain ⟨a, b⟩ := h2 (by omega)
    rw [firstE_go a, b]

/-- Of fewer bytes than the head has none is. -/
theorem cl_short {x p v c f s : Int} {m : List Int} {u g : Int} {gs : List Int} (hn : NumOk x p v c) (h : WhoOk f s m u g gs) (body : List Int) (k : Nat) (hk : k < 28 + (4 + ((whoB f s m u g gs).length + padN (whoB f s m u g gs).length)) + 8) :
    clE ((callB x p v c f (whoB f s m u g gs) body).take k) = 4 := by
  obtain ⟨hwl, hf⟩ := who_len h
  have hfr : 0 ≤ f ∧ f ≤ 4294967295 := by omega
  have hcl := callB_length x p v c f (whoB f s m u g gs) body
  have hwe := fun t => who_err h t
  have ho := fun t => op_more (whoB f s m u g gs) t 400 (by omega) (by omega)
  have hless := fun j => op_less (whoB f s m u g gs) j 400 (by omega) (by omega)
  have hnless := fun j => op_less [] j 400 (by decide) (by decide)
  have hwf : f = 0 ∨ f ≠ 0 := by omega
  clear h
  generalize whoB f s m u g gs = W at *
  obtain ⟨b0, b1, b2, b3, b4, b5, b6, bt⟩ := seven hn hfr (opBytes W ++ (numsB [0, 0] ++ body))
  rw [show numsB [x, 0, 2, p, v, c, f] ++ (opBytes W ++ (numsB [0, 0] ++ body)) = callB x p v c f W body from rfl] at b0 b1 b2 b3 b4 b5 b6 bt
  have hpd := padN_lt W.length
  have hkl : ((callB x p v c f W body).take k).length = k := by rw [List.length_take]; omega
  have hdl : ∀ j, (((callB x p v c f W body).take k).drop j).length = k - j := fun j => by rw [List.length_drop, hkl]
  have hH : clH ((callB x p v c f W body).take k) = (opBytes W ++ (numsB [0, 0] ++ body)).take (k - 28) := by
    rw [clH, List.drop_take]
    congr 1
  have hopl := opBytes_length W
  rw [clE, if_neg (by omega), clEs]
  refine firstE_one (k := k) (j := 4) (fun hj => by rw [getE, if_pos (by omega)]) (fun hj => ⟨by rw [getE, if_neg (by omega)], ?_⟩)
  refine firstE_one (k := k) (j := 8) (fun hj => by rw [fxnE, if_pos (by rw [hdl]; omega)]) (fun hj => ⟨by rw [fxnE, if_neg (by rw [hdl]; omega), take_in _ _ _ (by omega), if_pos b1], ?_⟩)
  refine firstE_one (k := k) (j := 12) (fun hj => by rw [fxnE, if_pos (by rw [hdl]; omega)]) (fun hj => ⟨by rw [fxnE, if_neg (by rw [hdl]; omega), take_in _ _ _ (by omega), if_pos b2], ?_⟩)
  refine firstE_one (k := k) (j := 16) (fun hj => by rw [getE, if_pos (by rw [hdl]; omega)]) (fun hj => ⟨by rw [getE, if_neg (by rw [hdl]; omega)], ?_⟩)
  refine firstE_one (k := k) (j := 20) (fun hj => by rw [getE, if_pos (by rw [hdl]; omega)]) (fun hj => ⟨by rw [getE, if_neg (by rw [hdl]; omega)], ?_⟩)
  refine firstE_one (k := k) (j := 24) (fun hj => by rw [getE, if_pos (by rw [hdl]; omega)]) (fun hj => ⟨by rw [getE, if_neg (by rw [hdl]; omega)], ?_⟩)
  have hF' : 28 ≤ k → be ((((callB x p v c f W body).take k).drop 24).take 4) = f := fun hj => by rw [take_in _ _ _ (by omega)]; exact b6
  refine firstE_one (k := k) (j := 28) (fun hj => by rw [flvE, if_pos (by rw [hdl]; omega)]) (fun hj => ⟨by rw [flvE, if_neg (by rw [hdl]; omega), hF' hj, if_neg (by omega)], ?_⟩)
  have hF : clF ((callB x p v c f W body).take k) = f := hF' hj
  rw [hF]
  refine firstE_one (k := k - 28) (j := (opBytes W).length) (fun hj2 => ?_) (fun hj2 => ?_)
  · have e4 := hless (k - 28) hj2
    rw [hH, List.take_append_of_le_length (by omega)]
    rcases hwf with rfl | hf0
    · rw [whoE, if_pos rfl, notE, if_neg (by rw [e4]; decide), e4]
    · rw [whoE, if_neg hf0, if_neg (by rw [e4]; decide), e4]
  · have hH2 : clH ((callB x p v c f W body).take k) = opBytes W ++ (numsB [0, 0] ++ body).take (k - 28 - (opBytes W).length) := by
      rw [hH, List.take_append, List.take_of_length_le (by omega)]
    have hR : clR ((callB x p v c f W body).take k) = (numsB [0, 0] ++ body).take (k - 28 - (opBytes W).length) := by
      rw [clR, hH2, (ho _).2.2]
      exact List.drop_left' hopl
    have hRl : (clR ((callB x p v c f W body).take k)).length = k - 28 - (opBytes W).length := by
      rw [hR, List.length_take, List.length_append, numsB_len]
      simp only [List.length_cons, List.length_nil]
      omega
    refine ⟨by rw [hH2]; exact hwe _, ?_⟩
    refine firstE_one (k := k - 28 - (opBytes W).length) (j := 4) (fun hj3 => by rw [fxnE, if_pos (by omega)]) (fun hj3 => ⟨?_, ?_⟩)
    · rw [fxnE, if_neg (by omega), hR]
      have := take_in (numsB [0, 0] ++ body) (k - 28 - (opBytes W).length) 0 (by omega)
      rw [List.drop_zero, List.drop_zero] at this
      rw [this]
      exact if_pos (be_at [0, 0] body 0 (by simp) (by simp))
    · have hN : clN ((callB x p v c f W body).take k) = (opBytes []).take (k - 28 - (opBytes W).length - 4) := by
        rw [clN, hR, List.drop_take, numsB_two, List.append_assoc, List.drop_left' (show (numsB [0]).length = 4 from rfl), List.take_append_of_le_length (by rw [show (numsB [0]).length = 4 from rfl]; omega), opBytes_nil]
      have e4 := hnless (k - 28 - (opBytes W).length - 4) (by rw [show (opBytes []).length = 4 from rfl]; omega)
      rw [firstE_stop (by rw [hN, notE, if_neg (by rw [e4]; decide), e4]; decide), hN, notE, if_neg (by rw [e4]; decide), e4]

theorem flvE_zero {zs : List Int} (h : flvE zs = 0) : 4 ≤ zs.length ∧ be (zs.take 4) ≤ 1 := by
  by_cases h1 : zs.length < 4
  · rw [flvE, if_pos h1] at h; omega
  · by_cases h2 : 1 < be (zs.take 4)
    · rw [flvE, if_neg h1, if_pos h2] at h; omega
    · exact ⟨by omega, by omega⟩
theorem fxnE_zero {zs : List Int} {n : Int} (h : fxnE zs n = 0) : 4 ≤ zs.length ∧ be (zs.take 4) = n := by
  by_cases h1 : zs.length < 4
  · rw [fxnE, if_pos h1] at h; omega
  · by_cases h2 : be (zs.take 4) = n
    · exact ⟨by omega, h2⟩
    · rw [fxnE, if_neg h1, if_neg h2] at h; omega
theorem getE_zero {zs : List Int} (h : getE zs = 0) : 4 ≤ zs.length := by
  by_cases h1 : zs.length < 4
  · rw [getE, if_pos h1] at h; omega
  · omega
theorem notE_zero {zs : List Int} (h : notE zs = 0) : opE zs 400 = 0 ∧ opZ zs 400 = [] := by
  by_cases h1 : opE zs 400 = 0
  · by_cases h2 : opZ zs 400 = []
    · exact ⟨h1, h2⟩
    · rw [notE, if_pos h1, if_neg h2] at h; omega
  · rw [notE, if_neg h1] at h; exact absurd h h1

/-- What a call that is got tells. -/
theorem clE_ok {zs : List Int} (h : clE zs = 0) : zs.length ≤ 65536 ∧ 28 ≤ zs.length ∧ be ((zs.drop 4).take 4) = 0 ∧ be ((zs.drop 8).take 4) = 2 ∧ clF zs ≤ 1 ∧ opE (clH zs) 400 = 0 ∧ (clF zs = 0 → clW zs = []) ∧ (clF zs ≠ 0 → crE (clW zs) = 0) ∧
    4 ≤ (clR zs).length ∧ be ((clR zs).take 4) = 0 ∧ opE (clN zs) 400 = 0 ∧ opZ (clN zs) 400 = [] := by
  by_cases hbig : 65536 < zs.length
  · rw [clE, if_pos hbig] at h; omega
  rw [clE, if_neg hbig, clEs] at h
  obtain ⟨e0, h⟩ := firstE_zero h
  obtain ⟨e1, h⟩ := firstE_zero h
  obtain ⟨e2, h⟩ := firstE_zero h
  obtain ⟨e3, h⟩ := firstE_zero h
  obtain ⟨e4, h⟩ := firstE_zero h
  obtain ⟨e5, h⟩ := firstE_zero h
  obtain ⟨e6, h⟩ := firstE_zero h
  obtain ⟨e7, h⟩ := firstE_zero h
  obtain ⟨e8, h⟩ := firstE_zero h
  obtain ⟨e9, h⟩ := firstE_zero h
  obtain ⟨l6, f6⟩ := flvE_zero e6
  obtain ⟨l8, f8⟩ := fxnE_zero e8
  obtain ⟨n9, z9⟩ := notE_zero e9
  rw [List.length_drop] at l6
  have hw : opE (clH zs) 400 = 0 ∧ (clF zs = 0 → clW zs = []) ∧ (clF zs ≠ 0 → crE (clW zs) = 0) := by
    by_cases hf : clF zs = 0
    · rw [whoE, if_pos hf] at e7
      obtain ⟨a, b⟩ := notE_zero e7
      exact ⟨a, fun _ => b, fun h => absurd hf h⟩
    · rw [whoE, if_neg hf] at e7
      by_cases ho : opE (clH zs) 400 = 0
      · rw [if_pos ho] at e7
        exact ⟨ho, fun h => absurd h hf, fun _ => e7⟩
      · rw [if_neg ho] at e7; exact absurd e7 ho
  exact ⟨by omega, by omega, (fxnE_zero e1).2, (fxnE_zero e2).2, f6, hw.1, hw.2.1, hw.2.2, l8, f8, n9, z9⟩

/-- What is got is put as the bytes were. -/
theorem cl_again {zs : List Int} (hb : Byt zs) (h : clE zs = 0) :
    callB (clX zs) (clP zs) (clV zs) (clC zs) (clF zs) (whoB (clF zs) (clS zs) (clM zs) (clU zs) (clG zs) (clL zs)) (clB zs) = zs ∧ NumOk (clX zs) (clP zs) (clV zs) (clC zs) ∧ WhoOk (clF zs) (clS zs) (clM zs) (clU zs) (clG zs) (clL zs) := by
  obtain ⟨hm, hl, q1, q2, qf, qo, qw0, qw1, lR, qR, qN, qZ⟩ := clE_ok h
  have hbd := fun k => byt_drop hb k
  have hrng : ∀ k, k + 4 ≤ zs.length → 0 ≤ be ((zs.drop k).take 4) ∧ be ((zs.drop k).take 4) ≤ 4294967295 := fun k hk => be_range (hbd k) (by rw [List.length_drop]; omega)
  have hf0 : 0 ≤ clF zs := (hrng 24 (by omega)).1
  have hbH : Byt (clH zs) := hbd 28
  have hbR : Byt (clR zs) := byt_drop hbH _
  have hbN : Byt (clN zs) := byt_drop hbR _
  obtain ⟨o1, o2, o3, o4⟩ := op_again hbH qo
  obtain ⟨n1, n2, n3, n4⟩ := op_again hbN qN
  have hbW : Byt (clW zs) := by
    rw [clW, opZ, if_pos qo]
    exact (byt_drop hbH 4).take _
  have hwho : whoB (clF zs) (clS zs) (clM zs) (clU zs) (clG zs) (clL zs) = clW zs := by
    by_cases hf : clF zs = 0
    · rw [whoB, if_pos hf, qw0 hf]
    · rw [whoB, if_neg hf]
      simp only [clS, clM, clU, clG, clL, if_neg hf]
      exact (cr_again hbW (qw1 hf)).1
  have e : ∀ k, k + 4 ≤ zs.length → bytesOf (be ((zs.drop k).take 4)) 4 = (zs.drop k).take 4 := fun k hk => bytesOf_be_take _ (hbd k) 4 (by rw [List.length_drop]; omega)
  have t : ∀ k, (zs.drop k).take 4 ++ zs.drop (k + 4) = zs.drop k := fun k => by rw [← List.drop_drop, List.take_append_drop]
  have e0 : bytesOf (clX zs) 4 = (zs.drop 0).take 4 := by simpa [clX] using e 0 (by omega)
  have e1 : bytesOf 0 4 = (zs.drop 4).take 4 := by rw [← e 4 (by omega), q1]
  have e2 : bytesOf 2 4 = (zs.drop 8).take 4 := by rw [← e 8 (by omega), q2]
  have e3 : bytesOf (clP zs) 4 = (zs.drop 12).take 4 := e 12 (by omega)
  have e4 : bytesOf (clV zs) 4 = (zs.drop 16).take 4 := e 16 (by omega)
  have e5 : bytesOf (clC zs) 4 = (zs.drop 20).take 4 := e 20 (by omega)
  have e6 : bytesOf (clF zs) 4 = (zs.drop 24).take 4 := e 24 (by omega)
  have hN : opBytes [] ++ clB zs = clN zs := by
    rw [qZ] at n1
    rw [n1, clB, List.take_append_drop]
  have hR : numsB [0, 0] ++ clB zs = clR zs := by
    rw [numsB_two, List.append_assoc, ← opBytes_nil, hN, opBytes_nil, numsB_one, show bytesOf 0 4 = (clR zs).take 4 from by rw [← bytesOf_be_take _ hbR 4 lR, qR], clN, List.take_append_drop]
  have hH : opBytes (clW zs) ++ clR zs = clH zs := by
    rw [show opBytes (clW zs) = (clH zs).take (opL (clH zs) 400) from o1, clR, List.take_append_drop]
  refine ⟨?_, ⟨by simpa [clX] using hrng 0 (by omega), hrng 12 (by omega), hrng 16 (by omega), hrng 20 (by omega)⟩, ⟨?_⟩⟩
  · rw [hwho, callB, hR, hH]
    simp only [numsB, List.flatMap_cons, List.flatMap_nil, List.append_assoc, List.nil_append, e0, e1, e2, e3, e4, e5, e6, clH]
    rw [t 24, t 20, t 16, t 12, t 8, t 4, t 0, List.drop_zero]
  · by_cases hf : clF zs = 0
    · exact .inl ⟨hf, by simp only [clS, clM, clU, clG, clL, if_pos hf]; simp⟩
    · refine .inr ⟨by omega, ?_⟩
      simp only [clS, clM, clU, clG, clL, if_neg hf]
      exact (cr_again hbW (qw1 hf)).2

/-- Which number is fixed, and where. -/
def fixAt (k : Nat) : Nat := if k = 0 then 4 else if k = 1 then 8 else 24
/-- Another number in the place of one that is fixed is refused. -/
theorem cl_fixed {x p v c f n : Int} (hn : NumOk x p v c) (hf : 0 ≤ f ∧ f ≤ 4294967295) (hnr : 0 ≤ n ∧ n ≤ 4294967295) (t more : List Int) (k : Nat) (h : (k = 0 ∧ n ≠ 0) ∨ (k = 1 ∧ n ≠ 2) ∨ (k = 2 ∧ 1 < n)) (hm : more.length ≤ 60000) :
    clE ((numsB [x, 0, 2, p, v, c, f] ++ t).take (fixAt k) ++ (bytesOf n 4 ++ more)) = 5 := by
  have hz : ∀ ns : List Int, numsB ns ++ (bytesOf n 4 ++ more) = numsB (ns ++ [n]) ++ more := fun ns => by rw [numsB_append, numsB_one, List.append_assoc]
  have htk : ∀ j, j ≤ 7 → (numsB [x, 0, 2, p, v, c, f] ++ t).take (4 * j) = numsB ([x, 0, 2, p, v, c, f].take j) := fun j hj => by
    have e : numsB [x, 0, 2, p, v, c, f] = numsB ([x, 0, 2, p, v, c, f].take j) ++ numsB ([x, 0, 2, p, v, c, f].drop j) := by rw [← numsB_append, List.take_append_drop]
    rw [e, List.append_assoc]
    refine List.take_left' ?_
    rw [numsB_len, List.length_take]
    simp only [List.length_cons, List.length_nil]
    omega
  rcases h with ⟨rfl, h⟩ | ⟨rfl, h⟩ | ⟨rfl, h⟩
  · rw [show fixAt 0 = 4 * 1 from rfl, htk 1 (by omega), hz]
    have hl : (numsB [x, n] ++ more).length = 8 + more.length := by rw [List.length_append, numsB_len]; rfl
    have b1 := be_at [x, n] more 1 (by simp) hnr
    show clE (numsB [x, n] ++ more) = 5
    rw [clE, if_neg (by omega), clEs, firstE_go (by rw [getE, if_neg (by omega)])]
    have e5 : fxnE ((numsB [x, n] ++ more).drop 4) 0 = 5 := by
      rw [fxnE, if_neg (by rw [List.length_drop]; omega), if_neg]
      rw [show be (((numsB [x, n] ++ more).drop 4).take 4) = n from b1]
      exact h
    rw [firstE_stop (by rw [e5]; decide), e5]
  · rw [show fixAt 1 = 4 * 2 from rfl, htk 2 (by omega), hz]
    have hl : (numsB [x, 0, n] ++ more).length = 12 + more.length := by rw [List.length_append, numsB_len]; rfl
    have b1 := be_at [x, 0, n] more 1 (by simp) (by simp)
    have b2 := be_at [x, 0, n] more 2 (by simp) hnr
    show clE (numsB [x, 0, n] ++ more) = 5
    rw [clE, if_neg (by omega), clEs, firstE_go (by rw [getE, if_neg (by omega)])]
    rw [firstE_go (by rw [fxnE, if_neg (by rw [List.length_drop]; omega)]; exact if_pos b1)]
    have e5 : fxnE ((numsB [x, 0, n] ++ more).drop 8) 2 = 5 := by
      rw [fxnE, if_neg (by rw [List.length_drop]; omega), if_neg]
      rw [show be (((numsB [x, 0, n] ++ more).drop 8).take 4) = n from b2]
      exact h
    rw [firstE_stop (by rw [e5]; decide), e5]
  · rw [show fixAt 2 = 4 * 6 from rfl, htk 6 (by omega), hz]
    have hl : (numsB [x, 0, 2, p, v, c, n] ++ more).length = 28 + more.length := by rw [List.length_append, numsB_len]; rfl
    obtain ⟨b0, b1, b2, b3, b4, b5, b6, bt⟩ := seven hn hnr more
    show clE (numsB [x, 0, 2, p, v, c, n] ++ more) = 5
    have hd : ∀ k, k ≤ 24 → ¬ ((numsB [x, 0, 2, p, v, c, n] ++ more).drop k).length < 4 := fun k hk => by rw [List.length_drop]; omega
    rw [clE, if_neg (by omega), clEs, firstE_go (by rw [getE, if_neg (by omega)])]
    rw [firstE_go (by rw [fxnE, if_neg (hd 4 (by omega)), if_pos b1]), firstE_go (by rw [fxnE, if_neg (hd 8 (by omega)), if_pos b2])]
    rw [firstE_go (by rw [getE, if_neg (hd 12 (by omega))]), firstE_go (by rw [getE, if_neg (hd 16 (by omega))]), firstE_go (by rw [getE, if_neg (hd 20 (by omega))])]
    have e5 : flvE ((numsB [x, 0, 2, p, v, c, n] ++ more).drop 24) = 5 := by
      rw [flvE, if_neg (hd 24 (by omega)), b6, if_pos h]
    rw [firstE_stop (by rw [e5]; decide), e5]
end Go.Proofs.YtciinabhelfnoaaGreatDoor
