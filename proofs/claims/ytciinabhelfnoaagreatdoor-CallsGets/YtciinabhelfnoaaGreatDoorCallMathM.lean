/- Calls by bytes: the answer as plain mathematics. -/
import Derived.Test.YtciinabhelfnoaaGreatDoorCredMath2M
namespace Go.Proofs.YtciinabhelfnoaaGreatDoor
set_option linter.unusedVariables false

/-- The first that is not 0. -/
def firstE : List Int → Int
  | [] => 0
  | e :: es => if e = 0 then firstE es else e

theorem firstE_go {e : Int} {es : List Int} (h : e = 0) : firstE (e :: es) = firstE es := by rw [firstE, if_pos h]
theorem firstE_stop {e : Int} {es : List Int} (h : e ≠ 0) : firstE (e :: es) = e := by rw [firstE, if_neg h]
theorem firstE_zero {e : Int} {es : List Int} (h : firstE (e :: es) = 0) : e = 0 ∧ firstE es = 0 := by
  by_cases he : e = 0
  · rw [firstE_go he] at h; exact ⟨he, h⟩
  · rw [firstE_stop he] at h; exact absurd h he

/-- A number that is fixed. -/
def fxnE (zs : List Int) (want : Int) : Int := if zs.length < 4 then 4 else if be (zs.take 4) = want then 0 else 5
/-- Nothing is told. -/
def notE (zs : List Int) : Int := if opE zs 400 = 0 then (if opZ zs 400 = [] then 0 else 5) else opE zs 400
/-- How who calls is told. -/
def flvE (zs : List Int) : Int := if zs.length < 4 then 4 else if 1 < be (zs.take 4) then 5 else 0
/-- Who calls. -/
def whoE (zs : List Int) (f : Int) : Int := if f = 0 then notE zs else if opE zs 400 = 0 then crE (opZ zs 400) else opE zs 400

def clX (zs : List Int) : Int := be (zs.take 4)
def clP (zs : List Int) : Int := be ((zs.drop 12).take 4)
def clV (zs : List Int) : Int := be ((zs.drop 16).take 4)
def clC (zs : List Int) : Int := be ((zs.drop 20).take 4)
def clF (zs : List Int) : Int := be ((zs.drop 24).take 4)
def clH (zs : List Int) : List Int := zs.drop 28
def clW (zs : List Int) : List Int := opZ (clH zs) 400
def clR (zs : List Int) : List Int := (clH zs).drop (opL (clH zs) 400)
def clN (zs : List Int) : List Int := (clR zs).drop 4
def clB (zs : List Int) : List Int := (clN zs).drop (opL (clN zs) 400)
def clS (zs : List Int) : Int := if clF zs = 0 then 0 else crS (clW zs)
def clM (zs : List Int) : List Int := if clF zs = 0 then [] else crM (clW zs)
def clU (zs : List Int) : Int := if clF zs = 0 then 0 else crU (clW zs)
def clG (zs : List Int) : Int := if clF zs = 0 then 0 else crG (clW zs)
def clL (zs : List Int) : List Int := if clF zs = 0 then [] else crL (clW zs)

/-- The errors, from the front. -/
def clEs (zs : List Int) : List Int :=
  [getE zs, fxnE (zs.drop 4) 0, fxnE (zs.drop 8) 2, getE (zs.drop 12), getE (zs.drop 16), getE (zs.drop 20), flvE (zs.drop 24), whoE (clH zs) (clF zs), fxnE (clR zs) 0, notE (clN zs)]
/-- The error. -/
def clE (zs : List Int) : Int := if 65536 < zs.length then 3 else firstE (clEs zs)

/-- The bytes of who calls. -/
def whoB (f s : Int) (m : List Int) (u g : Int) (gs : List Int) : List Int := if f = 0 then [] else credB s m u g gs
/-- The bytes of a call. -/
def callB (x p v c f : Int) (who body : List Int) : List Int := numsB [x, 0, 2, p, v, c, f] ++ (opBytes who ++ (numsB [0, 0] ++ body))

theorem callB_more (x p v c f : Int) (who body more : List Int) : callB x p v c f who body ++ more = callB x p v c f who (body ++ more) := by
  simp only [callB, List.append_assoc]
theorem callB_length (x p v c f : Int) (who body : List Int) : (callB x p v c f who body).length = 28 + (4 + (who.length + padN who.length)) + 8 + body.length := by
  simp only [callB, List.length_append, numsB_len, opBytes_length, List.length_cons, List.length_nil]
  omega

structure WhoOk (f s : Int) (m : List Int) (u g : Int) (gs : List Int) : Prop where
  ok : (f = 0 ∧ s = 0 ∧ m = [] ∧ u = 0 ∧ g = 0 ∧ gs = []) ∨ (f = 1 ∧ CrOk s m u g gs)
structure NumOk (x p v c : Int) : Prop where
  okX : 0 ≤ x ∧ x ≤ 4294967295
  okP : 0 ≤ p ∧ p ≤ 4294967295
  okV : 0 ≤ v ∧ v ≤ 4294967295
  okC : 0 ≤ c ∧ c ≤ 4294967295

theorem crB_le {s : Int} {m : List Int} {u g : Int} {gs : List Int} (h : CrOk s m u g gs) : (credB s m u g gs).length ≤ 344 := by
  rw [credB_length]
  have h1 := h.okM
  have h2 := h.okN
  have h3 := padN_lt m.length
  omega

/-- A number among numbers, with anything behind. -/
theorem num_at (ns t : List Int) (i : Nat) (h : i < ns.length) : ((numsB ns ++ t).drop (4 * i)).take 4 = bytesOf ns[i] 4 ∧ (numsB ns ++ t).drop (4 * (i + 1)) = numsB (ns.drop (i + 1)) ++ t := by
  have e : numsB ns = numsB (ns.take i) ++ (bytesOf ns[i] 4 ++ numsB (ns.drop (i + 1))) := by
    rw [← numsB_cons, ← List.drop_eq_getElem_cons h, ← numsB_append, List.take_append_drop]
  have hl : (numsB (ns.take i)).length = 4 * i := by rw [numsB_len, List.length_take]; omega
  have d1 : (numsB ns ++ t).drop (4 * i) = bytesOf ns[i] 4 ++ (numsB (ns.drop (i + 1)) ++ t) := by
    rw [e, List.append_assoc, List.drop_left' hl, List.append_assoc]
  refine ⟨by rw [d1]; exact List.take_left' (bytesOf_length _ 4), ?_⟩
  rw [show 4 * (i + 1) = 4 * i + 4 from by omega, ← List.drop_drop, d1]
  exact List.drop_left' (bytesOf_length _ 4)

theorem be_at (ns t : List Int) (i : Nat) (h : i < ns.length) (hr : 0 ≤ ns[i] ∧ ns[i] ≤ 4294967295) : be (((numsB ns ++ t).drop (4 * i)).take 4) = ns[i] := by
  rw [(num_at ns t i h).1]
  exact be4 hr

/-- The seven numbers of a call, whatever stands behind. -/
theorem seven {x p v c f : Int} (hn : NumOk x p v c) (hf : 0 ≤ f ∧ f ≤ 4294967295) (t : List Int) :
    be ((numsB [x, 0, 2, p, v, c, f] ++ t).take 4) = x ∧ be (((numsB [x, 0, 2, p, v, c, f] ++ t).drop 4).take 4) = 0 ∧ be (((numsB [x, 0, 2, p, v, c, f] ++ t).drop 8).take 4) = 2 ∧
    be (((numsB [x, 0, 2, p, v, c, f] ++ t).drop 12).take 4) = p ∧ be (((numsB [x, 0, 2, p, v, c, f] ++ t).drop 16).take 4) = v ∧ be (((numsB [x, 0, 2, p, v, c, f] ++ t).drop 20).take 4) = c ∧
    be (((numsB [x, 0, 2, p, v, c, f] ++ t).drop 24).take 4) = f ∧ (numsB [x, 0, 2, p, v, c, f] ++ t).drop 28 = t :=
  ⟨be_at [x, 0, 2, p, v, c, f] t 0 (by simp) hn.okX, be_at [x, 0, 2, p, v, c, f] t 1 (by simp) (by simp), be_at [x, 0, 2, p, v, c, f] t 2 (by simp) (by simp),
    be_at [x, 0, 2, p, v, c, f] t 3 (by simp) hn.okP, be_at [x, 0, 2, p, v, c, f] t 4 (by simp) hn.okV, be_at [x, 0, 2, p, v, c, f] t 5 (by simp) hn.okC, be_at [x, 0, 2, p, v, c, f] t 6 (by simp) hf,
    (num_at [x, 0, 2, p, v, c, f] t 6 (by simp)).2⟩

theorem who_len {f s : Int} {m : List Int} {u g : Int} {gs : List Int} (h : WhoOk f s m u g gs) : (whoB f s m u g gs).length ≤ 344 ∧ (f = 0 ∨ f = 1) := by
  rcases h.ok with ⟨rfl, _⟩ | ⟨rfl, hc⟩
  · exact ⟨by simp [whoB], .inl rfl⟩
  · exact ⟨by rw [whoB, if_neg (by decide)]; exact crB_le hc, .inr rfl⟩

theorem who_err {f s : Int} {m : List Int} {u g : Int} {gs : List Int} (h : WhoOk f s m u g gs) (t : List Int) : whoE (opBytes (whoB f s m u g gs) ++ t) f = 0 := by
  have hl := (who_len h).1
  obtain ⟨o1, o2, o3⟩ := op_more (whoB f s m u g gs) t 400 (by omega) (by omega)
  rcases h.ok with ⟨rfl, _⟩ | ⟨rfl, hc⟩
  · rw [whoE, if_pos rfl, notE, if_pos o1, o2, whoB, if_pos rfl, if_pos rfl]
  · rw [whoE, if_neg (by decide), if_pos o1, o2, whoB, if_neg (by decide)]
    have := (cr_put s m u g gs [] hc).1
    rwa [List.append_nil, if_pos rfl] at this

theorem fields_got {f s : Int} {m : List Int} {u g : Int} {gs : List Int} (h : WhoOk f s m u g gs) {zs : List Int} (hf : clF zs = f) (hw : clW zs = whoB f s m u g gs) :
    clS zs = s ∧ clM zs = m ∧ clU zs = u ∧ clG zs = g ∧ clL zs = gs := by
  simp only [clS, clM, clU, clG, clL, hf, hw]
  rcases h.ok with ⟨rfl, rfl, rfl, rfl, rfl, rfl⟩ | ⟨rfl, hc⟩
  · simp
  · have := cr_put s m u g gs [] hc
    rw [List.append_nil] at this
    obtain ⟨_, q1, q2, q3, q4, q5⟩ := this
    simp only [whoB, if_neg (show ¬ (1 : Int) = 0 by decide)]
    exact ⟨q1, q2, q3, q4, q5⟩

theorem opBytes_nil : opBytes [] = numsB [0] := by decide
theorem numsB_two (x y : Int) : numsB [x, y] = numsB [x] ++ numsB [y] := by simp [numsB]

/-- What is put is got; whatever stands behind is of the Body. -/
theorem cl_put {x p v c f s : Int} {m : List Int} {u g : Int} {gs : List Int} (hn : NumOk x p v c) (h : WhoOk f s m u g gs) (body : List Int) :
    (clE (callB x p v c f (whoB f s m u g gs) body) = if 65536 < (callB x p v c f (whoB f s m u g gs) body).length then 3 else 0) ∧ clX (callB x p v c f (whoB f s m u g gs) body) = x ∧ clP (callB x p v c f (whoB f s m u g gs) body) = p ∧
    clV (callB x p v c f (whoB f s m u g gs) body) = v ∧ clC (callB x p v c f (whoB f s m u g gs) body) = c ∧ clF (callB x p v c f (whoB f s m u g gs) body) = f ∧ clW (callB x p v c f (whoB f s m u g gs) body) = whoB f s m u g gs ∧ clB (callB x p v c f (whoB f s m u g gs) body) = body := by
  obtain ⟨hwl, hf⟩ := who_len h
  have hfr : 0 ≤ f ∧ f ≤ 4294967295 := by omega
  have hcl := callB_length x p v c f (whoB f s m u g gs) body
  have hwe := who_err h (numsB [0, 0] ++ body)
  obtain ⟨o1, o2, o3⟩ := op_more (whoB f s m u g gs) (numsB [0, 0] ++ body) 400 (by omega) (by omega)
  obtain ⟨n1, n2, n3⟩ := op_more [] body 400 (by decide) (by decide)
  generalize whoB f s m u g gs = W at *
  obtain ⟨b0, b1, b2, b3, b4, b5, b6, bt⟩ := seven hn hfr (opBytes W ++ (numsB [0, 0] ++ body))
  rw [show numsB [x, 0, 2, p, v, c, f] ++ (opBytes W ++ (numsB [0, 0] ++ body)) = callB x p v c f W body from rfl] at b0 b1 b2 b3 b4 b5 b6 bt
  have hH : clH (callB x p v c f W body) = opBytes W ++ (numsB [0, 0] ++ body) := bt
  have hF : clF (callB x p v c f W body) = f := b6
  have hR : clR (callB x p v c f W body) = numsB [0, 0] ++ body := by rw [clR, hH, o3]; exact List.drop_left' (opBytes_length _)
  have hN : clN (callB x p v c f W body) = opBytes [] ++ body := by
    rw [clN, hR, opBytes_nil, numsB_two, List.append_assoc]
    exact List.drop_left' rfl
  have hz0 : be ((numsB [0, 0] ++ body).take 4) = 0 := be_at [0, 0] body 0 (by simp) (by simp)
  have hL : ∀ k, k ≤ 24 → ¬ ((callB x p v c f W body).drop k).length < 4 := fun k hk => by rw [List.length_drop]; omega
  refine ⟨?_, b0, b3, b4, b5, hF, by rw [clW, hH]; exact o2, ?_⟩
  · by_cases hbig : 65536 < (callB x p v c f W body).length
    · rw [clE, if_pos hbig, if_pos hbig]
    · rw [clE, if_neg hbig, if_neg hbig, clEs]
      rw [firstE_go (by rw [getE, if_neg (by omega)])]
      rw [firstE_go (by rw [fxnE, if_neg (hL 4 (by omega)), if_pos b1])]
      rw [firstE_go (by rw [fxnE, if_neg (hL 8 (by omega)), if_pos b2])]
      rw [firstE_go (by rw [getE, if_neg (hL 12 (by omega))]), firstE_go (by rw [getE, if_neg (hL 16 (by omega))]), firstE_go (by rw [getE, if_neg (hL 20 (by omega))])]
      rw [firstE_go (by rw [flvE, if_neg (hL 24 (by omega)), show be (((callB x p v c f W body).drop 24).take 4) = f from b6, if_neg (by omega)])]
      rw [firstE_go (by rw [hH, hF]; exact hwe)]
      rw [firstE_go (by
        rw [hR, fxnE, if_neg (by rw [List.length_append, numsB_len]; simp; omega), if_pos hz0])]
      rw [firstE_go (by rw [hN, notE, if_pos n1, n2, if_pos rfl])]
      rfl
  · rw [clB, hN, n3]
    exact List.drop_left' (opBytes_length _)
end Go.Proofs.YtciinabhelfnoaaGreatDoor
