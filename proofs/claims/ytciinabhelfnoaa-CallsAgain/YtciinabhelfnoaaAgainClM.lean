/- The law CallsAgain: the walk. -/
import Derived.Test.YtciinabhelfnoaaAliveClM
import Derived.Test.YtciinabhelfnoaaCallErrM
import Derived.Test.YtciinabhelfnoaaCallMath2M
import Derived.Test.YtciinabhelfnoaaOwnVal4
namespace Go.Proofs.Ytciinabhelfnoaa
set_option linter.unusedVariables false
open Go.RowKit

theorem byt_crM {zs : List Int} (hb : Byt zs) : Byt (crM zs) := by
  unfold crM opZ
  split
  · exact (byt_drop (byt_drop hb 4) 4).take _
  · intro i; simp

theorem byt_clM {zs : List Int} (hb : Byt zs) : Byt (clM zs) := by
  unfold clM
  split
  · intro i; simp
  · exact byt_crM (byt_opZ (byt_drop hb 28))

/-- A call that was got may be put, as it was. -/
theorem got_ok {zs : List Int} (hb : Byt zs) (h : clE zs = 0) {w : World} {ga : Option Addr} {gc : Nat} {ba : Option Addr} {bc : Nat} (hg : Seg4 w ga (clL zs)) (hgc : (clL zs).length ≤ gc) (hbs : Seg w ba (clB zs)) (hbc : (clB zs).length ≤ bc) (hbn : ba = none → (clB zs).length = 0 ∧ bc = 0) :
    CallOk (clX zs) (clP zs) (clV zs) (clC zs) (clF zs) (strOfNums (clM zs)) (clS zs) (clU zs) (clG zs) ga (clL zs).length gc ba (clB zs).length bc (clL zs) (clB zs) w ∧ MayWho (clF zs) (strOfNums (clM zs)) (clS zs) (clU zs) (clG zs) (clL zs).length ∧ callZ (clX zs) (clP zs) (clV zs) (clC zs) (clF zs) (clS zs) (strOfNums (clM zs)) (clU zs) (clG zs) (clL zs) (clB zs) = zs := by
  obtain ⟨hag, hn, hw⟩ := cl_again hb h
  have hzl := (clE_ok h).1
  have htz : tz (strOfNums (clM zs)) = clM zs := tz_str (byt_clM hb)
  have hsz : (strOfNums (clM zs)).size = (clM zs).length := by rw [← tz_len, htz]
  have hbb : Byt (clB zs) := byt_drop (byt_drop (byt_drop (byt_drop hb 28) _) 4) _
  have hbl : (clB zs).length ≤ 65536 := by
    simp only [clB, clN, clR, clH, List.length_drop]
    omega
  have hf : clF zs = 0 ∨ clF zs = 1 := (who_len hw).2
  rcases hw.ok with ⟨q0, q1, q2, q3, q4, q5⟩ | ⟨q0, hc⟩
  · refine ⟨⟨hn.okX, hn.okP, hn.okV, hn.okC, by omega, by rw [hsz, q2]; simp, by omega, by omega, by omega, hgc, by rw [q5]; simp, rfl, by rw [q5]; intro i; simp, hg, hbc, by omega, rfl, hbb, hbs, hbn⟩, .inl ⟨q0, by rw [hsz, q2]; rfl, q1, q3, q4, by rw [q5]; rfl⟩, ?_⟩
    rw [callZ, htz]
    exact hag
  · refine ⟨⟨hn.okX, hn.okP, hn.okV, hn.okC, by omega, by rw [hsz]; have := hc.okM; omega, hc.okS, hc.okU, hc.okG, hgc, by have := hc.okN; omega, rfl, u32s_of_all hc.okL, hg, hbc, by omega, rfl, hbb, hbs, hbn⟩, .inr ⟨q0, by rw [hsz]; exact hc.okM, hc.okN⟩, ?_⟩
    rw [callZ, htz]
    exact hag

set_option maxRecDepth 100000 in
set_option maxHeartbeats 2000000 in
theorem clagain_walk (a : Option Addr) (len cap : Nat) (zs : List Int) (w : World) (hlc : len ≤ cap) (hm : cap ≤ 140737488351232) (hz : zs.length = len) (hb : Byt zs) (hs : Seg w a zs) (hn : a = none → len = 0 ∧ cap = 0) :
    Calls Try.prog 4 #[.slice a len cap] w fun e w' => e = .returned (.bool true) ∧ Below w.heap.size w w' := by
  by_cases hbig : 200000 < len
  · have hx : (200000 : Int) < len := by omega
    go_enter Try.func4, Try.ntmps4
    go_wp2_with fail
    refine (alive_any w).mono ?_
    rintro e w1 ⟨rfl, hB1⟩
    go_wp2_with fail
    refine (alive_any w1).mono ?_
    rintro e w2 ⟨rfl, hb2⟩
    have hB2 := hB1.trans (hb2.mono hB1.size)
    go_wp2
    go_ret
    exact ⟨rfl, hB2⟩
  · have hx : ¬ (200000 : Int) < len := by omega
    go_enter Try.func4, Try.ntmps4
    go_wp2_with fail
    refine (alive_any w).mono ?_
    rintro e w1 ⟨rfl, hB1⟩
    go_wp2_with fail
    refine (clget_any a len cap zs w1 hlc (by omega) hz hb (hs.below hB1) hn).mono ?_
    rintro e w2 ⟨hb2, ⟨hne, rfl⟩ | ⟨h0, ga, gc, ba, bc, rfl, og, od⟩⟩
    · have hB2 := hB1.trans (hb2.mono hB1.size)
      have hof := clE_of zs
      have hx1 : (clE zs != 0) = true := by simp [hne]
      have hx2 : (clE zs != 1) = true := by
        rcases hof with h | h | h | h
        · exact absurd h hne
        · rw [h]; rfl
        · rw [h]; rfl
        · rw [h]; rfl
      clear hof hne hb2 hB1
      generalize clE zs = E at *
      have hB3 := hB2.alloc hB2.size (.cells #[.int .u32 0, .int .u32 0, .int .u32 0, .int .u32 0, .int .u32 0, .string ⟨#[]⟩, .int .u32 0, .int .u32 0, .int .u32 0, .slice none 0 0, .slice none 0 0] 28)
      go_wp2
      go_ret
      exact ⟨rfl, hB3⟩
    · have hB2 := hB1.trans (hb2.mono hB1.size)
      obtain ⟨g1, k1, e1, sg, hgc, hgm, _⟩ := own_val4 og rfl
      obtain ⟨b1, k2, e2, sb, hbc, hbm, hbn⟩ := own_val od rfl
      injection e1 with e11 _ e12
      injection e2 with e21 _ e22
      subst e11 e12 e21 e22
      have hfl : clF zs ≤ 1 := by have := (clE_ok h0).2.2.2.2.1; exact this
      have hfl0 : 0 ≤ clF zs := (got_ok hb h0 sg hgc sb hbc hbn).1.hf.1
      have hmx := (clE_ok h0).1
      have hput := fun (W : World) (hB : Below w2.heap.size w2 W) => clput_any (clX zs) (clP zs) (clV zs) (clC zs) (clF zs) (strOfNums (clM zs)) (clS zs) (clU zs) (clG zs) ga (clL zs).length gc ba (clB zs).length bc (clL zs) (clB zs) W ((got_ok hb h0 sg hgc sb hbc hbn).1.below hB)
      obtain ⟨_, hmay, hcz⟩ := got_ok hb h0 sg hgc sb hbc hbn
      rw [hcz] at hput
      clear hb2 hB1 og od hcz h0
      generalize clX zs = X at *
      generalize clP zs = P at *
      generalize clV zs = V at *
      generalize clC zs = C at *
      generalize clF zs = F at *
      generalize strOfNums (clM zs) = M at *
      generalize clS zs = S at *
      generalize clU zs = U at *
      generalize clG zs = G at *
      generalize (clL zs).length = gl at *
      generalize (clB zs).length = bl at *
      go_wp2_with fail
      have hb3 : Below w2.heap.size w2 (w2.alloc (.cells #[.int .u32 X, .int .u32 P, .int .u32 V, .int .u32 C, .int .u32 F, .string M, .int .u32 S, .int .u32 U, .int .u32 G, .slice ga gl gc, .slice ba bl bc] 28)) := (Below.refl _ _).alloc (Nat.le_refl _) _
      have hc3 : (w2.alloc (.cells #[.int .u32 X, .int .u32 P, .int .u32 V, .int .u32 C, .int .u32 F, .string M, .int .u32 S, .int .u32 U, .int .u32 G, .slice ga gl gc, .slice ba bl bc] 28)).heap[w2.heap.size]? = some (.cells #[.int .u32 X, .int .u32 P, .int .u32 V, .int .u32 C, .int .u32 F, .string M, .int .u32 S, .int .u32 U, .int .u32 G, .slice ga gl gc, .slice ba bl bc] 28) := heap_alloc_new w2 _
      generalize w2.alloc (.cells #[.int .u32 X, .int .u32 P, .int .u32 V, .int .u32 C, .int .u32 F, .string M, .int .u32 S, .int .u32 U, .int .u32 G, .slice ga gl gc, .slice ba bl bc] 28) = w3 at *
      have hB3 := hB2.trans (hb3.mono hB2.size)
      refine (hput w3 hb3).mono ?_
      rintro e w4 ⟨hb4, ⟨hno, _⟩ | ⟨_, hbg, _⟩ | ⟨_, _, vb, rfl, ob⟩⟩
      · exact absurd hmay hno
      · omega
      have hB4 := hB3.trans (hb4.mono hB3.size)
      obtain ⟨a5, k5, rfl, s5, hk5, hm5, _⟩ := own_val ob rfl
      replace hc3 := (hb4.block _ (Array.getElem?_eq_some_iff.1 hc3).1).trans hc3
      have sz := hs.below hB4
      clear hput hb4 ob hB3 hmay sg sb
      rw [hz] at hk5 ⊢
      go_wp2_with fail
      refine (same_true a5 a len k5 cap zs w4 (by omega) hz s5 sz).mono ?_
      rintro e w5 ⟨rfl, n5, hw5⟩
      have hb5 : Below w4.heap.size w4 w5 := by rw [hw5]; exact below_drewN (Below.refl _ _) n5
      have hB5 := hB4.trans (hb5.mono hB4.size)
      replace hc3 := (hb5.block _ (Array.getElem?_eq_some_iff.1 hc3).1).trans hc3
      obtain ⟨_, _, _, _, c4, _, _, _, _, _, _⟩ := call_at hc3
      clear hb5 hw5 hB4 hc3
      go_wp2
      go_ret
      exact ⟨rfl, hB5⟩
end Go.Proofs.Ytciinabhelfnoaa
