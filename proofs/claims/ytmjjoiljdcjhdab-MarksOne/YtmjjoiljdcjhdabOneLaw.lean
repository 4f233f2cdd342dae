/- The walk of 'MarksOne': true for any bytes; nothing that was there turns. -/
import Derived.Test.YtmjjoiljdcjhdabAliveMk
import Derived.Test.YtmjjoiljdcjhdabMsgLists
namespace Go.Proofs.Ytmjjoiljdcjhdab
set_option linter.unusedVariables false
open Go.RowKit

set_option maxRecDepth 100000 in
set_option maxHeartbeats 4000000 in
theorem one_walk (a : Option Addr) (len cap : Nat) (zs : List Int) (w : World)
    (hlc : len ≤ cap) (hm : cap ≤ 140737488351232) (hz : zs.length = len) (hb : Byt zs) (hs : Seg w a zs) (hnil : a = none → len = 0 ∧ cap = 0) :
    Calls Try.prog 3 #[.slice a len cap] w fun e w' => e = .returned (.bool true) ∧ Below w.heap.size w w' := by
  by_cases hl : 100000 < len
  · go_enter Try.func3, Try.ntmps3
    go_wp2_with fail
    refine (alive_any w).mono ?_
    rintro e w1 ⟨rfl, hB1⟩
    go_wp2_with fail
    refine (alive_any w1).mono ?_
    rintro e w2 ⟨rfl, hB2⟩
    go_wp2
    go_ret
    exact ⟨rfl, hB1.trans (hB2.mono hB1.size)⟩
  · go_enter Try.func3, Try.ntmps3
    go_wp2_with fail
    refine (alive_any w).mono ?_
    rintro e w1 ⟨rfl, hB1⟩
    go_wp2_with fail
    refine (mget_any a len cap zs w1 hlc (by omega) hz hb (hs.below hB1) hnil).mono ?_
    rintro e w2 ⟨v2, rfl, hown2, hb2⟩
    have hB2 := hB1.trans (hb2.mono hB1.size)
    go_wp2_with fail
    refine (all_any a len cap zs w2 (by omega) hlc (by omega) hz hb (hs.below hB2) hnil).mono ?_
    rintro e w3 ⟨v3, ps1, rfl, he1, hr1, ho1, _, hb3⟩
    have hB3 := hB2.trans (hb3.mono hB2.size)
    replace hown2 := own_below hown2 hb3
    clear hb2 hb3 hB1 hB2
    by_cases hE : (mg 65536 zs).1 = 0
    · have hms := mg_size 65536 zs hE
      rw [hz] at hms
      have hall : Hid (mall zs = ((mg 65536 zs).2.1 :: (mall (zs.drop (mg 65536 zs).2.2)).1, (mg 65536 zs).2.2 + (mall (zs.drop (mg 65536 zs).2.2)).2.1, (mall (zs.drop (mg 65536 zs).2.2)).2.2)) := mall_ok zs hE
      rw [hE]
      clear hE
      generalize (mg 65536 zs).2.1 = Z at *
      generalize (mg 65536 zs).2.2 = L at *
      obtain ⟨a2, c2, rfl, hs2, _⟩ := own_val hown2 rfl
      have hpos : 0 < ps1.length := by
        have h1 := congrArg List.length he1
        rw [hall.out] at h1
        simp only [List.length_map, List.length_cons] at h1
        omega
      rcases hr1.2 with ⟨_, h0⟩ | ⟨g1, cl, cur, rfl, _, _, hc1, _⟩
      · omega
      · obtain ⟨hg1, _, _⟩ := own_segs hr1 rfl
        have hi1 : ∀ p ∈ ps1, p.In w3 := fun p hh => (ho1 p hh).isIn
        have hsmall := parts_small he1 ho1
        have hp0 : ps1[0].zs = Z := by
          have := congrArg (fun l => l[0]?) he1
          rw [hall.out] at this
          simpa [List.getElem?_map, List.getElem?_eq_getElem hpos] using this
        have hc0 : w3.cell? ⟨g1, 0, none⟩ = some ps1[0].v := by
          rcases hg1 with h0 | ⟨b, off, e, hc⟩
          · rw [h0] at hpos
            simp at hpos
          · cases e
            exact hc 0 hpos
        have hin0 := hi1 ps1[0] (List.getElem_mem _)
        have hpl1 : ps1.length ≤ 1000000 := by
          have h1 := congrArg List.length he1
          rw [List.length_map] at h1
          have h2 := mall_size zs
          rw [hz] at h2
          omega
        generalize ps1[0] = p0 at hp0 hc0 hin0
        obtain ⟨pa, pl, pc, pz⟩ := p0
        obtain ⟨h1, h2, h3⟩ := hin0
        simp only at h1 h2 h3 hp0
        simp only [Part.v] at hc0
        subst hp0
        subst h1
        clear hown2 hr1 ho1
        have q0 : (0 : Int) < (ps1.length : Int) := by omega
        have q1 : ((ps1.length : Int) == 0) = false := by rw [beq_eq_false_iff_ne]; omega
        rcases hs with rfl | ⟨b, off, rfl, hc⟩
        · simp at hz; omega
        · have hs : Seg w (some ⟨b, off, none⟩) zs := .inr ⟨b, off, rfl, hc⟩
          clear hc
          go_wp2_with fail
          refine (same_true _ _ pz.length pc c2 pz w3 (by omega) rfl h2 hs2).mono ?_
          rintro e w' ⟨rfl, n4, rfl⟩
          have hb4 : Below w3.heap.size w3 (w3.drewN n4) := below_drewN (Below.refl _ _) n4
          have hB4 := hB3.trans (hb4.mono hB3.size)
          generalize w3.drewN n4 = w4 at *
          clear hc0 h2 hs2
          have hdl : (zs.drop L).length = len - L := by rw [List.length_drop, hz]
          by_cases hcap : cap = L
          · obtain rfl : len = L := by omega
            obtain rfl : len = cap := by omega
            have hno : zs.drop len = [] := List.length_eq_zero_iff.1 (by omega)
            have hall2 := all_any (some ⟨b, off, none⟩) 0 0 (zs.drop len) w4 (by omega) (by omega) (by omega) (by rw [hno]; rfl) (byt_drop hb _) (.inl hno) (by simp)
            go_wp2_with fail
            refine hall2.mono ?_
            rintro e w5 ⟨v5, ps2, rfl, he2, hr2, ho2, _, hb5⟩
            obtain ⟨am, cm, rfl⟩ := row_shape hr2
            obtain ⟨hg2, hc2, _⟩ := own_segs hr2 rfl
            have hB5 := hB4.trans (hb5.mono hB4.size)
            have hlen2 : ps1.length - 1 = ps2.length := by
              have h1 := congrArg List.length he1
              have h2 := congrArg List.length he2
              rw [hall.out] at h1
              simp only [List.length_map, List.length_cons] at h1 h2
              omega
            have htl : (ps1.drop 1).map Part.zs = ps2.map Part.zs := by
              rw [List.map_drop, he1, hall.out, he2]
              rfl
            have hE12 : (mall (zs.drop len)).2.2 = (mall zs).2.2 := by rw [hall.out]
            have hN12 : (mall zs).2.1 = len + (mall (zs.drop len)).2.1 := by rw [hall.out]
            have hms := (mall_size (zs.drop len)).1
            rw [List.length_drop, hz] at hms
            have hi1' : ∀ p ∈ ps1.drop 1, p.In w5 := fun p hh => ((hi1 p (List.mem_of_mem_drop hh)).below hb4).below hb5
            have hi2' : ∀ p ∈ ps2, p.In w5 := fun p hh => (ho2 p hh).isIn
            have hsm1 : ∀ p ∈ ps1.drop 1, p.len ≤ 4611686018427387904 := fun p hh => hsmall p (List.mem_of_mem_drop hh)
            have hgo := (hg1.below hb4).below hb5
            clear hall2 he1 he2 hr2 ho2 hb5 hb4 hB4 hi1 hsmall hg1
            by_cases hcl : cl = 1
            · have hlo : ps1.drop 1 = [] := List.length_eq_zero_iff.1 (by rw [List.length_drop]; omega)
              have hn0 : ps2.length = 0 := by omega
              rw [hlo] at htl hi1' hsm1
              have hsm := samemsg_true (some ⟨g1, 0, none⟩) am 0 0 cm [] ps2 w5 (by omega) (by omega) (by omega) rfl htl (.inl rfl) hg2 hi1' hi2' hsm1
              have hn1 : ps1.length = 1 := by omega
              rw [hn0, hn1]
              subst hcl
              clear hlo htl hi1' hi2' hsm1 hgo hg2 hn0 hn1 hlen2 hc2
              generalize (mall (zs.drop len)).2.1 = N2 at *
              generalize (mall (zs.drop len)).2.2 = E2 at *
              generalize (mall zs).2.1 = N1 at *
              generalize (mall zs).2.2 = E1 at *
              subst hE12
              have q1 : (E2 == E2) = true := by simp
              have q2 : ((N1 : Int) == (len : Int) + (N2 : Int)) = true := by rw [hN12]; simp
              have q3 : (len : Int) + (N2 : Int) ≤ 9223372036854775807 := by omega
              go_wp2_with fail
              refine hsm.mono ?_
              rintro e w' ⟨rfl, n9, rfl⟩
              have hB6 := below_drewN hB5 n9
              go_wp2
              go_ret
              exact ⟨rfl, hB6⟩
            · have hgd := hgo.drop 1
              have hsm := samemsg_true (some ⟨g1, 0 + 1, none⟩) am ps2.length (cl - 1) cm (ps1.drop 1) ps2 w5 (by omega) (by omega) hc2 (by rw [List.length_drop]; omega) htl hgd hg2 hi1' hi2' hsm1
              rw [Nat.zero_add] at hsm
              clear htl hi1' hi2' hsm1 hgo hg2 hgd
              generalize ps2.length = n2 at *
              generalize ps1.length = n1 at *
              obtain rfl : n1 = n2 + 1 := by omega
              clear hlen2
              generalize (mall (zs.drop len)).2.1 = N2 at *
              generalize (mall (zs.drop len)).2.2 = E2 at *
              generalize (mall zs).2.1 = N1 at *
              generalize (mall zs).2.2 = E1 at *
              subst hE12
              have q1 : (E2 == E2) = true := by simp
              have q2 : ((N1 : Int) == (len : Int) + (N2 : Int)) = true := by rw [hN12]; simp
              have q3 : (len : Int) + (N2 : Int) ≤ 9223372036854775807 := by omega
              go_wp2_with fail
              refine hsm.mono ?_
              rintro e w' ⟨rfl, n9, rfl⟩
              have hB6 := below_drewN hB5 n9
              go_wp2
              go_ret
              exact ⟨rfl, hB6⟩
          · have hall2 := all_any (some ⟨b, off + L, none⟩) (len - L) (cap - L) (zs.drop L) w4 (by omega) (by omega) (by omega) hdl (byt_drop hb _) ((hs.below hB4).drop L) (by simp)
            go_wp2_with fail
            refine hall2.mono ?_
            rintro e w5 ⟨v5, ps2, rfl, he2, hr2, ho2, _, hb5⟩
            obtain ⟨am, cm, rfl⟩ := row_shape hr2
            obtain ⟨hg2, hc2, _⟩ := own_segs hr2 rfl
            have hB5 := hB4.trans (hb5.mono hB4.size)
            have hlen2 : ps1.length - 1 = ps2.length := by
              have h1 := congrArg List.length he1
              have h2 := congrArg List.length he2
              rw [hall.out] at h1
              simp only [List.length_map, List.length_cons] at h1 h2
              omega
            have htl : (ps1.drop 1).map Part.zs = ps2.map Part.zs := by
              rw [List.map_drop, he1, hall.out, he2]
              rfl
            have hE12 : (mall (zs.drop L)).2.2 = (mall zs).2.2 := by rw [hall.out]
            have hN12 : (mall zs).2.1 = L + (mall (zs.drop L)).2.1 := by rw [hall.out]
            have hms := (mall_size (zs.drop L)).1
            rw [List.length_drop, hz] at hms
            have hi1' : ∀ p ∈ ps1.drop 1, p.In w5 := fun p hh => ((hi1 p (List.mem_of_mem_drop hh)).below hb4).below hb5
            have hi2' : ∀ p ∈ ps2, p.In w5 := fun p hh => (ho2 p hh).isIn
            have hsm1 : ∀ p ∈ ps1.drop 1, p.len ≤ 4611686018427387904 := fun p hh => hsmall p (List.mem_of_mem_drop hh)
            have hgo := (hg1.below hb4).below hb5
            clear hall2 he1 he2 hr2 ho2 hb5 hb4 hB4 hi1 hsmall hg1
            by_cases hcl : cl = 1
            · have hlo : ps1.drop 1 = [] := List.length_eq_zero_iff.1 (by rw [List.length_drop]; omega)
              have hn0 : ps2.length = 0 := by omega
              rw [hlo] at htl hi1' hsm1
              have hsm := samemsg_true (some ⟨g1, 0, none⟩) am 0 0 cm [] ps2 w5 (by omega) (by omega) (by omega) rfl htl (.inl rfl) hg2 hi1' hi2' hsm1
              have hn1 : ps1.length = 1 := by omega
              rw [hn0, hn1]
              subst hcl
              clear hlo htl hi1' hi2' hsm1 hgo hg2 hn0 hn1 hlen2 hc2
              generalize (mall (zs.drop L)).2.1 = N2 at *
              generalize (mall (zs.drop L)).2.2 = E2 at *
              generalize (mall zs).2.1 = N1 at *
              generalize (mall zs).2.2 = E1 at *
              subst hE12
              have q1 : (E2 == E2) = true := by simp
              have q2 : ((N1 : Int) == (L : Int) + (N2 : Int)) = true := by rw [hN12]; simp
              have q3 : (L : Int) + (N2 : Int) ≤ 9223372036854775807 := by omega
              go_wp2_with fail
              refine hsm.mono ?_
              rintro e w' ⟨rfl, n9, rfl⟩
              have hB6 := below_drewN hB5 n9
              go_wp2
              go_ret
              exact ⟨rfl, hB6⟩
            · have hgd := hgo.drop 1
              have hsm := samemsg_true (some ⟨g1, 0 + 1, none⟩) am ps2.length (cl - 1) cm (ps1.drop 1) ps2 w5 (by omega) (by omega) hc2 (by rw [List.length_drop]; omega) htl hgd hg2 hi1' hi2' hsm1
              rw [Nat.zero_add] at hsm
              clear htl hi1' hi2' hsm1 hgo hg2 hgd
              generalize ps2.length = n2 at *
              generalize ps1.length = n1 at *
              obtain rfl : n1 = n2 + 1 := by omega
              clear hlen2
              generalize (mall (zs.drop L)).2.1 = N2 at *
              generalize (mall (zs.drop L)).2.2 = E2 at *
              generalize (mall zs).2.1 = N1 at *
              generalize (mall zs).2.2 = E1 at *
              subst hE12
              have q1 : (E2 == E2) = true := by simp
              have q2 : ((N1 : Int) == (L : Int) + (N2 : Int)) = true := by rw [hN12]; simp
              have q3 : (L : Int) + (N2 : Int) ≤ 9223372036854775807 := by omega
              go_wp2_with fail
              refine hsm.mono ?_
              rintro e w' ⟨rfl, n9, rfl⟩
              have hB6 := below_drewN hB5 n9
              go_wp2
              go_ret
              exact ⟨rfl, hB6⟩
    · obtain ⟨hZ, hL⟩ := mg_zero 65536 zs hE
      have hall := mall_bad zs hE
      rw [hZ] at hown2
      rw [hL]
      rw [hall] at he1 ⊢
      have hp0 : ps1 = [] := by simpa using he1
      subst hp0
      obtain ⟨a2, c2, rfl, _⟩ := own_val hown2 rfl
      obtain ⟨am, cm, rfl⟩ := row_shape hr1
      dsimp only
      simp only [List.length_nil]
      clear hown2 hr1 ho1 he1 hall hZ hL hs hb
      generalize (mg 65536 zs).1 = E at *
      have q1 : (E != 0) = true := by simp [hE]
      by_cases h4 : E = 4
      · subst h4
        go_wp2
        go_ret
        exact ⟨rfl, hB3⟩
      · rw [if_neg h4]
        have q2 : (E == E) = true := by simp
        go_wp2
        go_ret
        exact ⟨rfl, hB3⟩
end Go.Proofs.Ytmjjoiljdcjhdab
