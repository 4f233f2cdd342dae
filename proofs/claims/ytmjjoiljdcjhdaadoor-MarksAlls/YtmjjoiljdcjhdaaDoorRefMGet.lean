/- The document's Get of marks: the first message of bytes in memory of its own, how many bytes it has, the error; nothing that was there turns. -/
import Derived.Test.YtmjjoiljdcjhdaaDoorRef4
import Derived.Test.YtmjjoiljdcjhdaaDoorMGet
import Derived.LoopN
namespace Go.Proofs.YtmjjoiljdcjhdaaDoor
set_option linter.unusedVariables false
open Go.RowKit

def leftOf (len : Nat) (i : Value) : Nat := len - (intOf i).toNat

/-- What stands in the slots between two rounds. -/
def RGet (w : World) (zs : List Int) (len : Nat) (v i : Value) (wr : World) : Prop :=
  ∃ (n cv pl : Nat) (av : Option Addr) (pre : List Int), v = .slice av n cv ∧ i = .int .i64 (pl : Nat) ∧ pre.length = n ∧ pl ≤ len ∧ n ≤ 65536 ∧
      wr.ownsRow w.heap.size 5 1 (.slice av n cv) n (pre.map (Value.int .u8)) ∧ Below w.heap.size w wr ∧ mg 65536 zs = glue pre pl (mg (65536 - n) (zs.drop pl))

set_option maxRecDepth 100000 in
set_option maxHeartbeats 1000000 in
theorem refmget_some (b off len cap : Nat) (zs : List Int) (w : World) (hlc : len ≤ cap) (hm : cap ≤ 9223372036854775807) (hL6 : len ≤ 4611686018427387904) (hz : zs.length = len) (hb : Byt zs) (hs : Seg w (some ⟨b, off, none⟩) zs) :
    Calls Tryd.prog 16 #[.slice (some ⟨b, off, none⟩) len cap] w (mgPost w zs) := by
  obtain ⟨i0, hi, hz0, hz1, hz2⟩ := info_parts infoM
  go_enter Tryd.func16, Tryd.ntmps16
  go_wp2
  go_loopw [5, 6] (fun v i wr => RGet w zs len v i wr) (fun _ i _ => leftOf len i)
  case atStart => exact ⟨0, 0, 0, none, [], rfl, rfl, rfl, by omega, by omega, own_empty _ _ _, Below.refl _ _, (glue_none 65536 zs).symm⟩
  case round =>
    obtain ⟨n, cv, pl, av, pre, rfl, rfl, hpn, hpl, hn6, hown, hB, hG⟩ := hrel
    have hdl : (zs.drop pl).length = len - pl := by rw [List.length_drop, hz]
    have hdb := byt_drop hb pl
    have hds := (hs.below hB).drop pl
    have hd4 := ((hs.below hB).drop pl).drop 4
    have HD : Hid (zs.drop (pl + 4 + markK (zs.drop pl)) = (zs.drop pl).drop (4 + markK (zs.drop pl))) := by
      show _ = _
      rw [List.drop_drop, Nat.add_assoc]
    have HG : Hid (mg 65536 zs = glue pre pl (mg (65536 - n) (zs.drop pl))) := hG
    have HN : Hid (pre.length = n) := hpn
    clear hG hpn
    have hbad := fun h => mg_bad (most := 65536 - n) (zs := zs.drop pl) h
    have hlast := fun h => mg_last (most := 65536 - n) (zs := zs.drop pl) h
    have hmore := fun h => mg_more (most := 65536 - n) (zs := zs.drop pl) h
    unfold mgPost
    clear hs hb
    generalize hys : zs.drop pl = ys at *
    clear hys
    by_cases h4 : len - pl < 4
    · have hf4 := frE_nil (65536 - n) ys (by omega)
      have hr : Hid (mg 65536 zs = (4, [], 0)) := by
        show _ = _
        rw [HG.out, hbad (by rw [hf4]; decide), hf4]
        rfl
      have hg0 : getN ys = 0 := by simp [getN, hdl, h4]
      have hg4 : getE ys = 4 := by simp [getE, hdl, h4]
      clear hbad hlast hmore hf4 hd4 HD
      by_cases hcp : cap = pl
      · obtain rfl : len = pl := by omega
        obtain rfl : len = cap := by omega
        have hcall := refget_any (some ⟨b, off, none⟩) 0 0 ys wr (by omega) (by omega) (by omega) hdb (.inl (List.length_eq_zero_iff.1 (by omega)))
        rw [hg0, hg4] at hcall
        go_wp2_with fail
        refine hcall.mono ?_
        rintro e w' ⟨rfl, hw'⟩
        subst w'
        go_wp2
        go_ret3
        rw [hr.out]
        exact ⟨_, rfl, own_empty _ _ _, hB⟩
      · have hcall := refget_any (some ⟨b, off + pl, none⟩) (len - pl) (cap - pl) ys wr (by omega) (by omega) hdl hdb hds
        rw [hg0, hg4] at hcall
        go_wp2_with fail
        refine hcall.mono ?_
        rintro e w' ⟨rfl, hw'⟩
        subst w'
        go_wp2
        go_ret3
        rw [hr.out]
        exact ⟨_, rfl, own_empty _ _ _, hB⟩
    · obtain ⟨e1, e2, hN⟩ := mark_be hdb (by omega)
      have hcall := refget_any (some ⟨b, off + pl, none⟩) (len - pl) (cap - pl) ys wr (by omega) (by omega) hdl hdb hds
      rw [e1, e2] at hcall
      clear e1 e2
      have hcp : ¬ cap = pl := by omega
      have hE : frE (65536 - n) ys = if markN ys = 0 then 5 else if 65536 - n < markK ys then 3 else if ys.length - 4 < markK ys then 4 else 0 := by
        rw [frE, if_neg (by omega)]
      have hLd : Hid (markL ys = decide (2147483648 ≤ markN ys)) := rfl
      have hKd : markK ys = markN ys % 2147483648 := rfl
      have hpp : Hid (piece ys = (ys.drop 4).take (markK ys)) := rfl
      have hppl : ¬ ys.length - 4 < markK ys → (piece ys).length = markK ys := fun hh => by rw [piece, List.length_take, List.length_drop]; omega
      rw [hdl] at hE hppl
      generalize markK ys = K at *
      generalize markN ys = N at *
      have hKi : (N : Int) % 2147483648 = (K : Int) := by omega
      by_cases h0 : N = 0
      · rw [if_pos h0] at hE
        have hr : Hid (mg 65536 zs = (5, [], 0)) := by
          show _ = _
          rw [HG.out, hbad (by rw [hE]; decide), hE]
          rfl
        subst h0
        obtain rfl : K = 0 := by omega
        replace hcall : Calls Tryd.prog 46 #[.slice (some ⟨b, off + pl, none⟩) (len - pl) (cap - pl)] wr fun e w' => e = .returned (.tuple #[.int .u32 0, .int .i64 0]) ∧ w' = wr := hcall
        clear hbad hlast hmore hE hLd hKd HD
        go_wp2_with fail
        refine hcall.mono ?_
        rintro e w' ⟨rfl, hw'⟩
        subst w'
        go_wp2
        go_ret3
        rw [hr.out]
        exact ⟨_, rfl, own_empty _ _ _, hB⟩
      · rw [if_neg h0] at hE
        have q0 : ((N : Int) == 0) = false := by rw [beq_eq_false_iff_ne]; omega
        by_cases h3 : 65536 - n < K
        · rw [if_pos h3] at hE
          have hr : Hid (mg 65536 zs = (3, [], 0)) := by
            show _ = _
            rw [HG.out, hbad (by rw [hE]; decide), hE]
            rfl
          have q3 : (65536 : Int) < (n : Int) + (K : Int) := by omega
          clear hbad hlast hmore hE hLd hKd HD
          go_wp2_with fail
          refine hcall.mono ?_
          rintro e w' ⟨rfl, hw'⟩
          subst w'
          go_wp2
          go_ret3
          rw [hr.out]
          exact ⟨_, rfl, own_empty _ _ _, hB⟩
        · rw [if_neg h3] at hE
          have q3 : ¬ (65536 : Int) < (n : Int) + (K : Int) := by omega
          by_cases h5 : len - pl - 4 < K
          · rw [if_pos h5] at hE
            have hr : Hid (mg 65536 zs = (4, [], 0)) := by
              show _ = _
              rw [HG.out, hbad (by rw [hE]; decide), hE]
              rfl
            have q5 : (len : Int) - ((pl : Int) + 4) < (K : Int) := by omega
            clear hbad hlast hmore hE hLd hKd HD
            go_wp2_with fail
            refine hcall.mono ?_
            rintro e w' ⟨rfl, hw'⟩
            subst w'
            go_wp2
            go_ret3
            rw [hr.out]
            exact ⟨_, rfl, own_empty _ _ _, hB⟩
          · rw [if_neg h5] at hE
            have q5 : ¬ (len : Int) - ((pl : Int) + 4) < (K : Int) := by omega
            have hp1 := hppl h5
            replace hlast := hlast hE
            replace hmore := hmore hE
            have HLs : Hid (markL ys = true → mg (65536 - n) ys = (0, piece ys, 4 + K)) := hlast
            have HMo : Hid (markL ys = false → mg (65536 - n) ys = glue (piece ys) (4 + K) (mg (65536 - n - K) (ys.drop (4 + K)))) := hmore
            clear hbad hE hKd hlast hmore hppl
            have hkk : pl + 4 + K ≤ len := by omega
            by_cases hc4 : cap = pl + 4
            · obtain rfl : K = 0 := by omega
              have hps0 : piece ys = [] := List.length_eq_zero_iff.1 hp1
              have hps : Seg wr (some ⟨b, off, none⟩) (piece ys) := .inl hps0
              generalize piece ys = ps at *
              obtain rfl : ps = [] := hps0
              clear hpp hd4 hds
              have hl4 : len = pl + 4 := by omega
              rw [show len - pl = 4 from by omega, show cap - pl = 4 from by omega] at hcall
              subst hc4
              subst hl4
              have q6 : ¬ ((pl : Int) + 4 - ((pl : Int) + 4) < 0) := by omega
              have hl : markL ys = true := by
                rw [hLd.out, decide_eq_true_eq]
                omega
              have q9 : (2147483648 : Int) ≤ (N : Int) := by have := hLd.out; rw [hl] at this; have := of_decide_eq_true this.symm; omega
              go_wp2_with fail
              refine hcall.mono ?_
              rintro e w' ⟨rfl, hw'⟩
              subst w'
              go_wp2_with (at_builtin; refine wpList_append_own _ rfl _ _ 22 rfl w.heap.size 5 i0 (.int .u8 0) 1 1 Tryd.underlying22 hi hz0 hz1 hz2 rfl (by decide) (.slice av n cv) n (pre.map (Value.int .u8)) rfl hown ⟨b, off, none⟩ 0 0 (([] : List Int).map (Value.int .u8)) (by show Value.slice _ _ _ = Value.slice _ _ _; congr 1; omega) rfl (seg_news hps) (news_one _) (by unfold maxLen; omega) (by omega) hB.size ?_; intro v' w6 hown6 hgrow6 _)
              go_ret3
              rw [HG.out, HLs.out hl, glue_end]
              refine ⟨v', by go_num, ?_, hB.grown hgrow6 hB.size (fun k e => own_low hown e)⟩
              simp only [List.append_nil, HN.out]
              simpa using hown6
            · have hps := hd4.take K
              rw [← hpp.out, Nat.add_assoc] at hps
              generalize piece ys = ps at *
              clear hpp hd4 hds
              cases hl : markL ys with
              | true =>
                have q9 : (2147483648 : Int) ≤ (N : Int) := by have := hLd.out; rw [hl] at this; have := of_decide_eq_true this.symm; omega
                go_wp2_with fail
                refine hcall.mono ?_
                rintro e w' ⟨rfl, hw'⟩
                subst w'
                go_wp2_with (at_builtin; refine wpList_append_own _ rfl _ _ 22 rfl w.heap.size 5 i0 (.int .u8 0) 1 1 Tryd.underlying22 hi hz0 hz1 hz2 rfl (by decide) (.slice av n cv) n (pre.map (Value.int .u8)) rfl hown ⟨b, off + (pl + 4), none⟩ K (cap - (pl + 4)) (ps.map (Value.int .u8)) (by show Value.slice _ _ _ = Value.slice _ _ _; congr 1; omega) (by simp [hp1]) (seg_news hps) (news_one _) (by unfold maxLen; omega) (by omega) hB.size ?_; intro v' w6 hown6 hgrow6 _)
                go_ret3
                rw [HG.out, HLs.out hl, glue_end]
                refine ⟨v', by go_num, ?_, hB.grown hgrow6 hB.size (fun k e => own_low hown e)⟩
                simp only [List.length_append, HN.out, hp1, List.map_append]
                exact hown6
              | false =>
                have q9 : ¬ (2147483648 : Int) ≤ (N : Int) := by have := hLd.out; rw [hl] at this; have := of_decide_eq_false this.symm; omega
                obtain rfl : N = K := by omega
                clear hKi
                have hKi : (N : Int) % 2147483648 = (N : Int) := by omega
                replace q9 : decide ((2147483648 : Int) ≤ (N : Int)) = false := by rw [decide_eq_false_iff_not]; exact q9
                have HL2 : Hid ((pre ++ ps).length = n + N) := by show _ = _; rw [List.length_append, HN.out, hp1]
                have HK : Hid (pl + 4 + N ≤ len ∧ len ≤ 4611686018427387904 ∧ n + N ≤ 65536) := ⟨by omega, by omega, by omega⟩
                go_wp2_with fail
                refine hcall.mono ?_
                rintro e w' ⟨rfl, hw'⟩
                subst w'
                go_wp2_with (at_builtin; refine wpList_append_own _ rfl _ _ 22 rfl w.heap.size 5 i0 (.int .u8 0) 1 1 Tryd.underlying22 hi hz0 hz1 hz2 rfl (by decide) (.slice av n cv) n (pre.map (Value.int .u8)) rfl hown ⟨b, off + (pl + 4), none⟩ N (cap - (pl + 4)) (ps.map (Value.int .u8)) (by show Value.slice _ _ _ = Value.slice _ _ _; congr 1; omega) (by simp [hp1]) (seg_news hps) (news_one _) (by unfold maxLen; omega) (by omega) hB.size ?_; intro v' w6 hown6 hgrow6 _; rw [← List.map_append] at hown6; obtain ⟨a6, c6, rfl, _⟩ := own_val hown6 HL2.out; have hB6 : Below w.heap.size w w6 := hB.grown hgrow6 hB.size (fun k e => own_low hown e); clear hcall hps hcp hc4 hp1 hKi q3 q5 q0 hkk h3 h4 h5 hdl hz hpl hlc hm hL6 hgrow6 hown hi hz0 hz1 hz2)
                obtain ⟨k1, k2, k3⟩ := HK.out
                have hwr : wrap64 ((pl : Int) + 4 + (N : Int)) = ((pl + 4 + N : Nat) : Int) := by
                  unfold wrap64
                  omega
                rw [hwr]
                refine ⟨⟨n + N, c6, pl + 4 + N, a6, pre ++ ps, rfl, rfl, HL2.out, k1, k3, hown6, hB6, ?_⟩, by simp only [leftOf, intOf, Int.toNat_natCast]; omega⟩
                rw [HG.out, HMo.out hl, glue_glue, HD.out, Nat.sub_sub, Nat.add_assoc]

set_option maxRecDepth 100000 in
set_option maxHeartbeats 2000000 in
theorem refmget_few (a : Option Addr) (len cap : Nat) (zs : List Int) (w : World) (hlc : len ≤ cap) (hm : cap ≤ 9223372036854775807) (hL6 : len ≤ 4611686018427387904) (hz : zs.length = len) (hb : Byt zs) (hs : Seg w a zs) (hn : a = none → len = 0 ∧ cap = 0) (h4 : len < 4) :
    Calls Tryd.prog 16 #[.slice a len cap] w (mgPost w zs) := by
  have hr : Hid (mg 65536 zs = (4, [], 0)) := mg_none _ _ (by omega)
  have hcall := refget_any a len cap zs w hlc (by omega) hz hb hs
  rw [show getN zs = 0 from by simp [getN, hz, h4], show getE zs = 4 from by simp [getE, hz, h4]] at hcall
  unfold mgPost
  cases a with
  | none =>
    obtain ⟨rfl, rfl⟩ := hn rfl
    go_enter Tryd.func16, Tryd.ntmps16
    go_wp2
    refine wp_loop_rounds 1 ?_
    rw [rounds_succ]
    go_wp2_with fail
    refine hcall.mono ?_
    rintro e w' ⟨rfl, hw'⟩
    subst w'
    go_wp2
    go_ret3
    rw [hr.out]
    exact ⟨_, rfl, own_empty _ _ _, Below.refl _ _⟩
  | some ad =>
    go_enter Tryd.func16, Tryd.ntmps16
    go_wp2
    refine wp_loop_rounds 1 ?_
    rw [rounds_succ]
    go_wp2_with fail
    refine hcall.mono ?_
    rintro e w' ⟨rfl, hw'⟩
    subst w'
    go_wp2
    go_ret3
    rw [hr.out]
    exact ⟨_, rfl, own_empty _ _ _, Below.refl _ _⟩

theorem refmget_any (a : Option Addr) (len cap : Nat) (zs : List Int) (w : World) (hlc : len ≤ cap) (hm : cap ≤ 9223372036854775807) (hL6 : len ≤ 4611686018427387904) (hz : zs.length = len) (hb : Byt zs) (hs : Seg w a zs) (hn : a = none → len = 0 ∧ cap = 0) :
    Calls Tryd.prog 16 #[.slice a len cap] w (mgPost w zs) := by
  by_cases h4 : len < 4
  · exact refmget_few a len cap zs w hlc hm hL6 hz hb hs hn h4
  · rcases hs with rfl | ⟨b, off, rfl, hc⟩
    · simp at hz; omega
    · exact refmget_some b off len cap zs w hlc hm hL6 hz hb (.inr ⟨b, off, rfl, hc⟩)
end Go.Proofs.YtmjjoiljdcjhdaaDoor
