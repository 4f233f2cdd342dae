/- 'Get' of marks: the first message of bytes in memory of its own, how many bytes it has, the error; nothing that was there turns. -/
import Derived.Test.YtmjjoiljdcjhdaaDoorFrag
import Derived.Outline
import Derived.WalkMore
import Derived.ScopeJumps
import Derived.Maps.AppendAt
import Derived.Laws.AppendOwnNone
namespace Go.Proofs.YtmjjoiljdcjhdaaDoor
set_option linter.unusedVariables false
open Go.RowKit

theorem infoM : (Tryd.prog.info? 5).map (fun i => (i.zero, i.size, i.bytes)) = some (some (.int .u8 0), 1, 1) := by kernel_rfl

/-- What 'Get' answers. -/
def mgPost (w : World) (zs : List Int) (e : Ending) (w' : World) : Prop :=
  ∃ v, e = .returned (.tuple #[v, .int .i64 ((mg 65536 zs).2.2 : Nat), .int .i64 (mg 65536 zs).1]) ∧
    w'.ownsRow w.heap.size 5 1 v (mg 65536 zs).2.1.length ((mg 65536 zs).2.1.map (Value.int .u8)) ∧ Below w.heap.size w w'

/-- What stands in the slots at the label. -/
def MarkAt (w : World) (b off len cap : Nat) (zs : List Int) (a' : Act) (w' : World) : Prop :=
  ∃ (av : Option Addr) (cv pl : Nat) (pre : List Int) (u7 u8 u9 u10 u11 u12 u13 u14 u15 u16 u17 u18 u19 u20 u21 u22 u23 u24 u25 u26 u27 u28 u29 u30 u31 u32 u33 u34 u35 : Value),
    a' = { tmps := #[.slice (some ⟨b, off, none⟩) len cap, undef, .slice none 0 0, .int .i64 0, .int .i64 0, .slice av pre.length cv, .int .i64 (pl : Nat), u7, u8, u9, u10, u11, u12, u13, u14, u15, u16, u17, u18, u19, u20, u21, u22, u23, u24, u25, u26, u27, u28, u29, u30, u31, u32, u33, u34, u35], defers := [] } ∧
    w'.ownsRow w.heap.size 5 1 (.slice av pre.length cv) pre.length (pre.map (Value.int .u8)) ∧ Below w.heap.size w w' ∧
    4 ≤ pl ∧ pl ≤ len ∧ pre.length ≤ 65536 ∧ mg 65536 zs = glue pre pl (mg (65536 - pre.length) (zs.drop pl))

def markLeft (len : Nat) (a' : Act) (_ : World) : Nat := len - (intOf (a'.tmps.getD 6 undef)).toNat

set_option maxRecDepth 100000 in
set_option maxHeartbeats 2000000 in
theorem mget_some (b off len cap : Nat) (zs : List Int) (w : World) (hlc : len ≤ cap) (hm : cap ≤ 9223372036854775807) (hz : zs.length = len) (hb : Byt zs) (hs : Seg w (some ⟨b, off, none⟩) zs) (h4 : 4 ≤ len) :
    Calls Tryd.prog 15 #[.slice (some ⟨b, off, none⟩) len cap] w (mgPost w zs) := by
  obtain ⟨i0, hi, hz0, hz1, hz2⟩ := info_parts infoM
  go_enter Tryd.func15, Tryd.ntmps15
  go_wp2
  refine wp_scope_jumps 0 (MarkAt w b off len cap zs) (markLeft len) rfl ?_ ?_
  · have hpl := fun h => piece_length (most := 65536) (zs := zs) h
    have hbad := fun h => mg_bad (most := 65536) (zs := zs) h
    have hlast := fun h => mg_last (most := 65536) (zs := zs) h
    have hmore := fun h => mg_more (most := 65536) (zs := zs) h
    have hok := fun h => frE_ok (most := 65536) (zs := zs) h
    have hfr := fragment_any _ len cap 65536 zs w hlc hm hz hb hs (by omega)
    unfold mgPost
    obtain ⟨r, hr⟩ : ∃ r, mg 65536 zs = r := ⟨_, rfl⟩
    have HR : Hid (mg 65536 zs = r) := hr
    rw [hr] at hbad hlast hmore ⊢
    clear hr
    go_wp2_with fail
    go_step3
    go_wp2_with fail
    refine hfr.mono ?_
    rintro e w' ⟨(⟨hne, rfl⟩ | ⟨h0, ad, rfl, hps⟩), hw'⟩
    · subst w'
      have hr : Hid (r = (frE 65536 zs, [], 0)) := hbad hne
      clear hbad hlast hmore hok hpl hs hb
      generalize frE 65536 zs = x at *
      have hx : (x != 0) = true := by simp [hne]
      go_wp2
      rw [jump_ret]
      go_ret3
      rw [hr.out]
      exact ⟨_, rfl, own_empty _ _ _, Below.refl _ _⟩
    · subst w'
      obtain ⟨hk1, hk2, _⟩ := hok h0
      have hp1 := hpl h0
      have HL : Hid (markL zs = true → r = (0, piece zs, 4 + markK zs)) := hlast h0
      have HM : Hid (markL zs = false → r = glue (piece zs) (4 + markK zs) (mg (65536 - markK zs) (zs.drop (4 + markK zs)))) := hmore h0
      clear hbad hlast hmore hok hpl h0 hs hb hfr
      rw [hz] at hk1
      generalize markK zs = K at *
      generalize piece zs = ps at *
      cases hl : markL zs with
      | true =>
        go_wp2_with (at_builtin; refine wpList_append_own _ rfl _ _ 22 rfl w.heap.size 5 i0 (.int .u8 0) 1 1 Tryd.underlying22 hi hz0 hz1 hz2 rfl (by decide) (.slice none 0 0) 0 [] rfl (own_empty w _ _) ad K K (ps.map (Value.int .u8)) rfl (by simp [hp1]) (seg_news hps) (news_one _) (by unfold maxLen; omega) (by omega) (Nat.le_refl _) ?_; intro v' w6 hown6 hgrow6 _)
        rw [jump_ret]
        go_ret3
        rw [HL.out hl]
        refine ⟨v', by go_num, ?_, (Below.refl _ _).grown hgrow6 (Nat.le_refl _) (fun k e => by cases e)⟩
        rw [Nat.zero_add, List.nil_append] at hown6
        simp only [hp1]
        exact hown6
      | false =>
        go_wp2_with (at_builtin; refine wpList_append_own _ rfl _ _ 22 rfl w.heap.size 5 i0 (.int .u8 0) 1 1 Tryd.underlying22 hi hz0 hz1 hz2 rfl (by decide) (.slice none 0 0) 0 [] rfl (own_empty w _ _) ad K K (ps.map (Value.int .u8)) rfl (by simp [hp1]) (seg_news hps) (news_one _) (by unfold maxLen; omega) (by omega) (Nat.le_refl _) ?_; intro v' w6 hown6 hgrow6 _)
        go_step3
        rw [Nat.zero_add, List.nil_append] at hown6
        obtain ⟨a6, c6, rfl, _⟩ := own_val hown6 hp1
        have HM2 := HM.out hl
        refine ⟨rfl, a6, c6, 4 + K, ps, _, _, _, _, _, _, _, _, _, _, _, _, _, _, _, _, _, _, _, _, _, _, _, _, _, _, _, _, _, by simp only [hp1]; go_num, by simp only [hp1]; exact hown6, (Below.refl _ _).grown hgrow6 (Nat.le_refl _) (fun k e => by cases e), by omega, by omega, by omega, ?_⟩
        rw [HR.out, HM2, hp1]
  · rintro a' W ⟨av, cv, pl, pre, u7, u8, u9, u10, u11, u12, u13, u14, u15, u16, u17, u18, u19, u20, u21, u22, u23, u24, u25, u26, u27, u28, u29, u30, u31, u32, u33, u34, u35, rfl, hown, hB, hp4, hple, hpre, hG⟩
    obtain ⟨n, hn⟩ : ∃ n, pre.length = n := ⟨_, rfl⟩
    rw [hn] at hown hpre hG ⊢
    have hdl : (zs.drop pl).length = len - pl := by rw [List.length_drop, hz]
    have hds := (hs.below hB).drop pl
    have hdb := byt_drop hb pl
    have hfr : ∃ ad, ((cap = pl ∧ ad = (⟨b, off, none⟩ : Addr)) ∨ (cap ≠ pl ∧ ad = ⟨b, off + pl, none⟩)) ∧ Calls Tryd.prog 45 #[.slice (some ad) (len - pl) (cap - pl), .int .i64 ((65536 - n : Nat) : Int)] W (fragPost W (zs.drop pl) (65536 - n)) := by
      by_cases hcp : cap = pl
      · refine ⟨_, .inl ⟨hcp, rfl⟩, fragment_any _ (len - pl) (cap - pl) (65536 - n) (zs.drop pl) W (by omega) (by omega) hdl hdb (.inl (List.length_eq_zero_iff.1 (by omega))) (by omega)⟩
      · exact ⟨_, .inr ⟨hcp, rfl⟩, fragment_any _ (len - pl) (cap - pl) (65536 - n) (zs.drop pl) W (by omega) (by omega) hdl hdb hds (by omega)⟩
    have hmo : ((65536 - n : Nat) : Int) = 65536 - (n : Int) := by omega
    rw [hmo] at hfr
    obtain ⟨bd, hbd, hfr⟩ := hfr
    have hpl := fun h => piece_length (most := 65536 - n) (zs := zs.drop pl) h
    have hbad := fun h => mg_bad (most := 65536 - n) (zs := zs.drop pl) h
    have hlast := fun h => mg_last (most := 65536 - n) (zs := zs.drop pl) h
    have hmore := fun h => mg_more (most := 65536 - n) (zs := zs.drop pl) h
    have hok := fun h => frE_ok (most := 65536 - n) (zs := zs.drop pl) h
    have HG : Hid (mg 65536 zs = glue pre pl (mg (65536 - n) (zs.drop pl))) := hG
    have HD : Hid (zs.drop (pl + (4 + markK (zs.drop pl))) = (zs.drop pl).drop (4 + markK (zs.drop pl))) := by
      show _ = _
      rw [List.drop_drop]
    have HN : Hid (pre.length = n) := hn
    rw [hdl] at hok
    unfold mgPost
    clear hs hb hds hdb hdl hmo hG hn
    generalize zs.drop pl = ys at *
    rcases hbd with ⟨hcp, rfl⟩ | ⟨hcp, rfl⟩
    · obtain rfl : len = pl := by omega
      obtain rfl : len = cap := by omega
      rw [Nat.sub_self] at hfr
      go_wp2_with fail
      refine hfr.mono ?_
      rintro e w' ⟨(⟨hne, rfl⟩ | ⟨h0, ad, rfl, hps⟩), hw'⟩
      · subst w'
        have hr : Hid (mg 65536 zs = (frE (65536 - n) ys, [], 0)) := by
          show _ = _
          rw [HG.out, hbad hne, glue_bad _ _ _ _ _ hne]
        clear hbad hlast hmore hok hpl
        generalize frE (65536 - n) ys = x at *
        have hx : (x != 0) = true := by simp [hne]
        go_wp2
        rw [jump_ret]
        go_ret3
        rw [hr.out]
        exact ⟨_, rfl, own_empty _ _ _, hB⟩
      · have := (hok h0).1
        omega
    · go_wp2_with fail
      refine hfr.mono ?_
      rintro e w' ⟨(⟨hne, rfl⟩ | ⟨h0, ad, rfl, hps⟩), hw'⟩
      · subst w'
        have hr : Hid (mg 65536 zs = (frE (65536 - n) ys, [], 0)) := by
          show _ = _
          rw [HG.out, hbad hne, glue_bad _ _ _ _ _ hne]
        clear hbad hlast hmore hok hpl
        generalize frE (65536 - n) ys = x at *
        have hx : (x != 0) = true := by simp [hne]
        go_wp2
        rw [jump_ret]
        go_ret3
        rw [hr.out]
        exact ⟨_, rfl, own_empty _ _ _, hB⟩
      · subst w'
        obtain ⟨hk1, hk2, _⟩ := hok h0
        have hp1 := hpl h0
        have HL : Hid (markL ys = true → mg (65536 - n) ys = (0, piece ys, 4 + markK ys)) := hlast h0
        have HM : Hid (markL ys = false → mg (65536 - n) ys = glue (piece ys) (4 + markK ys) (mg (65536 - n - markK ys) (ys.drop (4 + markK ys)))) := hmore h0
        clear hbad hlast hmore hok hpl h0 hfr
        generalize markK ys = K at *
        generalize piece ys = ps at *
        have hkk : pl + (4 + K) ≤ 9223372036854775807 := by omega
        cases hl : markL ys with
        | true =>
          go_wp2_with (at_builtin; refine wpList_append_own _ rfl _ _ 22 rfl w.heap.size 5 i0 (.int .u8 0) 1 1 Tryd.underlying22 hi hz0 hz1 hz2 rfl (by decide) (.slice av n cv) n (pre.map (Value.int .u8)) rfl hown ad K K (ps.map (Value.int .u8)) rfl (by simp [hp1]) (seg_news hps) (news_one _) (by unfold maxLen; omega) (by omega) hB.size ?_; intro v' w6 hown6 hgrow6 _)
          rw [jump_ret]
          go_ret3
          rw [HG.out, HL.out hl, glue_end]
          refine ⟨v', by go_num, ?_, hB.grown hgrow6 hB.size (fun k e => own_low hown e)⟩
          simp only [List.length_append, HN.out, hp1, List.map_append]
          exact hown6
        | false =>
          go_wp2_with (at_builtin; refine wpList_append_own _ rfl _ _ 22 rfl w.heap.size 5 i0 (.int .u8 0) 1 1 Tryd.underlying22 hi hz0 hz1 hz2 rfl (by decide) (.slice av n cv) n (pre.map (Value.int .u8)) rfl hown ad K K (ps.map (Value.int .u8)) rfl (by simp [hp1]) (seg_news hps) (news_one _) (by unfold maxLen; omega) (by omega) hB.size ?_; intro v' w6 hown6 hgrow6 _)
          go_step3
          rw [← List.map_append] at hown6
          have hl2 : (pre ++ ps).length = n + K := by rw [List.length_append, HN.out, hp1]
          obtain ⟨a6, c6, rfl, _⟩ := own_val hown6 hl2
          refine ⟨rfl, ⟨a6, c6, pl + (4 + K), pre ++ ps, _, _, _, _, _, _, _, _, _, _, _, _, _, _, _, _, _, _, _, _, _, _, _, _, _, _, _, _, _, by simp only [hl2]; go_num, by simp only [hl2]; exact hown6, hB.grown hgrow6 hB.size (fun k e => own_low hown e), by omega, by omega, by omega, ?_⟩, by simp [intOf, markLeft]; omega⟩
          rw [HG.out, HM.out hl, glue_glue, hl2, HD.out, Nat.sub_sub]

set_option maxRecDepth 100000 in
set_option maxHeartbeats 2000000 in
theorem mget_few (a : Option Addr) (len cap : Nat) (zs : List Int) (w : World) (hlc : len ≤ cap) (hm : cap ≤ 9223372036854775807) (hz : zs.length = len) (hb : Byt zs) (hs : Seg w a zs) (hn : a = none → len = 0 ∧ cap = 0) (h4 : len < 4) :
    Calls Tryd.prog 15 #[.slice a len cap] w (mgPost w zs) := by
  have hr : Hid (mg 65536 zs = (4, [], 0)) := mg_none _ _ (by omega)
  have hne := frE_nil 65536 zs (by omega)
  have hfr := fragment_any a len cap 65536 zs w hlc hm hz hb hs (by omega)
  unfold fragPost at hfr
  rw [hne] at hfr
  unfold mgPost
  cases a with
  | none =>
    obtain ⟨rfl, rfl⟩ := hn rfl
    go_enter Tryd.func15, Tryd.ntmps15
    go_wp2
    refine wp_scope_jumps 0 (fun _ _ => False) (fun _ _ => 0) rfl ?_ ?_
    · go_wp2_with fail
      go_step3
      go_wp2_with fail
      refine hfr.mono ?_
      rintro e w' ⟨(⟨hne, rfl⟩ | ⟨h0, ad, rfl, hps⟩), hw'⟩
      · subst w'
        go_wp2
        rw [jump_ret]
        go_ret3
        rw [hr.out]
        exact ⟨_, rfl, own_empty _ _ _, Below.refl _ _⟩
      · cases h0
    · intro a' w' h
      exact h.elim
  | some ad =>
    go_enter Tryd.func15, Tryd.ntmps15
    go_wp2
    refine wp_scope_jumps 0 (fun _ _ => False) (fun _ _ => 0) rfl ?_ ?_
    · go_wp2_with fail
      go_step3
      go_wp2_with fail
      refine hfr.mono ?_
      rintro e w' ⟨(⟨hne, rfl⟩ | ⟨h0, ad, rfl, hps⟩), hw'⟩
      · subst w'
        go_wp2
        rw [jump_ret]
        go_ret3
        rw [hr.out]
        exact ⟨_, rfl, own_empty _ _ _, Below.refl _ _⟩
      · cases h0
    · intro a' w' h
      exact h.elim

/-- 'Get', at any bytes. -/
theorem mget_any (a : Option Addr) (len cap : Nat) (zs : List Int) (w : World) (hlc : len ≤ cap) (hm : cap ≤ 9223372036854775807) (hz : zs.length = len) (hb : Byt zs) (hs : Seg w a zs) (hn : a = none → len = 0 ∧ cap = 0) :
    Calls Tryd.prog 15 #[.slice a len cap] w (mgPost w zs) := by
  by_cases h4 : len < 4
  · exact mget_few a len cap zs w hlc hm hz hb hs hn h4
  · rcases hs with rfl | ⟨b, off, rfl, hc⟩
    · simp at hz; omega
    · exact mget_some b off len cap zs w hlc hm hz hb (.inr ⟨b, off, rfl, hc⟩) (by omega)
end Go.Proofs.YtmjjoiljdcjhdaaDoor
