/- The document's All of marks: all messages, how many bytes they have, the error of the next; nothing that was there turns. -/
import Derived.Test.YtmjjoiljdcjhdaaDoorRefMGet
import Derived.Test.YtmjjoiljdcjhdaaDoorMsgLists
import Derived.LoopN
namespace Go.Proofs.YtmjjoiljdcjhdaaDoor
set_option linter.unusedVariables false
open Go.RowKit

/-- What stands in the slots between two rounds. -/
def RAll (w : World) (zs : List Int) (len : Nat) (v i : Value) (wr : World) : Prop :=
  ∃ (n cv pl : Nat) (av : Option Addr) (ps : List Part), v = .slice av n cv ∧ i = .int .i64 (pl : Nat) ∧ ps.length = n ∧ pl ≤ len ∧ 4 * n ≤ pl ∧
    wr.ownsRow w.heap.size 22 1 (.slice av n cv) n (ps.map Part.v) ∧ (∀ p ∈ ps, p.Own wr w.heap.size) ∧ Below w.heap.size w wr ∧ after (ps.map Part.zs) pl (mall (zs.drop pl)) = mall zs

/-- What the document's 'All' answers. -/
def rallPost (w : World) (zs : List Int) (e : Ending) (w' : World) : Prop :=
  ∃ v, ∃ ps : List Part, e = .returned (.tuple #[v, .int .i64 ((mall zs).2.1 : Nat), .int .i64 (mall zs).2.2]) ∧ ps.map Part.zs = (mall zs).1 ∧
    w'.ownsRow w.heap.size 22 1 v ps.length (ps.map Part.v) ∧ (∀ p ∈ ps, p.Own w' w.heap.size) ∧ Below w.heap.size w w'

theorem Part.Own.other {p : Part} {W W' : World} {B base n : Nat} {v : Value} {xs : List Value} (h : p.Own W B) (hr : W.ownsRow base 22 1 v n xs) (hg : W.grownBy W' v.ownBlock) : p.Own W' B := by
  refine h.grown hg (fun r e hp => ?_)
  obtain ⟨_, c1, h1⟩ := row_type hr e
  obtain ⟨_, c2, h2⟩ := row_type h.2 hp
  rw [h1] at h2
  cases h2

theorem rall_end {w wr : World} {zs : List Int} {len pl n cv : Nat} {av : Option Addr} {ps : List Part} {E : Int} (hn : ps.length = n) (hrow : wr.ownsRow w.heap.size 22 1 (.slice av n cv) n (ps.map Part.v)) (ho : ∀ p ∈ ps, p.Own wr w.heap.size) (hB : Below w.heap.size w wr)
    (ht : after (ps.map Part.zs) pl (mall (zs.drop pl)) = mall zs) (hE : mall (zs.drop pl) = ([], 0, E)) : rallPost w zs (.returned (.tuple #[.slice av n cv, .int .i64 (pl : Nat), .int .i64 E])) wr := by
  rw [hE] at ht
  simp only [after, List.append_nil, Nat.add_zero] at ht
  refine ⟨_, ps, by rw [← ht], by rw [← ht], by rw [hn]; exact hrow, ho, hB⟩

set_option maxRecDepth 100000 in
set_option maxHeartbeats 2000000 in
theorem refmall_some (b off len cap : Nat) (zs : List Int) (w : World) (hl : len ≤ 1000000) (hlc : len ≤ cap) (hm : cap ≤ 9223372036854775807) (hz : zs.length = len) (hb : Byt zs) (hs : Seg w (some ⟨b, off, none⟩) zs) :
    Calls Tryd.prog 18 #[.slice (some ⟨b, off, none⟩) len cap] w (rallPost w zs) := by
  obtain ⟨i0, hi, hz0, hz1, hz2⟩ := info_parts infoR
  go_enter Tryd.func18, Tryd.ntmps18
  go_wp2
  go_loopw [5, 6] (fun v i wr => RAll w zs len v i wr) (fun _ i _ => leftOf len i)
  case atStart => exact ⟨0, 0, 0, none, [], rfl, rfl, rfl, by omega, by omega, World.ownsRow_nil _ _ _ _, by simp, Below.refl _ _, after_none _⟩
  case round =>
    obtain ⟨n, cv, pl, av, ps, rfl, rfl, hpn, hpl, h4n, hrow, ho, hB, ht⟩ := hrel
    have hdl : (zs.drop pl).length = len - pl := by rw [List.length_drop, hz]
    have hds := (hs.below hB).drop pl
    have hcall : ∃ ad, ((cap = pl ∧ ad = (⟨b, off, none⟩ : Addr)) ∨ (cap ≠ pl ∧ ad = ⟨b, off + pl, none⟩)) ∧ Calls Tryd.prog 16 #[.slice (some ad) (len - pl) (cap - pl)] wr (mgPost wr (zs.drop pl)) := by
      by_cases hcp : cap = pl
      · refine ⟨_, .inl ⟨hcp, rfl⟩, refmget_any _ (len - pl) (cap - pl) (zs.drop pl) wr (by omega) (by omega) (by omega) hdl (byt_drop hb pl) (.inl (List.length_eq_zero_iff.1 (by omega))) (by simp)⟩
      · exact ⟨_, .inr ⟨hcp, rfl⟩, refmget_any _ (len - pl) (cap - pl) (zs.drop pl) wr (by omega) (by omega) (by omega) hdl (byt_drop hb pl) hds (by simp)⟩
    obtain ⟨ad, had, hcall⟩ := hcall
    unfold mgPost at hcall
    have hbad := mall_bad (zs.drop pl)
    have hstep := after_step (ps.map Part.zs) pl (zs.drop pl)
    have hsize := mg_size 65536 (zs.drop pl)
    rw [hdl] at hsize
    have HT : Hid (after (ps.map Part.zs) pl (mall (zs.drop pl)) = mall zs) := ht
    have HS : Hid ((mg 65536 (zs.drop pl)).1 = 0 → after (ps.map Part.zs) pl (mall (zs.drop pl)) = after (ps.map Part.zs ++ [(mg 65536 (zs.drop pl)).2.1]) (pl + (mg 65536 (zs.drop pl)).2.2) (mall (zs.drop (pl + (mg 65536 (zs.drop pl)).2.2)))) := by
      intro h
      rw [hstep h, List.drop_drop]
    have HBd : Hid ((mg 65536 (zs.drop pl)).1 ≠ 0 → mall (zs.drop pl) = ([], 0, if (mg 65536 (zs.drop pl)).1 = 4 then 0 else (mg 65536 (zs.drop pl)).1)) := hbad
    clear ht hbad hstep hs hds
    generalize (mg 65536 (zs.drop pl)).1 = E at *
    generalize (mg 65536 (zs.drop pl)).2.1 = Z at *
    generalize (mg 65536 (zs.drop pl)).2.2 = L at *
    rcases had with ⟨hcp, rfl⟩ | ⟨hcp, rfl⟩
    · obtain rfl : len = pl := by omega
      obtain rfl : len = cap := by omega
      rw [Nat.sub_self] at hcall
      by_cases h4 : E = 4
      · subst h4
        have hE := HBd.out (by decide)
        rw [if_pos rfl] at hE
        have HE : Hid (mall (zs.drop len) = ([], 0, 0)) := hE
        clear hE
        go_wp2_with fail
        refine hcall.mono ?_
        rintro e w1 ⟨v1, rfl, hown1, hb1⟩
        have hB1 := hB.trans (hb1.mono hB.size)
        replace hrow := own_below hrow hb1
        replace ho : ∀ p ∈ ps, p.Own w1 w.heap.size := fun p hp => (ho p hp).below hb1
        clear hcall
        go_wp2
        go_ret3
        exact rall_end (len := len) hpn hrow ho hB1 HT.out HE.out
      by_cases h0 : E = 0
      · have := (hsize h0)
        omega
      · have q4 : (E == 4) = false := by rw [beq_eq_false_iff_ne]; exact h4
        have q0 : (E != 0) = true := by simp [h0]
        have hE := HBd.out h0
        rw [if_neg h4] at hE
        have HE : Hid (mall (zs.drop len) = ([], 0, E)) := hE
        clear hE
        go_wp2_with fail
        refine hcall.mono ?_
        rintro e w1 ⟨v1, rfl, hown1, hb1⟩
        have hB1 := hB.trans (hb1.mono hB.size)
        replace hrow := own_below hrow hb1
        replace ho : ∀ p ∈ ps, p.Own w1 w.heap.size := fun p hp => (ho p hp).below hb1
        clear hcall
        go_wp2
        go_ret3
        exact rall_end (len := len) hpn hrow ho hB1 HT.out HE.out
    · have HCP : Hid (cap ≠ pl) := hcp
      by_cases h4 : E = 4
      · subst h4
        have hE := HBd.out (by decide)
        rw [if_pos rfl] at hE
        have HE : Hid (mall (zs.drop pl) = ([], 0, 0)) := hE
        clear hE
        go_wp2_with fail
        refine hcall.mono ?_
        rintro e w1 ⟨v1, rfl, hown1, hb1⟩
        have hB1 := hB.trans (hb1.mono hB.size)
        replace hrow := own_below hrow hb1
        replace ho : ∀ p ∈ ps, p.Own w1 w.heap.size := fun p hp => (ho p hp).below hb1
        clear hcall
        go_wp2
        go_ret3
        exact rall_end (len := len) hpn hrow ho hB1 HT.out HE.out
      by_cases h0 : E = 0
      · subst h0
        obtain ⟨k1, k2, k3⟩ := hsize rfl
        have HS0 : Hid (mall zs = after (ps.map Part.zs ++ [Z]) (pl + L) (mall (zs.drop (pl + L)))) := by
          show _ = _
          rw [← HT.out]
          exact HS.out rfl
        have HK : Hid (pl + L ≤ len ∧ 4 * (n + 1) ≤ pl + L ∧ len ≤ 1000000 ∧ 4 ≤ L) := ⟨by omega, by omega, hl, by omega⟩
        clear HS HT HBd hsize
        go_wp2_with fail
        refine hcall.mono ?_
        rintro e w1 ⟨v1, rfl, hown1, hb1⟩
        have hB1 := hB.trans (hb1.mono hB.size)
        replace hrow := own_below hrow hb1
        replace ho : ∀ p ∈ ps, p.Own w1 w.heap.size := fun p hp => (ho p hp).below hb1
        have hs01 := hB.size
        obtain ⟨a1, c1, rfl, _⟩ := own_val hown1 rfl
        have hx : Part.Own ⟨a1, Z.length, c1, Z⟩ w1 w.heap.size := ⟨rfl, own_base hown1 hB.size⟩
        clear hcall hb1 hown1
        go_wp2_with (at_builtin; refine wpList_append_own _ rfl _ _ 44 rfl w.heap.size 22 i0 (.slice none 0 0) 1 24 Tryd.underlying44 hi hz0 hz1 hz2 rfl (by decide) (.slice av n cv) n _ rfl (hrow.alloc _) ⟨w1.heap.size, 0, none⟩ 1 1 [.slice a1 Z.length c1] rfl rfl (cell_one_new _ _ _) (by simp [Value.oneCell']) (by unfold maxLen; omega) (by omega) (by have := hB1.size; simp; omega) ?_; intro v6 w6 hown6 hgrow6 _; obtain ⟨a6, c6, rfl⟩ := row_shape hown6; have hB6 : Below w.heap.size w w6 := (hB1.alloc hB1.size _).grown hgrow6 (by have := hB1.size; simp; omega) (fun k e => (row_type hrow e).1); have ho6 : ∀ p ∈ ps ++ [⟨a1, Z.length, c1, Z⟩], p.Own w6 w.heap.size := (fun p hp => (List.mem_append.1 hp).elim (fun h => ((ho p h).below ((Below.refl _ _).alloc (Nat.le_refl _) _)).other (hrow.alloc _) hgrow6) (fun h => by rw [List.mem_singleton.1 h]; exact (hx.below ((Below.refl _ _).alloc (Nat.le_refl _) _)).other (hrow.alloc _) hgrow6)); clear hgrow6 hrow ho hx hdl hpl h4n hlc hm hz hl k1 k2 k3 hi hz0 hz1 hz2 HCP)
        obtain ⟨j1, j2, j3, j4⟩ := HK.out
        have hwr : wrap64 ((pl : Int) + (L : Int)) = ((pl + L : Nat) : Int) := by
          unfold wrap64
          omega
        rw [hwr]
        refine ⟨⟨n + 1, c6, pl + L, a6, ps ++ [⟨a1, Z.length, c1, Z⟩], rfl, rfl, by rw [List.length_append, hpn]; rfl, j1, j2, by rw [List.map_append]; exact hown6, ho6, hB6, ?_⟩, by simp only [leftOf, intOf, Int.toNat_natCast]; omega⟩
        rw [List.map_append]
        exact HS0.out.symm
      · have q4 : (E == 4) = false := by rw [beq_eq_false_iff_ne]; exact h4
        have q0 : (E != 0) = true := by simp [h0]
        have hE := HBd.out h0
        rw [if_neg h4] at hE
        have HE : Hid (mall (zs.drop pl) = ([], 0, E)) := hE
        clear hE
        go_wp2_with fail
        refine hcall.mono ?_
        rintro e w1 ⟨v1, rfl, hown1, hb1⟩
        have hB1 := hB.trans (hb1.mono hB.size)
        replace hrow := own_below hrow hb1
        replace ho : ∀ p ∈ ps, p.Own w1 w.heap.size := fun p hp => (ho p hp).below hb1
        clear hcall
        go_wp2
        go_ret3
        exact rall_end (len := len) hpn hrow ho hB1 HT.out HE.out

set_option maxRecDepth 100000 in
set_option maxHeartbeats 1000000 in
theorem refmall_none (w : World) : Calls Tryd.prog 18 #[.slice none 0 0] w (rallPost w []) := by
  have hcall := refmget_any none 0 0 [] w (by omega) (by omega) (by omega) rfl (fun i => by simp) (.inl rfl) (by simp)
  unfold mgPost at hcall
  rw [mg_none 65536 [] (by decide)] at hcall
  dsimp only at hcall
  have HE : Hid (mall (([] : List Int).drop 0) = ([], 0, 0)) := rfl
  go_enter Tryd.func18, Tryd.ntmps18
  go_wp2
  refine wp_loop_rounds 1 ?_
  rw [rounds_succ]
  go_wp2_with fail
  refine hcall.mono ?_
  rintro e w1 ⟨v1, rfl, _, hb1⟩
  go_wp2
  go_ret3
  exact rall_end (len := 0) (ps := []) rfl (World.ownsRow_nil _ _ _ _) (by simp) hb1 rfl HE.out
end Go.Proofs.YtmjjoiljdcjhdaaDoor
