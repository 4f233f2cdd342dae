/- The document's 'Put' of a reply; nothing that was there turns. -/
import Derived.Test.YtmjhgpmeikpbkaaDoorRefNm
import Derived.Test.YtmjhgpmeikpbkaaDoorRepMath
import Derived.Test.YtmjhgpmeikpbkaaDoorRepSmall
import Derived.Test.YtmjhgpmeikpbkaaDoorNums
import Derived.Test.YtmjhgpmeikpbkaaDoorOwnVal4
import Derived.Test.YtmjhgpmeikpbkaaDoorBookBase
import Derived.Deep.WholeRow
import Derived.Deep.RegionLaw
import Derived.Test.YtmjhgpmeikpbkaaDoorRefRpN
import Derived.Deep.RegionHeld3
namespace Go.Proofs.YtmjhgpmeikpbkaaDoor
set_option linter.unusedVariables false
open Go.RowKit

theorem info4r : (Tryd.prog.info? 22).map (fun i => (i.zero, i.size, i.bytes)) = some (some (.int .u32 0), 1, 4) := by kernel_rfl

/-- Two numbers that are written out in a new block are owned. -/
theorem own_two (w : World) (p q : Int) : (w.alloc (.cells #[.int .u32 p, .int .u32 q] 22)).ownsRow w.heap.size 22 1 (.slice (some ⟨w.heap.size, 0, none⟩) 2 2) 2 ([p, q].map (Value.int .u32)) :=
  ⟨rfl, .inr ⟨w.heap.size, 2, #[.int .u32 p, .int .u32 q], rfl, Nat.le_refl _, heap_alloc_last w _, Nat.le_refl _, by unfold maxLen; omega, rfl, rfl⟩⟩

theorem news_lit (w : World) (xs : List Value) (t : TypeId) : ∀ j u, xs[j]? = some u → (w.alloc (.cells xs.toArray t)).cell? ((⟨w.heap.size, 0, none⟩ : Addr).add j) = some u := by
  intro j u hj
  have hh := heap_alloc_last w (.cells xs.toArray t)
  have ha : (⟨w.heap.size, 0, none⟩ : Addr).add j = ⟨w.heap.size, j, none⟩ := by unfold Addr.add; split <;> simp_all
  rw [ha]
  simp only [World.cell?, hh]
  simpa using hj

theorem news_at {w : World} {N : Nat} (hN : N = w.heap.size) (xs : List Value) (t : TypeId) : ∀ j u, xs[j]? = some u → (w.alloc (.cells xs.toArray t)).cell? ((⟨N, 0, none⟩ : Addr).add j) = some u := by
  subst hN; exact news_lit w xs t

theorem seg4_cells {w : World} {b : Nat} {zs : List Int} (h : Seg4 w (some ⟨b, 0, none⟩) zs) : ∀ i, i < zs.length → w.cell? ⟨b, i, none⟩ = some (.int .u32 (zs[i]?.getD 0)) := by
  intro i hi
  have := seg4_news h i (.int .u32 zs[i]) (by simp [List.getElem?_eq_getElem hi])
  have ha : (⟨b, 0, none⟩ : Addr).add i = ⟨b, i, none⟩ := by unfold Addr.add; split <;> simp_all
  rw [ha] at this
  rw [this, List.getElem?_eq_getElem hi, Option.getD_some]

set_option maxRecDepth 100000 in
set_option maxHeartbeats 4000000 in
theorem refrput_0 (x : Int) (ba : Option Addr) (bl bc : Nat) (bs : List Int) (w : World) (hx : U x) (hz : bs.length = bl) (hb : Byt bs) (hs : Seg w ba bs) (hn : ba = none → bl = 0 ∧ bc = 0) (hm : bl ≤ 1000000) :
    Calls Tryd.prog 11 #[.agg #[.int .u32 x, .int .u32 0, .int .u32 0, .int .u32 0, .slice ba bl bc]] w fun e w' => ∃ v, e = .returned (.tuple #[v, .int .i64 (if 65536 < 24 + bl then 3 else 0)]) ∧ w'.ownsRow w.heap.size 5 1 v (if 65536 < 24 + bl then 0 else 24 + bl) ((if 65536 < 24 + bl then [] else numsB [x, 1, 0, 0, 0, 0] ++ bs).map (Value.int .u8)) ∧ Below w.heap.size w w' := by
  obtain ⟨k1, k2, hB, hsz⟩ := two_boxes w (.cells #[.int .u32 x, .int .u32 0, .int .u32 0, .int .u32 0, .slice ba bl bc] 26) (.cells #[.int .u32 x, .int .u32 1] 22)
  have ho0 := own_two (w.alloc (.cells #[.int .u32 x, .int .u32 0, .int .u32 0, .int .u32 0, .slice ba bl bc] 26)) x 1
  have hsz1 : (w.alloc (.cells #[.int .u32 x, .int .u32 0, .int .u32 0, .int .u32 0, .slice ba bl bc] 26)).heap.size = w.heap.size + 1 := by simp
  rw [hsz1] at ho0
  clear hsz1
  obtain ⟨i0, hi, hz0, hz1, hz2⟩ := info_parts infoU8r
  obtain ⟨i4, hi4, hz40, hz41, hz42⟩ := info_parts info4r
  have hx0 := hx.lo
  have hx1 := hx.hi
  by_cases hlim : 65536 < 24 + bl
  · rw [if_pos hlim, if_pos hlim, if_pos hlim]
    have hli : (65536 : Int) < (24 + bl : Nat) := by omega
    have hb3 : Below ((w.alloc (.cells #[.int .u32 x, .int .u32 0, .int .u32 0, .int .u32 0, .slice ba bl bc] 26)).alloc (.cells #[.int .u32 x, .int .u32 1] 22)).heap.size ((w.alloc (.cells #[.int .u32 x, .int .u32 0, .int .u32 0, .int .u32 0, .slice ba bl bc] 26)).alloc (.cells #[.int .u32 x, .int .u32 1] 22)) (((w.alloc (.cells #[.int .u32 x, .int .u32 0, .int .u32 0, .int .u32 0, .slice ba bl bc] 26)).alloc (.cells #[.int .u32 x, .int .u32 1] 22)).alloc (.cells (([0, 0, 0, 0] : List Int).map (Value.int .u32)).toArray 22)) := (Below.refl _ _).alloc (Nat.le_refl _) _
    have ho1 := own_below ho0 hb3
    have k3 := (hb3.block _ (by omega)).trans k1
    have B3 := hB.trans (hb3.mono (by omega))
    have hs3 : (((w.alloc (.cells #[.int .u32 x, .int .u32 0, .int .u32 0, .int .u32 0, .slice ba bl bc] 26)).alloc (.cells #[.int .u32 x, .int .u32 1] 22)).alloc (.cells (([0, 0, 0, 0] : List Int).map (Value.int .u32)).toArray 22)).heap.size = w.heap.size + 3 := by simp
    go_enter Tryd.func11, Tryd.ntmps11
    go_wp2_with (at_builtin; refine wpList_append_own _ rfl _ _ 62 rfl (w.heap.size + 1) 22 i4 (.int .u32 0) 1 4 Tryd.underlying62 hi4 hz40 hz41 hz42 rfl (by decide) (.slice (some ⟨w.heap.size + 1, 0, none⟩) 2 2) 2 (([x, 1] : List Int).map (Value.int .u32)) rfl ho1 _ 4 4 (([0, 0, 0, 0] : List Int).map (Value.int .u32)) rfl rfl (news_at (by simp) (([0, 0, 0, 0] : List Int).map (Value.int .u32)) 22) (news_one4 _) (by unfold maxLen; omega) (by omega) (Nat.le_trans (show w.heap.size + 1 ≤ w.heap.size + 3 by omega) (Nat.le_of_eq hs3.symm)) ?_; intro v4 w4 ho4 hg4 _; obtain ⟨N, c4, e4, hc4, hcm, hN⟩ := own_shape ho4 (by omega); subst e4; have hb4 := (Below.refl (w.heap.size + 1) _).grown hg4 (Nat.le_trans (show w.heap.size + 1 ≤ w.heap.size + 3 by omega) (Nat.le_of_eq hs3.symm)) (by simp [Value.ownBlock]); have k4 := (hb4.block _ (by omega)).trans k3; have B4 := B3.trans (hb4.mono (by omega)); have s4 := seg4_own (zs := [x, 1, 0, 0, 0, 0]) ho4 rfl; have hcl := seg4_cells s4; have hN4 : N < w4.heap.size := s4.lt rfl (by simp); clear k1 k2 hB hsz ho0 hb3 ho1 k3 B3 hs3 hg4 hb4 s4; obtain ⟨f0, f1, f2, f3, f4⟩ := five_at k4)
    have hu : ∀ i : Nat, 0 ≤ (([x, 1, 0, 0, 0, 0] : List Int)[i]?.getD 0) ∧ (([x, 1, 0, 0, 0, 0] : List Int)[i]?.getD 0) ≤ 4294967295 := by
      intro i
      match i with
      | 0 => exact ⟨hx0, hx1⟩ | 1 => simp | 2 => simp | 3 => simp | 4 => simp | 5 => simp
      | _ + 6 => simp
    have hB4s := B4.size
    have hs4 := hs.below B4
    have hbW : Below w4.heap.size w4 w4.drew := ⟨rfl, rfl, rfl, Nat.le_refl _, fun _ _ => rfl⟩
    have S1 := (hbW.cell (p := ⟨w.heap.size, 4, none⟩) (show w.heap.size < w4.heap.size from World.block_lt_of_cell? _ _ f4)).trans f4
    have hnum := refnumbers_any N 6 c4 [x, 1, 0, 0, 0, 0] w4.drew (show N < w4.heap.size from hN4) rfl (by omega) (by omega) hu (fun i hi => hcl i hi)
    clear f0 f1 f2 f3 hu hcl
    go_region_held3 (fun w' => w'.cell? ⟨w.heap.size, 4, none⟩ = some (.slice ba bl bc)) (first | with_reducible exact S1 | with_reducible exact S2 | with_reducible exact S3) (first
      | (refine step_append_each _ (by rfl) _ _ _ (by rfl) w.heap.size 5 i0 (.int .u8 0) 1 1 Tryd.underlying24 hi hz0 hz1 hz2 rfl (by decide) v5 24 _ (by rfl) ho5' ba bl bc (bs.map (Value.int .u8)) (by rfl) hn (by simp [hz]) (fun b hb => seg_news (by rw [← hb]; exact hs5)) (news_one bs) (by unfold maxLen; omega) (by omega) hB5.size ?_; intro v6 w6 ho6 hg6; have S3 : w6.cell? ⟨w.heap.size, 4, none⟩ = some (.slice ba bl bc) := (World.cell?_of_block (a := ⟨w.heap.size, 4, none⟩) (hg6.block w.heap.size (World.block_lt_of_cell? _ _ S2) (fun e => by have := own_low ho5 e.symm; have h2 : w4.heap.size ≤ w.heap.size := this; have h3 := World.block_lt_of_cell? _ _ f4; have h4 : w.heap.size < w4.heap.size := h3; omega))).trans S2)
      | (go_at_call 28; refine hnum.mono ?_; rintro e w5 ⟨v5, rfl, ho5, hb5⟩; have hb5' : Below w4.heap.size w4 w5 := hbW.trans hb5; have S2 := (hb5'.cell (p := ⟨w.heap.size, 4, none⟩) (show w.heap.size < w4.heap.size from World.block_lt_of_cell? _ _ f4)).trans f4; have hB5 := B4.trans (hb5'.mono hB4s); have hs5 := hs.below hB5; have ho5' := own_base ho5 (base' := w.heap.size) hB4s))
    all_goals
      obtain ⟨g6, c6, rfl, -, -, -⟩ := own_shape ho6 (by omega)
      have B6 := hB5.grown hg6 hB5.size (fun j e => own_low ho5' e)
      clear S1 S2 S3 hbW hb5 hb5' ho5 ho5' hB5 hs5 hs4 hnum f4 B4 hN4 hg6
      go_wp2
      go_ret2
      exact ⟨_, rfl, ⟨rfl, .inl ⟨rfl, rfl⟩⟩, B6⟩
  · rw [if_neg hlim, if_neg hlim, if_neg hlim]
    have hli : ¬ (65536 : Int) < (24 + bl : Nat) := by omega
    have hb3 : Below ((w.alloc (.cells #[.int .u32 x, .int .u32 0, .int .u32 0, .int .u32 0, .slice ba bl bc] 26)).alloc (.cells #[.int .u32 x, .int .u32 1] 22)).heap.size ((w.alloc (.cells #[.int .u32 x, .int .u32 0, .int .u32 0, .int .u32 0, .slice ba bl bc] 26)).alloc (.cells #[.int .u32 x, .int .u32 1] 22)) (((w.alloc (.cells #[.int .u32 x, .int .u32 0, .int .u32 0, .int .u32 0, .slice ba bl bc] 26)).alloc (.cells #[.int .u32 x, .int .u32 1] 22)).alloc (.cells (([0, 0, 0, 0] : List Int).map (Value.int .u32)).toArray 22)) := (Below.refl _ _).alloc (Nat.le_refl _) _
    have ho1 := own_below ho0 hb3
    have k3 := (hb3.block _ (by omega)).trans k1
    have B3 := hB.trans (hb3.mono (by omega))
    have hs3 : (((w.alloc (.cells #[.int .u32 x, .int .u32 0, .int .u32 0, .int .u32 0, .slice ba bl bc] 26)).alloc (.cells #[.int .u32 x, .int .u32 1] 22)).alloc (.cells (([0, 0, 0, 0] : List Int).map (Value.int .u32)).toArray 22)).heap.size = w.heap.size + 3 := by simp
    go_enter Tryd.func11, Tryd.ntmps11
    go_wp2_with (at_builtin; refine wpList_append_own _ rfl _ _ 62 rfl (w.heap.size + 1) 22 i4 (.int .u32 0) 1 4 Tryd.underlying62 hi4 hz40 hz41 hz42 rfl (by decide) (.slice (some ⟨w.heap.size + 1, 0, none⟩) 2 2) 2 (([x, 1] : List Int).map (Value.int .u32)) rfl ho1 _ 4 4 (([0, 0, 0, 0] : List Int).map (Value.int .u32)) rfl rfl (news_at (by simp) (([0, 0, 0, 0] : List Int).map (Value.int .u32)) 22) (news_one4 _) (by unfold maxLen; omega) (by omega) (Nat.le_trans (show w.heap.size + 1 ≤ w.heap.size + 3 by omega) (Nat.le_of_eq hs3.symm)) ?_; intro v4 w4 ho4 hg4 _; obtain ⟨N, c4, e4, hc4, hcm, hN⟩ := own_shape ho4 (by omega); subst e4; have hb4 := (Below.refl (w.heap.size + 1) _).grown hg4 (Nat.le_trans (show w.heap.size + 1 ≤ w.heap.size + 3 by omega) (Nat.le_of_eq hs3.symm)) (by simp [Value.ownBlock]); have k4 := (hb4.block _ (by omega)).trans k3; have B4 := B3.trans (hb4.mono (by omega)); have s4 := seg4_own (zs := [x, 1, 0, 0, 0, 0]) ho4 rfl; have hcl := seg4_cells s4; have hN4 : N < w4.heap.size := s4.lt rfl (by simp); clear k1 k2 hB hsz ho0 hb3 ho1 k3 B3 hs3 hg4 hb4 s4; obtain ⟨f0, f1, f2, f3, f4⟩ := five_at k4)
    have hu : ∀ i : Nat, 0 ≤ (([x, 1, 0, 0, 0, 0] : List Int)[i]?.getD 0) ∧ (([x, 1, 0, 0, 0, 0] : List Int)[i]?.getD 0) ≤ 4294967295 := by
      intro i
      match i with
      | 0 => exact ⟨hx0, hx1⟩ | 1 => simp | 2 => simp | 3 => simp | 4 => simp | 5 => simp
      | _ + 6 => simp
    have hB4s := B4.size
    have hs4 := hs.below B4
    have hbW : Below w4.heap.size w4 w4.drew := ⟨rfl, rfl, rfl, Nat.le_refl _, fun _ _ => rfl⟩
    have S1 := (hbW.cell (p := ⟨w.heap.size, 4, none⟩) (show w.heap.size < w4.heap.size from World.block_lt_of_cell? _ _ f4)).trans f4
    have hnum := refnumbers_any N 6 c4 [x, 1, 0, 0, 0, 0] w4.drew (show N < w4.heap.size from hN4) rfl (by omega) (by omega) hu (fun i hi => hcl i hi)
    clear f0 f1 f2 f3 hu hcl
    go_region_held3 (fun w' => w'.cell? ⟨w.heap.size, 4, none⟩ = some (.slice ba bl bc)) (first | with_reducible exact S1 | with_reducible exact S2 | with_reducible exact S3) (first
      | (refine step_append_each _ (by rfl) _ _ _ (by rfl) w.heap.size 5 i0 (.int .u8 0) 1 1 Tryd.underlying24 hi hz0 hz1 hz2 rfl (by decide) v5 24 _ (by rfl) ho5' ba bl bc (bs.map (Value.int .u8)) (by rfl) hn (by simp [hz]) (fun b hb => seg_news (by rw [← hb]; exact hs5)) (news_one bs) (by unfold maxLen; omega) (by omega) hB5.size ?_; intro v6 w6 ho6 hg6; have S3 : w6.cell? ⟨w.heap.size, 4, none⟩ = some (.slice ba bl bc) := (World.cell?_of_block (a := ⟨w.heap.size, 4, none⟩) (hg6.block w.heap.size (World.block_lt_of_cell? _ _ S2) (fun e => by have := own_low ho5 e.symm; have h2 : w4.heap.size ≤ w.heap.size := this; have h3 := World.block_lt_of_cell? _ _ f4; have h4 : w.heap.size < w4.heap.size := h3; omega))).trans S2)
      | (go_at_call 28; refine hnum.mono ?_; rintro e w5 ⟨v5, rfl, ho5, hb5⟩; have hb5' : Below w4.heap.size w4 w5 := hbW.trans hb5; have S2 := (hb5'.cell (p := ⟨w.heap.size, 4, none⟩) (show w.heap.size < w4.heap.size from World.block_lt_of_cell? _ _ f4)).trans f4; have hB5 := B4.trans (hb5'.mono hB4s); have hs5 := hs.below hB5; have ho5' := own_base ho5 (base' := w.heap.size) hB4s))
    all_goals
      obtain ⟨g6, c6, rfl, -, -, -⟩ := own_shape ho6 (by omega)
      have B6 := hB5.grown hg6 hB5.size (fun j e => own_low ho5' e)
      clear S1 S2 S3 hbW hb5 hb5' ho5 ho5' hB5 hs5 hs4 hnum f4 B4 hN4 hg6
      go_wp2
      go_ret2
      exact ⟨_, rfl, by rw [List.map_append]; exact ho6, B6⟩

set_option maxRecDepth 100000 in
set_option maxHeartbeats 4000000 in
theorem refrput_1 (x : Int) (ba : Option Addr) (bl bc : Nat) (bs : List Int) (w : World) (hx : U x) (hb0 : bl = 0) (hz : bs.length = bl) (hb : Byt bs) (hs : Seg w ba bs) (hn : ba = none → bl = 0 ∧ bc = 0) (hm : bl ≤ 1000000) :
    Calls Tryd.prog 11 #[.agg #[.int .u32 x, .int .u32 1, .int .u32 0, .int .u32 0, .slice ba bl bc]] w fun e w' => ∃ v, e = .returned (.tuple #[v, .int .i64 (if 65536 < 24 + bl then 3 else 0)]) ∧ w'.ownsRow w.heap.size 5 1 v (if 65536 < 24 + bl then 0 else 24 + bl) ((if 65536 < 24 + bl then [] else numsB [x, 1, 0, 0, 0, 1] ++ bs).map (Value.int .u8)) ∧ Below w.heap.size w w' := by
  obtain ⟨k1, k2, hB, hsz⟩ := two_boxes w (.cells #[.int .u32 x, .int .u32 1, .int .u32 0, .int .u32 0, .slice ba bl bc] 26) (.cells #[.int .u32 x, .int .u32 1] 22)
  have ho0 := own_two (w.alloc (.cells #[.int .u32 x, .int .u32 1, .int .u32 0, .int .u32 0, .slice ba bl bc] 26)) x 1
  have hsz1 : (w.alloc (.cells #[.int .u32 x, .int .u32 1, .int .u32 0, .int .u32 0, .slice ba bl bc] 26)).heap.size = w.heap.size + 1 := by simp
  rw [hsz1] at ho0
  clear hsz1
  obtain ⟨i0, hi, hz0, hz1, hz2⟩ := info_parts infoU8r
  obtain ⟨i4, hi4, hz40, hz41, hz42⟩ := info_parts info4r
  have hx0 := hx.lo
  have hx1 := hx.hi
  have hbi : (bl : Int) ≤ 0 := by omega
  have hlim : ¬ 65536 < 24 + bl := by omega
  clear hb0
  rw [if_neg hlim, if_neg hlim, if_neg hlim]
  have hli : ¬ (65536 : Int) < (24 + bl : Nat) := by omega
  have hb3 : Below ((w.alloc (.cells #[.int .u32 x, .int .u32 1, .int .u32 0, .int .u32 0, .slice ba bl bc] 26)).alloc (.cells #[.int .u32 x, .int .u32 1] 22)).heap.size ((w.alloc (.cells #[.int .u32 x, .int .u32 1, .int .u32 0, .int .u32 0, .slice ba bl bc] 26)).alloc (.cells #[.int .u32 x, .int .u32 1] 22)) (((w.alloc (.cells #[.int .u32 x, .int .u32 1, .int .u32 0, .int .u32 0, .slice ba bl bc] 26)).alloc (.cells #[.int .u32 x, .int .u32 1] 22)).alloc (.cells (([0, 0, 0, 1] : List Int).map (Value.int .u32)).toArray 22)) := (Below.refl _ _).alloc (Nat.le_refl _) _
  have ho1 := own_below ho0 hb3
  have k3 := (hb3.block _ (by omega)).trans k1
  have B3 := hB.trans (hb3.mono (by omega))
  have hs3 : (((w.alloc (.cells #[.int .u32 x, .int .u32 1, .int .u32 0, .int .u32 0, .slice ba bl bc] 26)).alloc (.cells #[.int .u32 x, .int .u32 1] 22)).alloc (.cells (([0, 0, 0, 1] : List Int).map (Value.int .u32)).toArray 22)).heap.size = w.heap.size + 3 := by simp
  go_enter Tryd.func11, Tryd.ntmps11
  go_wp2_with (at_builtin; refine wpList_append_own _ rfl _ _ 62 rfl (w.heap.size + 1) 22 i4 (.int .u32 0) 1 4 Tryd.underlying62 hi4 hz40 hz41 hz42 rfl (by decide) (.slice (some ⟨w.heap.size + 1, 0, none⟩) 2 2) 2 (([x, 1] : List Int).map (Value.int .u32)) rfl ho1 _ 4 4 (([0, 0, 0, 1] : List Int).map (Value.int .u32)) rfl rfl (news_at (by simp) (([0, 0, 0, 1] : List Int).map (Value.int .u32)) 22) (news_one4 _) (by unfold maxLen; omega) (by omega) (Nat.le_trans (show w.heap.size + 1 ≤ w.heap.size + 3 by omega) (Nat.le_of_eq hs3.symm)) ?_; intro v4 w4 ho4 hg4 _; obtain ⟨N, c4, e4, hc4, hcm, hN⟩ := own_shape ho4 (by omega); subst e4; have hb4 := (Below.refl (w.heap.size + 1) _).grown hg4 (Nat.le_trans (show w.heap.size + 1 ≤ w.heap.size + 3 by omega) (Nat.le_of_eq hs3.symm)) (by simp [Value.ownBlock]); have k4 := (hb4.block _ (by omega)).trans k3; have B4 := B3.trans (hb4.mono (by omega)); have s4 := seg4_own (zs := [x, 1, 0, 0, 0, 1]) ho4 rfl; have hcl := seg4_cells s4; have hN4 : N < w4.heap.size := s4.lt rfl (by simp); clear k1 k2 hB hsz ho0 hb3 ho1 k3 B3 hs3 hg4 hb4 s4; obtain ⟨f0, f1, f2, f3, f4⟩ := five_at k4)
  have hu : ∀ i : Nat, 0 ≤ (([x, 1, 0, 0, 0, 1] : List Int)[i]?.getD 0) ∧ (([x, 1, 0, 0, 0, 1] : List Int)[i]?.getD 0) ≤ 4294967295 := by
    intro i
    match i with
    | 0 => exact ⟨hx0, hx1⟩ | 1 => simp | 2 => simp | 3 => simp | 4 => simp | 5 => simp
    | _ + 6 => simp
  have hB4s := B4.size
  have hs4 := hs.below B4
  have hbW : Below w4.heap.size w4 w4.drew := ⟨rfl, rfl, rfl, Nat.le_refl _, fun _ _ => rfl⟩
  have S1 := (hbW.cell (p := ⟨w.heap.size, 4, none⟩) (show w.heap.size < w4.heap.size from World.block_lt_of_cell? _ _ f4)).trans f4
  have hnum := refnumbers_any N 6 c4 [x, 1, 0, 0, 0, 1] w4.drew (show N < w4.heap.size from hN4) rfl (by omega) (by omega) hu (fun i hi => hcl i hi)
  clear f0 f1 f2 f3 hu hcl
  go_region_held3 (fun w' => w'.cell? ⟨w.heap.size, 4, none⟩ = some (.slice ba bl bc)) (first | with_reducible exact S1 | with_reducible exact S2 | with_reducible exact S3) (first
    | (refine step_append_each _ (by rfl) _ _ _ (by rfl) w.heap.size 5 i0 (.int .u8 0) 1 1 Tryd.underlying24 hi hz0 hz1 hz2 rfl (by decide) v5 24 _ (by rfl) ho5' ba bl bc (bs.map (Value.int .u8)) (by rfl) hn (by simp [hz]) (fun b hb => seg_news (by rw [← hb]; exact hs5)) (news_one bs) (by unfold maxLen; omega) (by omega) hB5.size ?_; intro v6 w6 ho6 hg6; have S3 : w6.cell? ⟨w.heap.size, 4, none⟩ = some (.slice ba bl bc) := (World.cell?_of_block (a := ⟨w.heap.size, 4, none⟩) (hg6.block w.heap.size (World.block_lt_of_cell? _ _ S2) (fun e => by have := own_low ho5 e.symm; have h2 : w4.heap.size ≤ w.heap.size := this; have h3 := World.block_lt_of_cell? _ _ f4; have h4 : w.heap.size < w4.heap.size := h3; omega))).trans S2)
    | (go_at_call 28; refine hnum.mono ?_; rintro e w5 ⟨v5, rfl, ho5, hb5⟩; have hb5' : Below w4.heap.size w4 w5 := hbW.trans hb5; have S2 := (hb5'.cell (p := ⟨w.heap.size, 4, none⟩) (show w.heap.size < w4.heap.size from World.block_lt_of_cell? _ _ f4)).trans f4; have hB5 := B4.trans (hb5'.mono hB4s); have hs5 := hs.below hB5; have ho5' := own_base ho5 (base' := w.heap.size) hB4s))
  all_goals
    obtain ⟨g6, c6, rfl, -, -, -⟩ := own_shape ho6 (by omega)
    have B6 := hB5.grown hg6 hB5.size (fun j e => own_low ho5' e)
    clear S1 S2 S3 hbW hb5 hb5' ho5 ho5' hB5 hs5 hs4 hnum f4 B4 hN4 hg6
    go_wp2
    go_ret2
    exact ⟨_, rfl, by rw [List.map_append]; exact ho6, B6⟩

set_option maxRecDepth 100000 in
set_option maxHeartbeats 4000000 in
theorem refrput_2 (x l g : Int) (ba : Option Addr) (bl bc : Nat) (bs : List Int) (w : World) (hx : U x) (hl : U l) (hg : U g) (hb0 : bl = 0) (hz : bs.length = bl) (hb : Byt bs) (hs : Seg w ba bs) (hn : ba = none → bl = 0 ∧ bc = 0) (hm : bl ≤ 1000000) :
    Calls Tryd.prog 11 #[.agg #[.int .u32 x, .int .u32 2, .int .u32 l, .int .u32 g, .slice ba bl bc]] w fun e w' => ∃ v, e = .returned (.tuple #[v, .int .i64 (if 65536 < 32 + bl then 3 else 0)]) ∧ w'.ownsRow w.heap.size 5 1 v (if 65536 < 32 + bl then 0 else 32 + bl) ((if 65536 < 32 + bl then [] else numsB [x, 1, 0, 0, 0, 2, l, g] ++ bs).map (Value.int .u8)) ∧ Below w.heap.size w w' := by
  obtain ⟨k1, k2, hB, hsz⟩ := two_boxes w (.cells #[.int .u32 x, .int .u32 2, .int .u32 l, .int .u32 g, .slice ba bl bc] 26) (.cells #[.int .u32 x, .int .u32 1] 22)
  have ho0 := own_two (w.alloc (.cells #[.int .u32 x, .int .u32 2, .int .u32 l, .int .u32 g, .slice ba bl bc] 26)) x 1
  have hsz1 : (w.alloc (.cells #[.int .u32 x, .int .u32 2, .int .u32 l, .int .u32 g, .slice ba bl bc] 26)).heap.size = w.heap.size + 1 := by simp
  rw [hsz1] at ho0
  clear hsz1
  obtain ⟨i0, hi, hz0, hz1, hz2⟩ := info_parts infoU8r
  obtain ⟨i4, hi4, hz40, hz41, hz42⟩ := info_parts info4r
  have hx0 := hx.lo
  have hx1 := hx.hi
  have hl0 := hl.lo
  have hlh := hl.hi
  have hg0 := hg.lo
  have hgh := hg.hi
  have hbi : (bl : Int) ≤ 0 := by omega
  have hlim : ¬ 65536 < 32 + bl := by omega
  clear hb0
  rw [if_neg hlim, if_neg hlim, if_neg hlim]
  have hli : ¬ (65536 : Int) < (32 + bl : Nat) := by omega
  have hb3 : Below ((w.alloc (.cells #[.int .u32 x, .int .u32 2, .int .u32 l, .int .u32 g, .slice ba bl bc] 26)).alloc (.cells #[.int .u32 x, .int .u32 1] 22)).heap.size ((w.alloc (.cells #[.int .u32 x, .int .u32 2, .int .u32 l, .int .u32 g, .slice ba bl bc] 26)).alloc (.cells #[.int .u32 x, .int .u32 1] 22)) (((w.alloc (.cells #[.int .u32 x, .int .u32 2, .int .u32 l, .int .u32 g, .slice ba bl bc] 26)).alloc (.cells #[.int .u32 x, .int .u32 1] 22)).alloc (.cells (([0, 0, 0, 2, l, g] : List Int).map (Value.int .u32)).toArray 22)) := (Below.refl _ _).alloc (Nat.le_refl _) _
  have ho1 := own_below ho0 hb3
  have k3 := (hb3.block _ (by omega)).trans k1
  have B3 := hB.trans (hb3.mono (by omega))
  have hs3 : (((w.alloc (.cells #[.int .u32 x, .int .u32 2, .int .u32 l, .int .u32 g, .slice ba bl bc] 26)).alloc (.cells #[.int .u32 x, .int .u32 1] 22)).alloc (.cells (([0, 0, 0, 2, l, g] : List Int).map (Value.int .u32)).toArray 22)).heap.size = w.heap.size + 3 := by simp
  go_enter Tryd.func11, Tryd.ntmps11
  go_wp2_with (at_builtin; refine wpList_append_own _ rfl _ _ 62 rfl (w.heap.size + 1) 22 i4 (.int .u32 0) 1 4 Tryd.underlying62 hi4 hz40 hz41 hz42 rfl (by decide) (.slice (some ⟨w.heap.size + 1, 0, none⟩) 2 2) 2 (([x, 1] : List Int).map (Value.int .u32)) rfl ho1 _ 6 6 (([0, 0, 0, 2, l, g] : List Int).map (Value.int .u32)) rfl rfl (news_at (by simp) (([0, 0, 0, 2, l, g] : List Int).map (Value.int .u32)) 22) (news_one4 _) (by unfold maxLen; omega) (by omega) (Nat.le_trans (show w.heap.size + 1 ≤ w.heap.size + 3 by omega) (Nat.le_of_eq hs3.symm)) ?_; intro v4 w4 ho4 hg4 _; obtain ⟨N, c4, e4, hc4, hcm, hN⟩ := own_shape ho4 (by omega); subst e4; have hb4 := (Below.refl (w.heap.size + 1) _).grown hg4 (Nat.le_trans (show w.heap.size + 1 ≤ w.heap.size + 3 by omega) (Nat.le_of_eq hs3.symm)) (by simp [Value.ownBlock]); have k4 := (hb4.block _ (by omega)).trans k3; have B4 := B3.trans (hb4.mono (by omega)); have s4 := seg4_own (zs := [x, 1, 0, 0, 0, 2, l, g]) ho4 rfl; have hcl := seg4_cells s4; have hN4 : N < w4.heap.size := s4.lt rfl (by simp); clear k1 k2 hB hsz ho0 hb3 ho1 k3 B3 hs3 hg4 hb4 s4; obtain ⟨f0, f1, f2, f3, f4⟩ := five_at k4)
  have hu : ∀ i : Nat, 0 ≤ (([x, 1, 0, 0, 0, 2, l, g] : List Int)[i]?.getD 0) ∧ (([x, 1, 0, 0, 0, 2, l, g] : List Int)[i]?.getD 0) ≤ 4294967295 := by
    intro i
    match i with
    | 0 => exact ⟨hx0, hx1⟩ | 1 => simp | 2 => simp | 3 => simp | 4 => simp | 5 => simp | 6 => exact ⟨hl0, hlh⟩ | 7 => exact ⟨hg0, hgh⟩
    | _ + 8 => simp
  have hB4s := B4.size
  have hs4 := hs.below B4
  have hbW : Below w4.heap.size w4 w4.drew := ⟨rfl, rfl, rfl, Nat.le_refl _, fun _ _ => rfl⟩
  have S1 := (hbW.cell (p := ⟨w.heap.size, 4, none⟩) (show w.heap.size < w4.heap.size from World.block_lt_of_cell? _ _ f4)).trans f4
  have hnum := refnumbers_any N 8 c4 [x, 1, 0, 0, 0, 2, l, g] w4.drew (show N < w4.heap.size from hN4) rfl (by omega) (by omega) hu (fun i hi => hcl i hi)
  clear f0 f1 f2 f3 hu hcl
  go_region_held3 (fun w' => w'.cell? ⟨w.heap.size, 4, none⟩ = some (.slice ba bl bc)) (first | with_reducible exact S1 | with_reducible exact S2 | with_reducible exact S3) (first
    | (refine step_append_each _ (by rfl) _ _ _ (by rfl) w.heap.size 5 i0 (.int .u8 0) 1 1 Tryd.underlying24 hi hz0 hz1 hz2 rfl (by decide) v5 32 _ (by rfl) ho5' ba bl bc (bs.map (Value.int .u8)) (by rfl) hn (by simp [hz]) (fun b hb => seg_news (by rw [← hb]; exact hs5)) (news_one bs) (by unfold maxLen; omega) (by omega) hB5.size ?_; intro v6 w6 ho6 hg6; have S3 : w6.cell? ⟨w.heap.size, 4, none⟩ = some (.slice ba bl bc) := (World.cell?_of_block (a := ⟨w.heap.size, 4, none⟩) (hg6.block w.heap.size (World.block_lt_of_cell? _ _ S2) (fun e => by have := own_low ho5 e.symm; have h2 : w4.heap.size ≤ w.heap.size := this; have h3 := World.block_lt_of_cell? _ _ f4; have h4 : w.heap.size < w4.heap.size := h3; omega))).trans S2)
    | (go_at_call 28; refine hnum.mono ?_; rintro e w5 ⟨v5, rfl, ho5, hb5⟩; have hb5' : Below w4.heap.size w4 w5 := hbW.trans hb5; have S2 := (hb5'.cell (p := ⟨w.heap.size, 4, none⟩) (show w.heap.size < w4.heap.size from World.block_lt_of_cell? _ _ f4)).trans f4; have hB5 := B4.trans (hb5'.mono hB4s); have hs5 := hs.below hB5; have ho5' := own_base ho5 (base' := w.heap.size) hB4s))
  all_goals
    obtain ⟨g6, c6, rfl, -, -, -⟩ := own_shape ho6 (by omega)
    have B6 := hB5.grown hg6 hB5.size (fun j e => own_low ho5' e)
    clear S1 S2 S3 hbW hb5 hb5' ho5 ho5' hB5 hs5 hs4 hnum f4 B4 hN4 hg6
    go_wp2
    go_ret2
    exact ⟨_, rfl, by rw [List.map_append]; exact ho6, B6⟩

set_option maxRecDepth 100000 in
set_option maxHeartbeats 4000000 in
theorem refrput_3 (x : Int) (ba : Option Addr) (bl bc : Nat) (bs : List Int) (w : World) (hx : U x) (hb0 : bl = 0) (hz : bs.length = bl) (hb : Byt bs) (hs : Seg w ba bs) (hn : ba = none → bl = 0 ∧ bc = 0) (hm : bl ≤ 1000000) :
    Calls Tryd.prog 11 #[.agg #[.int .u32 x, .int .u32 3, .int .u32 0, .int .u32 0, .slice ba bl bc]] w fun e w' => ∃ v, e = .returned (.tuple #[v, .int .i64 (if 65536 < 24 + bl then 3 else 0)]) ∧ w'.ownsRow w.heap.size 5 1 v (if 65536 < 24 + bl then 0 else 24 + bl) ((if 65536 < 24 + bl then [] else numsB [x, 1, 0, 0, 0, 3] ++ bs).map (Value.int .u8)) ∧ Below w.heap.size w w' := by
  obtain ⟨k1, k2, hB, hsz⟩ := two_boxes w (.cells #[.int .u32 x, .int .u32 3, .int .u32 0, .int .u32 0, .slice ba bl bc] 26) (.cells #[.int .u32 x, .int .u32 1] 22)
  have ho0 := own_two (w.alloc (.cells #[.int .u32 x, .int .u32 3, .int .u32 0, .int .u32 0, .slice ba bl bc] 26)) x 1
  have hsz1 : (w.alloc (.cells #[.int .u32 x, .int .u32 3, .int .u32 0, .int .u32 0, .slice ba bl bc] 26)).heap.size = w.heap.size + 1 := by simp
  rw [hsz1] at ho0
  clear hsz1
  obtain ⟨i0, hi, hz0, hz1, hz2⟩ := info_parts infoU8r
  obtain ⟨i4, hi4, hz40, hz41, hz42⟩ := info_parts info4r
  have hx0 := hx.lo
  have hx1 := hx.hi
  have hbi : (bl : Int) ≤ 0 := by omega
  have hlim : ¬ 65536 < 24 + bl := by omega
  clear hb0
  rw [if_neg hlim, if_neg hlim, if_neg hlim]
  have hli : ¬ (65536 : Int) < (24 + bl : Nat) := by omega
  have hb3 : Below ((w.alloc (.cells #[.int .u32 x, .int .u32 3, .int .u32 0, .int .u32 0, .slice ba bl bc] 26)).alloc (.cells #[.int .u32 x, .int .u32 1] 22)).heap.size ((w.alloc (.cells #[.int .u32 x, .int .u32 3, .int .u32 0, .int .u32 0, .slice ba bl bc] 26)).alloc (.cells #[.int .u32 x, .int .u32 1] 22)) (((w.alloc (.cells #[.int .u32 x, .int .u32 3, .int .u32 0, .int .u32 0, .slice ba bl bc] 26)).alloc (.cells #[.int .u32 x, .int .u32 1] 22)).alloc (.cells (([0, 0, 0, 3] : List Int).map (Value.int .u32)).toArray 22)) := (Below.refl _ _).alloc (Nat.le_refl _) _
  have ho1 := own_below ho0 hb3
  have k3 := (hb3.block _ (by omega)).trans k1
  have B3 := hB.trans (hb3.mono (by omega))
  have hs3 : (((w.alloc (.cells #[.int .u32 x, .int .u32 3, .int .u32 0, .int .u32 0, .slice ba bl bc] 26)).alloc (.cells #[.int .u32 x, .int .u32 1] 22)).alloc (.cells (([0, 0, 0, 3] : List Int).map (Value.int .u32)).toArray 22)).heap.size = w.heap.size + 3 := by simp
  go_enter Tryd.func11, Tryd.ntmps11
  go_wp2_with (at_builtin; refine wpList_append_own _ rfl _ _ 62 rfl (w.heap.size + 1) 22 i4 (.int .u32 0) 1 4 Tryd.underlying62 hi4 hz40 hz41 hz42 rfl (by decide) (.slice (some ⟨w.heap.size + 1, 0, none⟩) 2 2) 2 (([x, 1] : List Int).map (Value.int .u32)) rfl ho1 _ 4 4 (([0, 0, 0, 3] : List Int).map (Value.int .u32)) rfl rfl (news_at (by simp) (([0, 0, 0, 3] : List Int).map (Value.int .u32)) 22) (news_one4 _) (by unfold maxLen; omega) (by omega) (Nat.le_trans (show w.heap.size + 1 ≤ w.heap.size + 3 by omega) (Nat.le_of_eq hs3.symm)) ?_; intro v4 w4 ho4 hg4 _; obtain ⟨N, c4, e4, hc4, hcm, hN⟩ := own_shape ho4 (by omega); subst e4; have hb4 := (Below.refl (w.heap.size + 1) _).grown hg4 (Nat.le_trans (show w.heap.size + 1 ≤ w.heap.size + 3 by omega) (Nat.le_of_eq hs3.symm)) (by simp [Value.ownBlock]); have k4 := (hb4.block _ (by omega)).trans k3; have B4 := B3.trans (hb4.mono (by omega)); have s4 := seg4_own (zs := [x, 1, 0, 0, 0, 3]) ho4 rfl; have hcl := seg4_cells s4; have hN4 : N < w4.heap.size := s4.lt rfl (by simp); clear k1 k2 hB hsz ho0 hb3 ho1 k3 B3 hs3 hg4 hb4 s4; obtain ⟨f0, f1, f2, f3, f4⟩ := five_at k4)
  have hu : ∀ i : Nat, 0 ≤ (([x, 1, 0, 0, 0, 3] : List Int)[i]?.getD 0) ∧ (([x, 1, 0, 0, 0, 3] : List Int)[i]?.getD 0) ≤ 4294967295 := by
    intro i
    match i with
    | 0 => exact ⟨hx0, hx1⟩ | 1 => simp | 2 => simp | 3 => simp | 4 => simp | 5 => simp
    | _ + 6 => simp
  have hB4s := B4.size
  have hs4 := hs.below B4
  have hbW : Below w4.heap.size w4 w4.drew := ⟨rfl, rfl, rfl, Nat.le_refl _, fun _ _ => rfl⟩
  have S1 := (hbW.cell (p := ⟨w.heap.size, 4, none⟩) (show w.heap.size < w4.heap.size from World.block_lt_of_cell? _ _ f4)).trans f4
  have hnum := refnumbers_any N 6 c4 [x, 1, 0, 0, 0, 3] w4.drew (show N < w4.heap.size from hN4) rfl (by omega) (by omega) hu (fun i hi => hcl i hi)
  clear f0 f1 f2 f3 hu hcl
  go_region_held3 (fun w' => w'.cell? ⟨w.heap.size, 4, none⟩ = some (.slice ba bl bc)) (first | with_reducible exact S1 | with_reducible exact S2 | with_reducible exact S3) (first
    | (refine step_append_each _ (by rfl) _ _ _ (by rfl) w.heap.size 5 i0 (.int .u8 0) 1 1 Tryd.underlying24 hi hz0 hz1 hz2 rfl (by decide) v5 24 _ (by rfl) ho5' ba bl bc (bs.map (Value.int .u8)) (by rfl) hn (by simp [hz]) (fun b hb => seg_news (by rw [← hb]; exact hs5)) (news_one bs) (by unfold maxLen; omega) (by omega) hB5.size ?_; intro v6 w6 ho6 hg6; have S3 : w6.cell? ⟨w.heap.size, 4, none⟩ = some (.slice ba bl bc) := (World.cell?_of_block (a := ⟨w.heap.size, 4, none⟩) (hg6.block w.heap.size (World.block_lt_of_cell? _ _ S2) (fun e => by have := own_low ho5 e.symm; have h2 : w4.heap.size ≤ w.heap.size := this; have h3 := World.block_lt_of_cell? _ _ f4; have h4 : w.heap.size < w4.heap.size := h3; omega))).trans S2)
    | (go_at_call 28; refine hnum.mono ?_; rintro e w5 ⟨v5, rfl, ho5, hb5⟩; have hb5' : Below w4.heap.size w4 w5 := hbW.trans hb5; have S2 := (hb5'.cell (p := ⟨w.heap.size, 4, none⟩) (show w.heap.size < w4.heap.size from World.block_lt_of_cell? _ _ f4)).trans f4; have hB5 := B4.trans (hb5'.mono hB4s); have hs5 := hs.below hB5; have ho5' := own_base ho5 (base' := w.heap.size) hB4s))
  all_goals
    obtain ⟨g6, c6, rfl, -, -, -⟩ := own_shape ho6 (by omega)
    have B6 := hB5.grown hg6 hB5.size (fun j e => own_low ho5' e)
    clear S1 S2 S3 hbW hb5 hb5' ho5 ho5' hB5 hs5 hs4 hnum f4 B4 hN4 hg6
    go_wp2
    go_ret2
    exact ⟨_, rfl, by rw [List.map_append]; exact ho6, B6⟩

set_option maxRecDepth 100000 in
set_option maxHeartbeats 4000000 in
theorem refrput_4 (x : Int) (ba : Option Addr) (bl bc : Nat) (bs : List Int) (w : World) (hx : U x) (hb0 : bl = 0) (hz : bs.length = bl) (hb : Byt bs) (hs : Seg w ba bs) (hn : ba = none → bl = 0 ∧ bc = 0) (hm : bl ≤ 1000000) :
    Calls Tryd.prog 11 #[.agg #[.int .u32 x, .int .u32 4, .int .u32 0, .int .u32 0, .slice ba bl bc]] w fun e w' => ∃ v, e = .returned (.tuple #[v, .int .i64 (if 65536 < 24 + bl then 3 else 0)]) ∧ w'.ownsRow w.heap.size 5 1 v (if 65536 < 24 + bl then 0 else 24 + bl) ((if 65536 < 24 + bl then [] else numsB [x, 1, 0, 0, 0, 4] ++ bs).map (Value.int .u8)) ∧ Below w.heap.size w w' := by
  obtain ⟨k1, k2, hB, hsz⟩ := two_boxes w (.cells #[.int .u32 x, .int .u32 4, .int .u32 0, .int .u32 0, .slice ba bl bc] 26) (.cells #[.int .u32 x, .int .u32 1] 22)
  have ho0 := own_two (w.alloc (.cells #[.int .u32 x, .int .u32 4, .int .u32 0, .int .u32 0, .slice ba bl bc] 26)) x 1
  have hsz1 : (w.alloc (.cells #[.int .u32 x, .int .u32 4, .int .u32 0, .int .u32 0, .slice ba bl bc] 26)).heap.size = w.heap.size + 1 := by simp
  rw [hsz1] at ho0
  clear hsz1
  obtain ⟨i0, hi, hz0, hz1, hz2⟩ := info_parts infoU8r
  obtain ⟨i4, hi4, hz40, hz41, hz42⟩ := info_parts info4r
  have hx0 := hx.lo
  have hx1 := hx.hi
  have hbi : (bl : Int) ≤ 0 := by omega
  have hlim : ¬ 65536 < 24 + bl := by omega
  clear hb0
  rw [if_neg hlim, if_neg hlim, if_neg hlim]
  have hli : ¬ (65536 : Int) < (24 + bl : Nat) := by omega
  have hb3 : Below ((w.alloc (.cells #[.int .u32 x, .int .u32 4, .int .u32 0, .int .u32 0, .slice ba bl bc] 26)).alloc (.cells #[.int .u32 x, .int .u32 1] 22)).heap.size ((w.alloc (.cells #[.int .u32 x, .int .u32 4, .int .u32 0, .int .u32 0, .slice ba bl bc] 26)).alloc (.cells #[.int .u32 x, .int .u32 1] 22)) (((w.alloc (.cells #[.int .u32 x, .int .u32 4, .int .u32 0, .int .u32 0, .slice ba bl bc] 26)).alloc (.cells #[.int .u32 x, .int .u32 1] 22)).alloc (.cells (([0, 0, 0, 4] : List Int).map (Value.int .u32)).toArray 22)) := (Below.refl _ _).alloc (Nat.le_refl _) _
  have ho1 := own_below ho0 hb3
  have k3 := (hb3.block _ (by omega)).trans k1
  have B3 := hB.trans (hb3.mono (by omega))
  have hs3 : (((w.alloc (.cells #[.int .u32 x, .int .u32 4, .int .u32 0, .int .u32 0, .slice ba bl bc] 26)).alloc (.cells #[.int .u32 x, .int .u32 1] 22)).alloc (.cells (([0, 0, 0, 4] : List Int).map (Value.int .u32)).toArray 22)).heap.size = w.heap.size + 3 := by simp
  go_enter Tryd.func11, Tryd.ntmps11
  go_wp2_with (at_builtin; refine wpList_append_own _ rfl _ _ 62 rfl (w.heap.size + 1) 22 i4 (.int .u32 0) 1 4 Tryd.underlying62 hi4 hz40 hz41 hz42 rfl (by decide) (.slice (some ⟨w.heap.size + 1, 0, none⟩) 2 2) 2 (([x, 1] : List Int).map (Value.int .u32)) rfl ho1 _ 4 4 (([0, 0, 0, 4] : List Int).map (Value.int .u32)) rfl rfl (news_at (by simp) (([0, 0, 0, 4] : List Int).map (Value.int .u32)) 22) (news_one4 _) (by unfold maxLen; omega) (by omega) (Nat.le_trans (show w.heap.size + 1 ≤ w.heap.size + 3 by omega) (Nat.le_of_eq hs3.symm)) ?_; intro v4 w4 ho4 hg4 _; obtain ⟨N, c4, e4, hc4, hcm, hN⟩ := own_shape ho4 (by omega); subst e4; have hb4 := (Below.refl (w.heap.size + 1) _).grown hg4 (Nat.le_trans (show w.heap.size + 1 ≤ w.heap.size + 3 by omega) (Nat.le_of_eq hs3.symm)) (by simp [Value.ownBlock]); have k4 := (hb4.block _ (by omega)).trans k3; have B4 := B3.trans (hb4.mono (by omega)); have s4 := seg4_own (zs := [x, 1, 0, 0, 0, 4]) ho4 rfl; have hcl := seg4_cells s4; have hN4 : N < w4.heap.size := s4.lt rfl (by simp); clear k1 k2 hB hsz ho0 hb3 ho1 k3 B3 hs3 hg4 hb4 s4; obtain ⟨f0, f1, f2, f3, f4⟩ := five_at k4)
  have hu : ∀ i : Nat, 0 ≤ (([x, 1, 0, 0, 0, 4] : List Int)[i]?.getD 0) ∧ (([x, 1, 0, 0, 0, 4] : List Int)[i]?.getD 0) ≤ 4294967295 := by
    intro i
    match i with
    | 0 => exact ⟨hx0, hx1⟩ | 1 => simp | 2 => simp | 3 => simp | 4 => simp | 5 => simp
    | _ + 6 => simp
  have hB4s := B4.size
  have hs4 := hs.below B4
  have hbW : Below w4.heap.size w4 w4.drew := ⟨rfl, rfl, rfl, Nat.le_refl _, fun _ _ => rfl⟩
  have S1 := (hbW.cell (p := ⟨w.heap.size, 4, none⟩) (show w.heap.size < w4.heap.size from World.block_lt_of_cell? _ _ f4)).trans f4
  have hnum := refnumbers_any N 6 c4 [x, 1, 0, 0, 0, 4] w4.drew (show N < w4.heap.size from hN4) rfl (by omega) (by omega) hu (fun i hi => hcl i hi)
  clear f0 f1 f2 f3 hu hcl
  go_region_held3 (fun w' => w'.cell? ⟨w.heap.size, 4, none⟩ = some (.slice ba bl bc)) (first | with_reducible exact S1 | with_reducible exact S2 | with_reducible exact S3) (first
    | (refine step_append_each _ (by rfl) _ _ _ (by rfl) w.heap.size 5 i0 (.int .u8 0) 1 1 Tryd.underlying24 hi hz0 hz1 hz2 rfl (by decide) v5 24 _ (by rfl) ho5' ba bl bc (bs.map (Value.int .u8)) (by rfl) hn (by simp [hz]) (fun b hb => seg_news (by rw [← hb]; exact hs5)) (news_one bs) (by unfold maxLen; omega) (by omega) hB5.size ?_; intro v6 w6 ho6 hg6; have S3 : w6.cell? ⟨w.heap.size, 4, none⟩ = some (.slice ba bl bc) := (World.cell?_of_block (a := ⟨w.heap.size, 4, none⟩) (hg6.block w.heap.size (World.block_lt_of_cell? _ _ S2) (fun e => by have := own_low ho5 e.symm; have h2 : w4.heap.size ≤ w.heap.size := this; have h3 := World.block_lt_of_cell? _ _ f4; have h4 : w.heap.size < w4.heap.size := h3; omega))).trans S2)
    | (go_at_call 28; refine hnum.mono ?_; rintro e w5 ⟨v5, rfl, ho5, hb5⟩; have hb5' : Below w4.heap.size w4 w5 := hbW.trans hb5; have S2 := (hb5'.cell (p := ⟨w.heap.size, 4, none⟩) (show w.heap.size < w4.heap.size from World.block_lt_of_cell? _ _ f4)).trans f4; have hB5 := B4.trans (hb5'.mono hB4s); have hs5 := hs.below hB5; have ho5' := own_base ho5 (base' := w.heap.size) hB4s))
  all_goals
    obtain ⟨g6, c6, rfl, -, -, -⟩ := own_shape ho6 (by omega)
    have B6 := hB5.grown hg6 hB5.size (fun j e => own_low ho5' e)
    clear S1 S2 S3 hbW hb5 hb5' ho5 ho5' hB5 hs5 hs4 hnum f4 B4 hN4 hg6
    go_wp2
    go_ret2
    exact ⟨_, rfl, by rw [List.map_append]; exact ho6, B6⟩

set_option maxRecDepth 100000 in
set_option maxHeartbeats 4000000 in
theorem refrput_100 (x l g : Int) (ba : Option Addr) (bl bc : Nat) (bs : List Int) (w : World) (hx : U x) (hl : U l) (hg : U g) (hb0 : bl = 0) (hz : bs.length = bl) (hb : Byt bs) (hs : Seg w ba bs) (hn : ba = none → bl = 0 ∧ bc = 0) (hm : bl ≤ 1000000) :
    Calls Tryd.prog 11 #[.agg #[.int .u32 x, .int .u32 100, .int .u32 l, .int .u32 g, .slice ba bl bc]] w fun e w' => ∃ v, e = .returned (.tuple #[v, .int .i64 (if 65536 < 24 + bl then 3 else 0)]) ∧ w'.ownsRow w.heap.size 5 1 v (if 65536 < 24 + bl then 0 else 24 + bl) ((if 65536 < 24 + bl then [] else numsB [x, 1, 1, 0, l, g] ++ bs).map (Value.int .u8)) ∧ Below w.heap.size w w' := by
  obtain ⟨k1, k2, hB, hsz⟩ := two_boxes w (.cells #[.int .u32 x, .int .u32 100, .int .u32 l, .int .u32 g, .slice ba bl bc] 26) (.cells #[.int .u32 x, .int .u32 1] 22)
  have ho0 := own_two (w.alloc (.cells #[.int .u32 x, .int .u32 100, .int .u32 l, .int .u32 g, .slice ba bl bc] 26)) x 1
  have hsz1 : (w.alloc (.cells #[.int .u32 x, .int .u32 100, .int .u32 l, .int .u32 g, .slice ba bl bc] 26)).heap.size = w.heap.size + 1 := by simp
  rw [hsz1] at ho0
  clear hsz1
  obtain ⟨i0, hi, hz0, hz1, hz2⟩ := info_parts infoU8r
  obtain ⟨i4, hi4, hz40, hz41, hz42⟩ := info_parts info4r
  have hx0 := hx.lo
  have hx1 := hx.hi
  have hl0 := hl.lo
  have hlh := hl.hi
  have hg0 := hg.lo
  have hgh := hg.hi
  have hbi : (bl : Int) ≤ 0 := by omega
  have hlim : ¬ 65536 < 24 + bl := by omega
  clear hb0
  rw [if_neg hlim, if_neg hlim, if_neg hlim]
  have hli : ¬ (65536 : Int) < (24 + bl : Nat) := by omega
  have hb3 : Below ((w.alloc (.cells #[.int .u32 x, .int .u32 100, .int .u32 l, .int .u32 g, .slice ba bl bc] 26)).alloc (.cells #[.int .u32 x, .int .u32 1] 22)).heap.size ((w.alloc (.cells #[.int .u32 x, .int .u32 100, .int .u32 l, .int .u32 g, .slice ba bl bc] 26)).alloc (.cells #[.int .u32 x, .int .u32 1] 22)) (((w.alloc (.cells #[.int .u32 x, .int .u32 100, .int .u32 l, .int .u32 g, .slice ba bl bc] 26)).alloc (.cells #[.int .u32 x, .int .u32 1] 22)).alloc (.cells (([1, 0, l, g] : List Int).map (Value.int .u32)).toArray 22)) := (Below.refl _ _).alloc (Nat.le_refl _) _
  have ho1 := own_below ho0 hb3
  have k3 := (hb3.block _ (by omega)).trans k1
  have B3 := hB.trans (hb3.mono (by omega))
  have hs3 : (((w.alloc (.cells #[.int .u32 x, .int .u32 100, .int .u32 l, .int .u32 g, .slice ba bl bc] 26)).alloc (.cells #[.int .u32 x, .int .u32 1] 22)).alloc (.cells (([1, 0, l, g] : List Int).map (Value.int .u32)).toArray 22)).heap.size = w.heap.size + 3 := by simp
  go_enter Tryd.func11, Tryd.ntmps11
  go_wp2_with (at_builtin; refine wpList_append_own _ rfl _ _ 62 rfl (w.heap.size + 1) 22 i4 (.int .u32 0) 1 4 Tryd.underlying62 hi4 hz40 hz41 hz42 rfl (by decide) (.slice (some ⟨w.heap.size + 1, 0, none⟩) 2 2) 2 (([x, 1] : List Int).map (Value.int .u32)) rfl ho1 _ 4 4 (([1, 0, l, g] : List Int).map (Value.int .u32)) rfl rfl (news_at (by simp) (([1, 0, l, g] : List Int).map (Value.int .u32)) 22) (news_one4 _) (by unfold maxLen; omega) (by omega) (Nat.le_trans (show w.heap.size + 1 ≤ w.heap.size + 3 by omega) (Nat.le_of_eq hs3.symm)) ?_; intro v4 w4 ho4 hg4 _; obtain ⟨N, c4, e4, hc4, hcm, hN⟩ := own_shape ho4 (by omega); subst e4; have hb4 := (Below.refl (w.heap.size + 1) _).grown hg4 (Nat.le_trans (show w.heap.size + 1 ≤ w.heap.size + 3 by omega) (Nat.le_of_eq hs3.symm)) (by simp [Value.ownBlock]); have k4 := (hb4.block _ (by omega)).trans k3; have B4 := B3.trans (hb4.mono (by omega)); have s4 := seg4_own (zs := [x, 1, 1, 0, l, g]) ho4 rfl; have hcl := seg4_cells s4; have hN4 : N < w4.heap.size := s4.lt rfl (by simp); clear k1 k2 hB hsz ho0 hb3 ho1 k3 B3 hs3 hg4 hb4 s4; obtain ⟨f0, f1, f2, f3, f4⟩ := five_at k4)
  have hu : ∀ i : Nat, 0 ≤ (([x, 1, 1, 0, l, g] : List Int)[i]?.getD 0) ∧ (([x, 1, 1, 0, l, g] : List Int)[i]?.getD 0) ≤ 4294967295 := by
    intro i
    match i with
    | 0 => exact ⟨hx0, hx1⟩ | 1 => simp | 2 => simp | 3 => simp | 4 => exact ⟨hl0, hlh⟩ | 5 => exact ⟨hg0, hgh⟩
    | _ + 6 => simp
  have hB4s := B4.size
  have hs4 := hs.below B4
  have hbW : Below w4.heap.size w4 w4.drew := ⟨rfl, rfl, rfl, Nat.le_refl _, fun _ _ => rfl⟩
  have S1 := (hbW.cell (p := ⟨w.heap.size, 4, none⟩) (show w.heap.size < w4.heap.size from World.block_lt_of_cell? _ _ f4)).trans f4
  have hnum := refnumbers_any N 6 c4 [x, 1, 1, 0, l, g] w4.drew (show N < w4.heap.size from hN4) rfl (by omega) (by omega) hu (fun i hi => hcl i hi)
  clear f0 f1 f2 f3 hu hcl
  go_region_held3 (fun w' => w'.cell? ⟨w.heap.size, 4, none⟩ = some (.slice ba bl bc)) (first | with_reducible exact S1 | with_reducible exact S2 | with_reducible exact S3) (first
    | (refine step_append_each _ (by rfl) _ _ _ (by rfl) w.heap.size 5 i0 (.int .u8 0) 1 1 Tryd.underlying24 hi hz0 hz1 hz2 rfl (by decide) v5 24 _ (by rfl) ho5' ba bl bc (bs.map (Value.int .u8)) (by rfl) hn (by simp [hz]) (fun b hb => seg_news (by rw [← hb]; exact hs5)) (news_one bs) (by unfold maxLen; omega) (by omega) hB5.size ?_; intro v6 w6 ho6 hg6; have S3 : w6.cell? ⟨w.heap.size, 4, none⟩ = some (.slice ba bl bc) := (World.cell?_of_block (a := ⟨w.heap.size, 4, none⟩) (hg6.block w.heap.size (World.block_lt_of_cell? _ _ S2) (fun e => by have := own_low ho5 e.symm; have h2 : w4.heap.size ≤ w.heap.size := this; have h3 := World.block_lt_of_cell? _ _ f4; have h4 : w.heap.size < w4.heap.size := h3; omega))).trans S2)
    | (go_at_call 28; refine hnum.mono ?_; rintro e w5 ⟨v5, rfl, ho5, hb5⟩; have hb5' : Below w4.heap.size w4 w5 := hbW.trans hb5; have S2 := (hb5'.cell (p := ⟨w.heap.size, 4, none⟩) (show w.heap.size < w4.heap.size from World.block_lt_of_cell? _ _ f4)).trans f4; have hB5 := B4.trans (hb5'.mono hB4s); have hs5 := hs.below hB5; have ho5' := own_base ho5 (base' := w.heap.size) hB4s))
  all_goals
    obtain ⟨g6, c6, rfl, -, -, -⟩ := own_shape ho6 (by omega)
    have B6 := hB5.grown hg6 hB5.size (fun j e => own_low ho5' e)
    clear S1 S2 S3 hbW hb5 hb5' ho5 ho5' hB5 hs5 hs4 hnum f4 B4 hN4 hg6
    go_wp2
    go_ret2
    exact ⟨_, rfl, by rw [List.map_append]; exact ho6, B6⟩

set_option maxRecDepth 100000 in
set_option maxHeartbeats 4000000 in
theorem refrput_101 (x l : Int) (ba : Option Addr) (bl bc : Nat) (bs : List Int) (w : World) (hx : U x) (hl : U l) (hl1 : 1 ≤ l) (hl7 : l ≤ 7) (hb0 : bl = 0) (hz : bs.length = bl) (hb : Byt bs) (hs : Seg w ba bs) (hn : ba = none → bl = 0 ∧ bc = 0) (hm : bl ≤ 1000000) :
    Calls Tryd.prog 11 #[.agg #[.int .u32 x, .int .u32 101, .int .u32 l, .int .u32 0, .slice ba bl bc]] w fun e w' => ∃ v, e = .returned (.tuple #[v, .int .i64 (if 65536 < 20 + bl then 3 else 0)]) ∧ w'.ownsRow w.heap.size 5 1 v (if 65536 < 20 + bl then 0 else 20 + bl) ((if 65536 < 20 + bl then [] else numsB [x, 1, 1, 1, l] ++ bs).map (Value.int .u8)) ∧ Below w.heap.size w w' := by
  obtain ⟨k1, k2, hB, hsz⟩ := two_boxes w (.cells #[.int .u32 x, .int .u32 101, .int .u32 l, .int .u32 0, .slice ba bl bc] 26) (.cells #[.int .u32 x, .int .u32 1] 22)
  have ho0 := own_two (w.alloc (.cells #[.int .u32 x, .int .u32 101, .int .u32 l, .int .u32 0, .slice ba bl bc] 26)) x 1
  have hsz1 : (w.alloc (.cells #[.int .u32 x, .int .u32 101, .int .u32 l, .int .u32 0, .slice ba bl bc] 26)).heap.size = w.heap.size + 1 := by simp
  rw [hsz1] at ho0
  clear hsz1
  obtain ⟨i0, hi, hz0, hz1, hz2⟩ := info_parts infoU8r
  obtain ⟨i4, hi4, hz40, hz41, hz42⟩ := info_parts info4r
  have hx0 := hx.lo
  have hx1 := hx.hi
  have hl0 := hl.lo
  have hlh := hl.hi
  have hbi : (bl : Int) ≤ 0 := by omega
  have hlim : ¬ 65536 < 20 + bl := by omega
  clear hb0
  rw [if_neg hlim, if_neg hlim, if_neg hlim]
  have hli : ¬ (65536 : Int) < (20 + bl : Nat) := by omega
  have hb3 : Below ((w.alloc (.cells #[.int .u32 x, .int .u32 101, .int .u32 l, .int .u32 0, .slice ba bl bc] 26)).alloc (.cells #[.int .u32 x, .int .u32 1] 22)).heap.size ((w.alloc (.cells #[.int .u32 x, .int .u32 101, .int .u32 l, .int .u32 0, .slice ba bl bc] 26)).alloc (.cells #[.int .u32 x, .int .u32 1] 22)) (((w.alloc (.cells #[.int .u32 x, .int .u32 101, .int .u32 l, .int .u32 0, .slice ba bl bc] 26)).alloc (.cells #[.int .u32 x, .int .u32 1] 22)).alloc (.cells (([1, 1, l] : List Int).map (Value.int .u32)).toArray 22)) := (Below.refl _ _).alloc (Nat.le_refl _) _
  have ho1 := own_below ho0 hb3
  have k3 := (hb3.block _ (by omega)).trans k1
  have B3 := hB.trans (hb3.mono (by omega))
  have hs3 : (((w.alloc (.cells #[.int .u32 x, .int .u32 101, .int .u32 l, .int .u32 0, .slice ba bl bc] 26)).alloc (.cells #[.int .u32 x, .int .u32 1] 22)).alloc (.cells (([1, 1, l] : List Int).map (Value.int .u32)).toArray 22)).heap.size = w.heap.size + 3 := by simp
  go_enter Tryd.func11, Tryd.ntmps11
  go_wp2_with (at_builtin; refine wpList_append_own _ rfl _ _ 62 rfl (w.heap.size + 1) 22 i4 (.int .u32 0) 1 4 Tryd.underlying62 hi4 hz40 hz41 hz42 rfl (by decide) (.slice (some ⟨w.heap.size + 1, 0, none⟩) 2 2) 2 (([x, 1] : List Int).map (Value.int .u32)) rfl ho1 _ 3 3 (([1, 1, l] : List Int).map (Value.int .u32)) rfl rfl (news_at (by simp) (([1, 1, l] : List Int).map (Value.int .u32)) 22) (news_one4 _) (by unfold maxLen; omega) (by omega) (Nat.le_trans (show w.heap.size + 1 ≤ w.heap.size + 3 by omega) (Nat.le_of_eq hs3.symm)) ?_; intro v4 w4 ho4 hg4 _; obtain ⟨N, c4, e4, hc4, hcm, hN⟩ := own_shape ho4 (by omega); subst e4; have hb4 := (Below.refl (w.heap.size + 1) _).grown hg4 (Nat.le_trans (show w.heap.size + 1 ≤ w.heap.size + 3 by omega) (Nat.le_of_eq hs3.symm)) (by simp [Value.ownBlock]); have k4 := (hb4.block _ (by omega)).trans k3; have B4 := B3.trans (hb4.mono (by omega)); have s4 := seg4_own (zs := [x, 1, 1, 1, l]) ho4 rfl; have hcl := seg4_cells s4; have hN4 : N < w4.heap.size := s4.lt rfl (by simp); clear k1 k2 hB hsz ho0 hb3 ho1 k3 B3 hs3 hg4 hb4 s4; obtain ⟨f0, f1, f2, f3, f4⟩ := five_at k4)
  have hu : ∀ i : Nat, 0 ≤ (([x, 1, 1, 1, l] : List Int)[i]?.getD 0) ∧ (([x, 1, 1, 1, l] : List Int)[i]?.getD 0) ≤ 4294967295 := by
    intro i
    match i with
    | 0 => exact ⟨hx0, hx1⟩ | 1 => simp | 2 => simp | 3 => simp | 4 => exact ⟨hl0, hlh⟩
    | _ + 5 => simp
  have hB4s := B4.size
  have hs4 := hs.below B4
  have hbW : Below w4.heap.size w4 w4.drew := ⟨rfl, rfl, rfl, Nat.le_refl _, fun _ _ => rfl⟩
  have S1 := (hbW.cell (p := ⟨w.heap.size, 4, none⟩) (show w.heap.size < w4.heap.size from World.block_lt_of_cell? _ _ f4)).trans f4
  have hnum := refnumbers_any N 5 c4 [x, 1, 1, 1, l] w4.drew (show N < w4.heap.size from hN4) rfl (by omega) (by omega) hu (fun i hi => hcl i hi)
  clear f0 f1 f2 f3 hu hcl
  go_region_held3 (fun w' => w'.cell? ⟨w.heap.size, 4, none⟩ = some (.slice ba bl bc)) (first | with_reducible exact S1 | with_reducible exact S2 | with_reducible exact S3) (first
    | (refine step_append_each _ (by rfl) _ _ _ (by rfl) w.heap.size 5 i0 (.int .u8 0) 1 1 Tryd.underlying24 hi hz0 hz1 hz2 rfl (by decide) v5 20 _ (by rfl) ho5' ba bl bc (bs.map (Value.int .u8)) (by rfl) hn (by simp [hz]) (fun b hb => seg_news (by rw [← hb]; exact hs5)) (news_one bs) (by unfold maxLen; omega) (by omega) hB5.size ?_; intro v6 w6 ho6 hg6; have S3 : w6.cell? ⟨w.heap.size, 4, none⟩ = some (.slice ba bl bc) := (World.cell?_of_block (a := ⟨w.heap.size, 4, none⟩) (hg6.block w.heap.size (World.block_lt_of_cell? _ _ S2) (fun e => by have := own_low ho5 e.symm; have h2 : w4.heap.size ≤ w.heap.size := this; have h3 := World.block_lt_of_cell? _ _ f4; have h4 : w.heap.size < w4.heap.size := h3; omega))).trans S2)
    | (go_at_call 28; refine hnum.mono ?_; rintro e w5 ⟨v5, rfl, ho5, hb5⟩; have hb5' : Below w4.heap.size w4 w5 := hbW.trans hb5; have S2 := (hb5'.cell (p := ⟨w.heap.size, 4, none⟩) (show w.heap.size < w4.heap.size from World.block_lt_of_cell? _ _ f4)).trans f4; have hB5 := B4.trans (hb5'.mono hB4s); have hs5 := hs.below hB5; have ho5' := own_base ho5 (base' := w.heap.size) hB4s))
  all_goals
    obtain ⟨g6, c6, rfl, -, -, -⟩ := own_shape ho6 (by omega)
    have B6 := hB5.grown hg6 hB5.size (fun j e => own_low ho5' e)
    clear S1 S2 S3 hbW hb5 hb5' ho5 ho5' hB5 hs5 hs4 hnum f4 B4 hN4 hg6
    go_wp2
    go_ret2
    exact ⟨_, rfl, by rw [List.map_append]; exact ho6, B6⟩

set_option maxHeartbeats 1000000 in
theorem refrput_any (x h l g : Int) (ba : Option Addr) (bl bc : Nat) (bs : List Int) (w : World) (hx : U x) (hh : U h) (hl : U l) (hg : U g) (hz : bs.length = bl) (hb : Byt bs) (hs : Seg w ba bs) (hn : ba = none → bl = 0 ∧ bc = 0) (hm : bl ≤ 1000000) :
    Calls Tryd.prog 11 #[.agg #[.int .u32 x, .int .u32 h, .int .u32 l, .int .u32 g, .slice ba bl bc]] w fun e w' => ∃ v, e = .returned (.tuple #[v, .int .i64 (rputE h l g bl)]) ∧ w'.ownsRow w.heap.size 5 1 v (rputZ x h l g bs).length ((rputZ x h l g bs).map (Value.int .u8)) ∧ Below w.heap.size w w' := by
  by_cases hM : May h l g bl
  case neg => exact refrput_no x h l g ba bl bc bs w hx hh hl hg hz hb hs hn hm hM
  have key : ∀ (R : List Int) (n : Nat), rowN h l g = R → n = 2 + R.length → (if 65536 < 4 * n + bl then (3 : Int) else 0) = rputE h l g bl ∧ (if 65536 < 4 * n + bl then [] else numsB (x :: 1 :: R) ++ bs) = rputZ x h l g bs ∧ (if 65536 < 4 * n + bl then 0 else 4 * n + bl) = (rputZ x h l g bs).length := by
    intro R n hR hn
    have hE : rputE h l g bl = if 65536 < 4 * n + bl then 3 else 0 := by rw [rputE, if_pos hM, hR, hn]
    by_cases c : 65536 < 4 * n + bl
    · rw [if_pos c] at hE
      have hZ : rputZ x h l g bs = [] := by rw [rputZ, hz, hE]; rfl
      rw [if_pos c, if_pos c, if_pos c, hE, hZ]
      exact ⟨rfl, rfl, rfl⟩
    · rw [if_neg c] at hE
      have hZ : rputZ x h l g bs = replyB x h l g bs := by rw [rputZ, hz, hE]; rfl
      rw [if_neg c, if_neg c, if_neg c, hE, hZ, replyB_length, replyB, hR, hn, hz]
      exact ⟨rfl, rfl, rfl⟩
  rcases hM with ⟨rfl, rfl, rfl⟩ | ⟨hh', rfl, rfl, hb0⟩ | ⟨hh', hb0⟩ | ⟨rfl, h1, h7, rfl, hb0⟩
  · skip
    obtain ⟨k1, k2, k3⟩ := key [0, 0, 0, 0] 6 rfl rfl
    rw [← k1, ← k3, ← k2]
    exact refrput_0 x ba bl bc bs w hx hz hb hs hn hm
  · rcases hh' with rfl | rfl | rfl
    · skip
      obtain ⟨k1, k2, k3⟩ := key [0, 0, 0, 1] 6 rfl rfl
      rw [← k1, ← k3, ← k2]
      exact refrput_1 x ba bl bc bs w hx hb0 hz hb hs hn hm
    · skip
      obtain ⟨k1, k2, k3⟩ := key [0, 0, 0, 3] 6 rfl rfl
      rw [← k1, ← k3, ← k2]
      exact refrput_3 x ba bl bc bs w hx hb0 hz hb hs hn hm
    · skip
      obtain ⟨k1, k2, k3⟩ := key [0, 0, 0, 4] 6 rfl rfl
      rw [← k1, ← k3, ← k2]
      exact refrput_4 x ba bl bc bs w hx hb0 hz hb hs hn hm
  · rcases hh' with rfl | rfl
    · skip
      obtain ⟨k1, k2, k3⟩ := key [0, 0, 0, 2, l, g] 8 rfl rfl
      rw [← k1, ← k3, ← k2]
      exact refrput_2 x l g ba bl bc bs w hx hl hg hb0 hz hb hs hn hm
    · skip
      obtain ⟨k1, k2, k3⟩ := key [1, 0, l, g] 6 rfl rfl
      rw [← k1, ← k3, ← k2]
      exact refrput_100 x l g ba bl bc bs w hx hl hg hb0 hz hb hs hn hm
  · skip
    obtain ⟨k1, k2, k3⟩ := key [1, 1, l] 5 rfl rfl
    rw [← k1, ← k3, ← k2]
    exact refrput_101 x l ba bl bc bs w hx hl h1 h7 hb0 hz hb hs hn hm
end Go.Proofs.YtmjhgpmeikpbkaaDoor
