/- The walk of 'OpaqueNoughts': true for any bytes, any byte in the padding's place; nothing that was there turns. -/
import Derived.Test.YtfnlgakgakjliabBeyonds
import Derived.Test.YtfnlgakgakjliabAliveOpq
import Derived.Test.YtfnlgakgakjliabOpqMath
namespace Go.Proofs.Ytfnlgakgakjliab
set_option linter.unusedVariables false
open Go.RowKit

theorem padded_set (zs : List Int) (k : Nat) (c : Int) : (padded zs).set (zs.length + k) c = zs ++ (List.replicate (padN zs.length) 0).set k c := by
  rw [padded, List.set_append_right _ _ (by omega)]
  congr 2
  omega

theorem nought_bad (p k : Nat) (c : Int) (hk : k < p) (hc : c ≠ 0) : allNought ((List.replicate p 0).set k c) = false := by
  unfold allNought
  rw [List.all_eq_false]
  refine ⟨c, ?_, by simpa using hc⟩
  rw [List.mem_iff_getElem]
  exact ⟨k, by simpa using hk, by simp⟩

theorem fix_bad (zs : List Int) (k : Nat) (c : Int) (hk : k < padN zs.length) (hc : c ≠ 0) : fixE ((padded zs).set (zs.length + k) c) zs.length = 5 := by
  have hl : ((padded zs).set (zs.length + k) c).length = zs.length + padN zs.length := by rw [List.length_set, padded_length]
  rw [fixE_form (by omega), padded_set, List.drop_left' rfl, List.take_of_length_le (by simp), nought_bad _ _ _ hk hc]
  rfl

theorem op_bad (zs : List Int) (k : Nat) (c : Int) (h : zs.length ≤ 1048576) (hk : k < padN zs.length) (hc : c ≠ 0) : opE ((opBytes zs).set (4 + zs.length + k) c) zs.length = 5 := by
  have e : (opBytes zs).set (4 + zs.length + k) c = bytesOf (zs.length : Int) 4 ++ (padded zs).set (zs.length + k) c := by
    rw [opBytes, List.set_append_right _ _ (by rw [bytesOf_length]; omega), bytesOf_length]
    congr 2
    omega
  have hl : ((opBytes zs).set (4 + zs.length + k) c).length = 4 + (zs.length + padN zs.length) := by rw [List.length_set, opBytes_length]
  have ht : toldN ((opBytes zs).set (4 + zs.length + k) c) = zs.length := by rw [e]; exact told_cons _ _ (by omega)
  rw [opE, if_neg (by omega), ht, if_neg (by omega), e, List.drop_left' (bytesOf_length _ 4)]
  exact fix_bad zs k c hk hc

theorem fx_bad (zs : List Int) (k : Nat) (c : Int) (h : zs.length ≤ 65536) (hk : k < padN zs.length) (hc : c ≠ 0) : fxE ((padded zs).set (zs.length + k) c) zs.length = 5 := by
  rw [(fx_nat _ _ h).1]
  exact fix_bad zs k c hk hc

theorem seg_set {w : World} {g i : Nat} {zs : List Int} {c : Int} (h : Seg w (some ⟨g, 0, none⟩) zs) (hi : i < zs.length) : Seg (w.setCell ⟨g, i, none⟩ (.int .u8 c)) (some ⟨g, 0, none⟩) (zs.set i c) := by
  rcases h with rfl | ⟨b, off, e, hc⟩
  · simp at hi
  · cases e
    refine .inr ⟨g, 0, rfl, fun j hj => ?_⟩
    rw [List.length_set] at hj
    have hcj := hc j hj
    rw [Nat.zero_add] at hcj ⊢
    by_cases hij : i = j
    · subst hij
      rw [World.cell?_setCell_same _ _ _ hcj, List.getElem?_set_self hj]
      rfl
    · rw [World.cell?_setCell_other _ _ _ _ (by simp; try exact hij), hcj, List.getElem?_set_ne hij]

theorem seg_far {w : World} {g i g2 : Nat} {zs : List Int} {v : Value} (h : Seg w (some ⟨g2, 0, none⟩) zs) (hne : g ≠ g2) : Seg (w.setCell ⟨g, i, none⟩ v) (some ⟨g2, 0, none⟩) zs := by
  rcases h with rfl | ⟨b, off, e, hc⟩
  · exact .inl rfl
  · cases e
    exact .inr ⟨g2, 0, rfl, fun j hj => by rw [World.cell?_setCell_other _ _ _ _ (fun e => hne (by cases e; rfl)), hc j hj]⟩

theorem seg_cell {w : World} {g i : Nat} {zs : List Int} (h : Seg w (some ⟨g, 0, none⟩) zs) (hi : i < zs.length) : ∃ v, w.cell? ⟨g, i, none⟩ = some v := by
  rcases h with rfl | ⟨b, off, e, hc⟩
  · simp at hi
  · cases e
    have := hc i hi
    rw [Nat.zero_add] at this
    exact ⟨_, this⟩

theorem byt_set {zs : List Int} {i : Nat} {c : Int} (h : Byt zs) (h0 : 0 ≤ c) (h1 : c ≤ 255) : Byt (zs.set i c) := by
  intro j
  rw [List.getElem?_set]
  split
  · split
    · exact ⟨h0, h1⟩
    · simp
  · exact h j

set_option maxRecDepth 100000 in
set_option maxHeartbeats 1000000 in
theorem nought_off (a : Option Addr) (len cap : Nat) (c at_ : Int) (w : World) (hlc : len ≤ cap) (hm : cap ≤ 140737488351232) (h : 65536 < len) :
    Calls Try.prog 3 #[.slice a len cap, .int .u8 c, .int .u8 at_] w fun e w' => e = .returned (.bool true) ∧ Below w.heap.size w w' := by
  cases hbey : beyond 0 [len] with
  | true =>
    go_enter Try.func3, Try.ntmps3
    go_wp2_with fail
    refine (alive_any w).mono ?_
    rintro e w1 ⟨rfl, hB1⟩
    go_wp2_with fail
    refine (beyond_any [len] _ 1 _ rfl (by omega) (by intro n hn; simp at hn; omega) (cell_lone w1 3 len)).mono ?_
    rintro e w' ⟨rfl, rfl⟩
    rw [hbey]
    have hB2 := hB1.alloc hB1.size (.cells #[.int .i64 (len : Int)] 3)
    generalize w1.alloc (.cells #[.int .i64 (len : Int)] 3) = w2 at *
    go_wp2_with fail
    refine (alive_any _).mono ?_
    rintro e w3 ⟨rfl, hB3⟩
    go_wp2
    go_ret
    exact ⟨rfl, hB2.trans (hB3.mono hB2.size)⟩
  | false =>
    go_enter Try.func3, Try.ntmps3
    go_wp2_with fail
    refine (alive_any w).mono ?_
    rintro e w1 ⟨rfl, hB1⟩
    go_wp2_with fail
    refine (beyond_any [len] _ 1 _ rfl (by omega) (by intro n hn; simp at hn; omega) (cell_lone w1 3 len)).mono ?_
    rintro e w' ⟨rfl, rfl⟩
    rw [hbey]
    have hB2 := hB1.alloc hB1.size (.cells #[.int .i64 (len : Int)] 3)
    generalize w1.alloc (.cells #[.int .i64 (len : Int)] 3) = w2 at *
    go_wp2_with fail
    refine (alive_any _).mono ?_
    rintro e w3 ⟨rfl, hB3⟩
    go_wp2
    go_ret
    exact ⟨rfl, hB2.trans (hB3.mono hB2.size)⟩

set_option maxRecDepth 100000 in
set_option maxHeartbeats 1000000 in
theorem nought_walk (a : Option Addr) (len cap : Nat) (zs : List Int) (c at_ : Int) (w : World) (hlc : len ≤ cap) (hm : cap ≤ 140737488351232) (hz : zs.length = len) (hb : Byt zs) (hs : Seg w a zs) (hnil : a = none → len = 0 ∧ cap = 0)
    (hc0 : 0 ≤ c) (hc1 : c ≤ 255) (ha0 : 0 ≤ at_) (ha1 : at_ ≤ 255) :
    Calls Try.prog 3 #[.slice a len cap, .int .u8 c, .int .u8 at_] w fun e w' => e = .returned (.bool true) ∧ Below w.heap.size w w' := by
  by_cases hl : 65536 < len
  · exact nought_off a len cap c at_ w hlc hm hl
  · have hbey : beyond 0 [len] = false := by simp [beyond]; omega
    have hp := padN_lt len
    go_enter Try.func3, Try.ntmps3
    go_wp2_with fail
    refine (alive_any w).mono ?_
    rintro e w1 ⟨rfl, hB1⟩
    go_wp2_with fail
    refine (beyond_any [len] _ 1 _ rfl (by omega) (by intro n hn; simp at hn; omega) (cell_lone w1 3 len)).mono ?_
    rintro e w' ⟨rfl, rfl⟩
    rw [hbey]
    have hB2 := hB1.alloc hB1.size (.cells #[.int .i64 (len : Int)] 3)
    generalize w1.alloc (.cells #[.int .i64 (len : Int)] 3) = w2 at *
    clear hB1 hbey
    go_wp2_with fail
    refine (putopq_any a len cap zs w2 hlc (by omega) hz (hs.below hB2) hnil).mono ?_
    rintro e w3 ⟨v, rfl, hown3, hb3⟩
    have hB3 := hB2.trans (hb3.mono hB2.size)
    replace hown3 := own_base hown3 hB2.size
    obtain ⟨g, cp, rfl, hc3, hd3, he3⟩ := own_shape hown3 (by omega)
    have hg3 : g < w3.heap.size := (hown3.lt g rfl).2
    clear hb3 hB2
    go_wp2_with fail
    refine (putfixed_any a len cap zs w3 hlc (by omega) hz (hs.below hB3) hnil).mono ?_
    rintro e w4 ⟨rfl, hown4, hb4⟩
    have hB4 := hB3.trans (hb4.mono hB3.size)
    have hw4 : w.heap.size ≤ w3.heap.size := hB3.size
    replace hown3 := own_below hown3 hb4
    generalize hg4 : w3.heap.size = g4 at *
    clear hb4 hB3 hs
    have hopl : (opBytes zs).length = 4 + (len + padN len) := by rw [opBytes_length, hz]
    have hpl : (padded zs).length = len + padN len := by rw [padded_length, hz]
    have hsg := seg_own hown3 hopl
    have hsp := seg_own hown4 hpl
    have hfz := fun j => hown3.frozenAt j
    have hfp := fun j => hown4.frozenAt j
    have hbo := byt_op hb
    have hbp := byt_padded hb
    have hE := fun k => op_bad zs k c (by omega)
    have hF := fun k => fx_bad zs k c (by omega)
    rw [hz] at hE hF
    clear hown3 hown4
    go_wp2_with fail
    refine (pad_nat len _ (by omega)).mono ?_
    rintro e w' ⟨rfl, hw'⟩
    subst w'
    generalize padN len = p at *
    obtain ⟨L, hL⟩ : ∃ L, L = 4 + (len + p) := ⟨_, rfl⟩
    obtain ⟨M, hM⟩ : ∃ M, M = len + p := ⟨_, rfl⟩
    rw [← hL] at hc3 hopl ⊢
    rw [← hM] at hpl ⊢
    have hL' : (L : Int) = 4 + (len : Int) + (p : Int) := by omega
    have hM' : (M : Int) = (len : Int) + (p : Int) := by omega
    have hL2 : L ≤ 65600 := by omega
    have hM2 : M ≤ 65600 := by omega
    clear hL hM
    by_cases hp0 : p = 0
    · subst hp0
      go_wp2
      go_ret
      exact ⟨rfl, hB4⟩
    · have hpz : ((p : Int) == 0) = false := by simp; omega
      by_cases hc00 : c = 0
      · subst hc00
        go_wp2
        go_ret
        exact ⟨rfl, hB4⟩
      · have hcz : (c == 0) = false := by simpa using hc00
        have hk : ∃ k : Nat, at_ % (p : Int) = (k : Int) ∧ k < p := ⟨(at_ % (p : Int)).toNat, by have := Int.emod_nonneg at_ (show (p : Int) ≠ 0 by omega); omega, by have := Int.emod_lt_of_pos at_ (show (0 : Int) < p by omega); have := Int.emod_nonneg at_ (show (p : Int) ≠ 0 by omega); omega⟩
        obtain ⟨k, hk, hkL⟩ := hk
        obtain ⟨cx, hcx⟩ : ∃ v, w4.cell? ⟨g, 4 + len + k, none⟩ = some v := seg_cell hsg (by omega)
        obtain ⟨cy, hcy⟩ : ∃ v, (w4.setCell ⟨g, 4 + len + k, none⟩ (.int .u8 c)).cell? ⟨g4, len + k, none⟩ = some v := seg_cell (seg_far hsp (by omega)) (by omega)
        go_wp2_with fail
        have hx1 : Seg ((w4.setCell ⟨g, 4 + len + k, none⟩ (.int .u8 c)).setCell ⟨g4, len + k, none⟩ (.int .u8 c)) (some ⟨g, 0, none⟩) ((opBytes zs).set (4 + len + k) c) := seg_far (seg_set hsg (by omega)) (by omega)
        have hy1 : Seg ((w4.setCell ⟨g, 4 + len + k, none⟩ (.int .u8 c)).setCell ⟨g4, len + k, none⟩ (.int .u8 c)) (some ⟨g4, 0, none⟩) ((padded zs).set (len + k) c) := seg_set (seg_far hsp (by omega)) (by omega)
        have hB5 : Below w.heap.size w ((w4.setCell ⟨g, 4 + len + k, none⟩ (.int .u8 c)).setCell ⟨g4, len + k, none⟩ (.int .u8 c)) := (hB4.setCell (p := ⟨g, 4 + len + k, none⟩) he3 _).setCell (p := ⟨g4, len + k, none⟩) hw4 _
        generalize ((w4.setCell ⟨g, 4 + len + k, none⟩ (.int .u8 c)).setCell ⟨g4, len + k, none⟩ (.int .u8 c)) = w5 at *
        have hE5 := hE k hkL hc00
        have hF5 := hF k hkL hc00
        clear hE hF hsg hsp hfz hfp
        refine (getopq_any _ L cp (len : Int) ((opBytes zs).set (4 + len + k) c) w5 hc3 hd3 (by rw [List.length_set]; exact hopl) (byt_set hbo hc0 hc1) hx1 (by omega) (by omega)).mono ?_
        rintro e w6 ⟨v6, rfl, _, hb6⟩
        rw [hE5]
        have hB6 := hB5.trans (hb6.mono hB5.size)
        have hy6 := hy1.below hb6
        clear hB5 hy1 hx1 hb6
        go_wp2_with fail
        refine (getfixed_any _ M M (len : Int) ((padded zs).set (len + k) c) w6 (by omega) (by omega) (by rw [List.length_set]; exact hpl) (byt_set hbp hc0 hc1) hy6 (by simp) (by omega) (by omega)).mono ?_
        rintro e w7 ⟨v7, rfl, _, hb7⟩
        rw [hF5]
        have hB7 := hB6.trans (hb7.mono hB6.size)
        go_wp2
        go_ret
        exact ⟨rfl, hB7⟩
end Go.Proofs.Ytfnlgakgakjliab
