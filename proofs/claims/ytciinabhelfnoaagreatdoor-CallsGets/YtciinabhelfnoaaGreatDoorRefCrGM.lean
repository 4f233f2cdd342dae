/- The document's 'Get' of one who calls; nothing that was there turns. -/
import Derived.Test.YtciinabhelfnoaaGreatDoorCredMath2M
import Derived.Test.YtciinabhelfnoaaGreatDoorNums
import Derived.Test.YtciinabhelfnoaaGreatDoorCredCellsCallCellsSameClM
import Derived.Test.YtciinabhelfnoaaGreatDoorCallReadOwnVal4M
import Derived.Test.YtciinabhelfnoaaGreatDoorRefGetOpqRefStrGetM
import Derived.Test.YtciinabhelfnoaaGreatDoorRefPadRef4RefFixedM
import Derived.Test.YtciinabhelfnoaaGreatDoorCutsM
import Derived.Maps.AppendAt
import Derived.Deep.AppendLies
import Derived.WalkSmall
namespace Go.Proofs.YtciinabhelfnoaaGreatDoor
set_option linter.unusedVariables false
open Go.RowKit

theorem infoN4 : (Tryz.prog.info? 24).map (fun i => (i.zero, i.size, i.bytes)) = some (some (.int .u32 0), 1, 4) := by kernel_rfl

set_option maxRecDepth 100000 in
set_option maxHeartbeats 1000000 in
theorem refnums_any (a : Option Addr) (len cap p many : Nat) (zs : List Int) (w : World) (hlc : len ≤ cap) (hm : cap ≤ 9223372036854775807) (hl : len ≤ 1048576) (hz : zs.length = len) (hb : Byt zs) (hs : Seg w a zs) (hp : p ≤ len) (hmany : many ≤ 16) :
    Calls Tryz.prog 58 #[.slice a len cap, .int .i64 p, .int .i64 many] w fun e w' => Below w.heap.size w w' ∧ ((p + 4 * many ≤ len ∧ ∃ v, e = .returned (.tuple #[v, .int .i64 (p + 4 * many : Nat), .int .i64 0]) ∧ w'.ownsRow w.heap.size 24 1 v many ((numsZ many (zs.drop p)).map (Value.int .u32))) ∨
      (len < p + 4 * many ∧ e = .returned (.tuple #[.slice none 0 0, .int .i64 0, .int .i64 4]))) := by
  obtain ⟨i0, hi, hz0, hz1', hz2⟩ := info_parts infoN4
  go_enter Tryz.func58, Tryz.ntmps58
  go_wp2
  go_loopw [1, 9, 10] (fun q l i wr => ∃ k : Nat, k ≤ many ∧ i = .int .i64 k ∧ q = .int .i64 (p + 4 * k : Nat) ∧ p + 4 * k ≤ len ∧ Below w.heap.size w wr ∧ wr.ownsRow w.heap.size 24 1 l k ((numsZ k (zs.drop p)).map (Value.int .u32))) (fun _ _ i _ => many - (intOf i).toNat)
  case atStart => exact ⟨0, by omega, rfl, rfl, by omega, Below.refl _ _, own_empty _ _ _⟩
  case round =>
    obtain ⟨k, hk, rfl, rfl, hpk, hB, hown⟩ := hrel
    by_cases hlt : k < many
    · have hki : (k : Int) < (many : Int) := by omega
      have HS : Hid (numsZ (k + 1) (zs.drop p) = numsZ k (zs.drop p) ++ [be ((zs.drop (p + 4 * k)).take 4)]) := by show _ = _; rw [numsZ_snoc, List.drop_drop]
      have hsr := hs.below hB
      obtain ⟨q, hq⟩ : ∃ q, p + 4 * k = q := ⟨_, rfl⟩
      have HQ : Hid (p + 4 * (k + 1) = q + 4) := by show _ = _; omega
      rw [hq] at hpk HS ⊢
      have HQ2 : Hid (p + 4 * k = q) := hq
      clear hq
      have hdl : (zs.drop q).length = len - q := by rw [List.length_drop, hz]
      have hdb := hb.drop q
      obtain ⟨a', hcut, hsf⟩ := cut_from hsr hz hlc q hpk
      have hg := refget_any a' (len - q) (cap - q) (zs.drop q) wr (by omega) (by omega) hdl hdb hsf
      clear hsr hsf
      by_cases h4 : len < q + 4
      · rw [getN, getE, if_pos (by omega), if_pos (by omega)] at hg
        go_wp2_with fail
        refine hg.mono ?_
        rintro e w' ⟨rfl, rfl⟩
        go_wp2
        go_ret3
        exact ⟨hB, .inr ⟨by have := HQ2.out; omega, rfl⟩⟩
      · rw [getN, getE, if_neg (by omega), if_neg (by omega)] at hg
        rw [← hz] at hdl
        generalize be ((zs.drop q).take 4) = x at *
        go_wp2_with fail
        refine hg.mono ?_
        rintro e w' ⟨rfl, rfl⟩
        go_wp2_with (at_builtin; refine wpList_append_own _ rfl _ _ 25 rfl w.heap.size 24 i0 (.int .u32 0) 1 4 Tryz.underlying25 hi hz0 hz1' hz2 rfl (by decide) _ k _ rfl (hown.alloc _) ⟨w'.heap.size, 0, none⟩ 1 1 [.int .u32 x] rfl rfl (World.news_of_block (fr := (0, 0)) (heap_alloc_new w' _)) (by simp [Value.oneCell']) (by unfold maxLen; omega) (by omega) (by have := hB.size; simp; omega) ?_; intro v1 w1 ho1 hg1 _)
        have hB1 : Below w.heap.size w w1 := (hB.alloc hB.size _).grown hg1 (by have := hB.size; simp; omega) (fun k e => own_low hown e)
        clear hg1
        go_roundw
        case rel => exact ⟨k + 1, by omega, by go_num, by rw [HQ.out]; go_num, by have := HQ2.out; omega, hB1, by rw [HS.out, List.map_append]; exact ho1⟩
        case measure => simp [intOf]; omega
    · obtain rfl : k = many := by omega
      go_wp2
      go_ret3
      exact ⟨hB, .inl ⟨hpk, _, rfl, hown⟩⟩

theorem cg_bad {zs : List Int} (h : crE zs ≠ 0) : cgS zs = 0 ∧ cgM zs = [] ∧ cgU zs = 0 ∧ cgG zs = 0 ∧ cgL zs = [] := ⟨by rw [cgS, if_neg h], by rw [cgM, if_neg h], by rw [cgU, if_neg h], by rw [cgG, if_neg h], by rw [cgL, if_neg h]⟩

/-- What 'Get' answers. -/
def rcPost (w : World) (zs : List Int) (e : Ending) (W' : World) : Prop :=
  ∃ v, e = .returned (.tuple #[.int .u32 (cgS zs), .string (strOfNums (cgM zs)), .agg #[.int .u32 (cgU zs), .int .u32 (cgG zs), v], .int .i64 (crE zs)]) ∧
    W'.ownsRow w.heap.size 24 1 v (cgL zs).length ((cgL zs).map (Value.int .u32)) ∧ Below w.heap.size w W'

theorem rc_bad {w W : World} {zs : List Int} {e : Int} (hE : crE zs = e) (he : e ≠ 0) (hB : Below w.heap.size w W) : rcPost w zs (.returned (.tuple #[.int .u32 0, .string ⟨#[]⟩, .agg #[.int .u32 0, .int .u32 0, .slice none 0 0], .int .i64 e])) W := by
  obtain ⟨z1, z2, z3, z4, z5⟩ := cg_bad (zs := zs) (by rw [hE]; exact he)
  unfold rcPost
  rw [z1, z2, z3, z4, z5, hE]
  exact ⟨_, rfl, own_empty _ _ _, hB⟩
theorem rc_ok {w W : World} {zs : List Int} (hE : crE zs = 0) {v : Value} {n : Nat} (ho : W.ownsRow w.heap.size 24 1 v n ((crL zs).map (Value.int .u32))) (hn : (crL zs).length = n) (hB : Below w.heap.size w W) : rcPost w zs (.returned (.tuple #[.int .u32 (crS zs), .string (strOfNums (crM zs)), .agg #[.int .u32 (crU zs), .int .u32 (crG zs), v], .int .i64 0])) W := by
  unfold rcPost
  rw [cgS, cgM, cgU, cgG, cgL, if_pos hE, if_pos hE, if_pos hE, if_pos hE, if_pos hE, hE, hn]
  exact ⟨_, rfl, ho, hB⟩

/-- The answer's box as it was laid. -/
structure Rb (w W : World) : Prop where
  below : Below w.heap.size w W
  box : W.heap[w.heap.size]? = some (.cells #[.int .u32 0, .int .u32 0, .slice none 0 0] 27)
theorem Rb.next {w W W' : World} (h : Rb w W) (hb : Below W.heap.size W W') : Rb w W' := ⟨h.below.trans (hb.mono h.below.size), (hb.block _ (Array.getElem?_eq_some_iff.1 h.box).1).trans h.box⟩
theorem Rb.lt {w W : World} (h : Rb w W) : w.heap.size < W.heap.size := (Array.getElem?_eq_some_iff.1 h.box).1
/-- Laid anew. -/
theorem Rb.set {w W : World} (h : Rb w W) (x y z : Value) : Below w.heap.size w (((W.setCell ⟨w.heap.size, 0, none⟩ x).setCell ⟨w.heap.size, 1, none⟩ y).setCell ⟨w.heap.size, 2, none⟩ z) ∧ (((W.setCell ⟨w.heap.size, 0, none⟩ x).setCell ⟨w.heap.size, 1, none⟩ y).setCell ⟨w.heap.size, 2, none⟩ z).heap[w.heap.size]? = some (.cells #[x, y, z] 27) :=
  ⟨h.below.trans ((kept_cred x y z).below (fun k e => by omega) h.below.size), cred_set h.box x y z⟩

theorem seg4_put {W : World} {g : Nat} {zs : List Int} (h : Seg4 W (some ⟨g, 0, none⟩) zs) (i : Nat) (hi : i < zs.length) : W.cell? ⟨g, i, none⟩ = some (.int .u32 (zs[i]?.getD 0)) := by
  rcases h with rfl | ⟨b, off, e, hc⟩
  · simp at hi
  · cases e
    have := hc i hi
    simpa using this

set_option maxRecDepth 100000 in
set_option maxHeartbeats 2000000 in
theorem refcget_any (a : Option Addr) (len cap : Nat) (zs : List Int) (w : World) (hlc : len ≤ cap) (hm : cap ≤ 9223372036854775807) (hl : len ≤ 1048576) (hz : zs.length = len) (hb : Byt zs) (hs : Seg w a zs) :
    Calls Tryz.prog 25 #[.slice a len cap] w fun e w' => rcPost w zs e w' := by
  have R0 : Rb w (w.alloc (.cells #[.int .u32 0, .int .u32 0, .slice none 0 0] 27)) := ⟨(Below.refl _ _).alloc (Nat.le_refl _) _, heap_alloc_new w _⟩
  go_enter Tryz.func25, Tryz.ntmps25
  go_wp2_with fail
  generalize w.alloc (.cells #[.int .u32 0, .int .u32 0, .slice none 0 0] 27) = w0 at *
  refine (refnums_any a len cap 0 1 zs w0 hlc hm hl hz hb (hs.below R0.below) (by omega) (by omega)).mono ?_
  rintro e w1 ⟨hb1, ⟨h4, v1, rfl, ho1⟩ | ⟨h4, rfl⟩⟩
  rotate_left
  · have R1 := R0.next hb1
    have HE : Hid (crE zs = 4) := crE_1 (by omega)
    obtain ⟨c0, c1, c2, f0, f1, f2⟩ := cred_at R1.box
    obtain ⟨hfin, hbox⟩ := R1.set (.int .u32 0) (.int .u32 0) (.slice none 0 0)
    go_wp2
    generalize ((w1.setCell ⟨w.heap.size, 0, none⟩ (.int .u32 0)).setCell ⟨w.heap.size, 1, none⟩ (.int .u32 0)).setCell ⟨w.heap.size, 2, none⟩ (.slice none 0 0) = Wf at *
    obtain ⟨d0, d1, d2, _, _, _⟩ := cred_at hbox
    exact bodyPost_ret (v := .tuple #[.int .u32 0, .string ⟨#[]⟩, .agg #[.int .u32 0, .int .u32 0, .slice none 0 0], .int .i64 4]) (by simp [results, Tryz.results25, go_sem, d0, d1, d2]) rfl (rc_bad HE.out (by decide) hfin)
  · have R1 := R0.next hb1
    obtain ⟨g1, k1, rfl, _, _, _⟩ := own_shape ho1 (by omega)
    have s1 := seg4_own ho1 (numsZ_len _ _)
    have e1 : numsZ 1 (zs.drop 0) = [crS zs] := rfl
    rw [e1] at s1
    obtain ⟨a', hcut, hsf⟩ := cut_from (hs.below R1.below) hz hlc 4 (by omega)
    replace hcut : ∀ W, (Instr.slice 22 (.slice a len cap) (some (.int .i64 4)) none none).run Tryz.prog W = .ok (.slice a' (len - 4) (cap - 4)) W := fun W => hcut W
    have hdl : (zs.drop 4).length = len - 4 := by rw [List.length_drop, hz]
    have hdb := hb.drop 4
    have R0lt := R0.lt
    clear R0 hb1 ho1 e1
    go_wp2_with fail
    refine (refstrget_any a' (len - 4) (cap - 4) 255 (zs.drop 4) w1 (by omega) (by omega) (by omega) hdl hdb hsf (by omega) (by omega)).mono ?_
    rintro e w2 ⟨rfl, hb2⟩
    have R2 := R1.next hb2
    have s2 := s1.below hb2
    clear R1 s1 hb2 hcut hsf
    by_cases hoE : opE (zs.drop 4) 255 = 0
    rotate_left
    · have HE : Hid (crE zs = opE (zs.drop 4) 255) := crE_2 (by omega) hoE
      have hx : (opE (zs.drop 4) 255 != 0) = true := by simpa using hoE
      generalize opE (zs.drop 4) 255 = E at *
      obtain ⟨c0, c1, c2, f0, f1, f2⟩ := cred_at R2.box
      obtain ⟨hfin, hbox⟩ := R2.set (.int .u32 0) (.int .u32 0) (.slice none 0 0)
      go_wp2
      generalize ((w2.setCell ⟨w.heap.size, 0, none⟩ (.int .u32 0)).setCell ⟨w.heap.size, 1, none⟩ (.int .u32 0)).setCell ⟨w.heap.size, 2, none⟩ (.slice none 0 0) = Wf at *
      obtain ⟨d0, d1, d2, _, _, _⟩ := cred_at hbox
      exact bodyPost_ret (v := .tuple #[.int .u32 0, .string ⟨#[]⟩, .agg #[.int .u32 0, .int .u32 0, .slice none 0 0], .int .i64 E]) (by simp [results, Tryz.results25, go_sem, d0, d1, d2]) rfl (rc_bad HE.out hoE hfin)
    · have hol := (op_again hdb hoE).2.1
      rw [hoE]
      obtain ⟨q, hq⟩ : ∃ q, 4 + opL (zs.drop 4) 255 = q := ⟨_, rfl⟩
      have hqi : (4 : Int) + ((opL (zs.drop 4) 255 : Nat) : Int) = (q : Int) := by omega
      have hR : crR zs = zs.drop q := by rw [crR, List.drop_drop, hq]
      have hRl : (crR zs).length = len - q := by rw [hR, List.length_drop, hz]
      have hql : q ≤ len := by omega
      have HE3 : Hid ((crR zs).length < 12 → crE zs = 4) := crE_3 (by omega) hoE
      have HE4 : Hid (12 ≤ (crR zs).length → 16 < crN zs → crE zs = 3) := crE_4 (by omega) hoE
      have HE5 : Hid (12 ≤ (crR zs).length → crN zs ≤ 16 → (crR zs).length < 12 + 4 * crK zs → crE zs = 4) := crE_5 (by omega) hoE
      have HE6 : Hid (12 ≤ (crR zs).length → crN zs ≤ 16 → 12 + 4 * crK zs < (crR zs).length → crE zs = 5) := crE_6 (by omega) hoE
      have HE0 : Hid (12 ≤ (crR zs).length → crN zs ≤ 16 → (crR zs).length = 12 + 4 * crK zs → crE zs = 0) := crE_0 (by omega) hoE
      have HM : Hid (opZ (zs.drop 4) 255 = crM zs) := rfl
      generalize opZ (zs.drop 4) 255 = M at *
      generalize opL (zs.drop 4) 255 = oL at *
      clear hoE hol hdl hdb hq
      go_wp2_with fail
      refine (refnums_any a len cap q 3 zs w2 hlc hm hl hz hb (hs.below R2.below) hql (by omega)).mono ?_
      rintro e w3 ⟨hb3, ⟨h12, v3, rfl, ho3⟩ | ⟨h12, rfl⟩⟩
      rotate_left
      · have R3 := R2.next hb3
        have HE : Hid (crE zs = 4) := HE3.out (by omega)
        clear HE3 HE4 HE5 HE6 HE0
        obtain ⟨c0, c1, c2, f0, f1, f2⟩ := cred_at R3.box
        obtain ⟨hfin, hbox⟩ := R3.set (.int .u32 0) (.int .u32 0) (.slice none 0 0)
        go_wp2
        generalize ((w3.setCell ⟨w.heap.size, 0, none⟩ (.int .u32 0)).setCell ⟨w.heap.size, 1, none⟩ (.int .u32 0)).setCell ⟨w.heap.size, 2, none⟩ (.slice none 0 0) = Wf at *
        obtain ⟨d0, d1, d2, _, _, _⟩ := cred_at hbox
        exact bodyPost_ret (v := .tuple #[.int .u32 0, .string ⟨#[]⟩, .agg #[.int .u32 0, .int .u32 0, .slice none 0 0], .int .i64 4]) (by simp [results, Tryz.results25, go_sem, d0, d1, d2]) rfl (rc_bad HE.out (by decide) hfin)
      · have R3 := R2.next hb3
        have s3 := s2.below hb3
        obtain ⟨g3, k3, rfl, _, _, _⟩ := own_shape ho3 (by omega)
        have t3 := seg4_own ho3 (numsZ_len _ _)
        have e3 : numsZ 3 (zs.drop q) = [crU zs, crG zs, crN zs] := by rw [← hR]; simp [numsZ, crU, crG, crN]
        rw [e3] at t3
        replace hN := be_range (byt_drop (byt_drop hb q) 8) (by rw [List.length_drop, List.length_drop]; omega)
        replace hN : 0 ≤ crN zs ∧ crN zs ≤ 4294967295 := by rw [crN, hR]; exact hN
        replace x2 := seg4_put t3 2 (by simp)
        replace x2 : w3.cell? ⟨g3, 2, none⟩ = some (.int .u32 (crN zs)) := x2
        have R2lt := R2.lt
        clear R2 s2 hb3 ho3 e3
        by_cases h16 : 16 < crN zs
        · have HE : Hid (crE zs = 3) := HE4.out (by omega) h16
          clear HE3 HE4 HE5 HE6 HE0
          generalize crN zs = N at *
          obtain ⟨c0, c1, c2, f0, f1, f2⟩ := cred_at R3.box
          obtain ⟨hfin, hbox⟩ := R3.set (.int .u32 0) (.int .u32 0) (.slice none 0 0)
          go_wp2
          generalize ((w3.setCell ⟨w.heap.size, 0, none⟩ (.int .u32 0)).setCell ⟨w.heap.size, 1, none⟩ (.int .u32 0)).setCell ⟨w.heap.size, 2, none⟩ (.slice none 0 0) = Wf at *
          obtain ⟨d0, d1, d2, _, _, _⟩ := cred_at hbox
          exact bodyPost_ret (v := .tuple #[.int .u32 0, .string ⟨#[]⟩, .agg #[.int .u32 0, .int .u32 0, .slice none 0 0], .int .i64 3]) (by simp [results, Tryz.results25, go_sem, d0, d1, d2]) rfl (rc_bad HE.out (by decide) hfin)
        · have hKN : crN zs = (crK zs : Int) := by unfold crK; omega
          have hwr : ((crK zs : Nat) : Int) % 18446744073709551616 = (crK zs : Int) := by omega
          have h16k : crK zs ≤ 16 := by omega
          have HKL : Hid (crL zs = numsZ (crK zs) (zs.drop (q + 12))) := by show _ = _; rw [crL, hR, List.drop_drop]
          have HE5' : Hid (len < q + 12 + 4 * crK zs → crE zs = 4) := fun h => HE5.out (by omega) (by omega) (by omega)
          have HE6' : Hid (q + 12 + 4 * crK zs < len → crE zs = 5) := fun h => HE6.out (by omega) (by omega) (by omega)
          have HE0' : Hid (len = q + 12 + 4 * crK zs → crE zs = 0) := fun h => HE0.out (by omega) (by omega) (by omega)
          clear HE3 HE4 HE5 HE6 HE0 hwr
          rw [hKN] at x2 t3
          clear hKN hN h16
          have HLl : Hid ((crL zs).length = crK zs) := by show _ = _; rw [HKL.out, numsZ_len]
          generalize crK zs = K at *
          have h16i : (K : Int) ≤ 16 := by omega
          go_wp2_with fail
          refine (refnums_any a len cap (q + 12) K zs w3 hlc hm hl hz hb (hs.below R3.below) (by omega) h16k).mono ?_
          rintro e w4 ⟨hb4, ⟨h5, v4, rfl, ho4⟩ | ⟨h5, rfl⟩⟩
          rotate_left
          · have R4 := R3.next hb4
            have HE : Hid (crE zs = 4) := HE5'.out (by omega)
            clear HE5' HE6' HE0' x2
            obtain ⟨c0, c1, c2, f0, f1, f2⟩ := cred_at R4.box
            obtain ⟨hfin, hbox⟩ := R4.set (.int .u32 0) (.int .u32 0) (.slice none 0 0)
            go_wp2
            generalize ((w4.setCell ⟨w.heap.size, 0, none⟩ (.int .u32 0)).setCell ⟨w.heap.size, 1, none⟩ (.int .u32 0)).setCell ⟨w.heap.size, 2, none⟩ (.slice none 0 0) = Wf at *
            obtain ⟨d0, d1, d2, _, _, _⟩ := cred_at hbox
            exact bodyPost_ret (v := .tuple #[.int .u32 0, .string ⟨#[]⟩, .agg #[.int .u32 0, .int .u32 0, .slice none 0 0], .int .i64 4]) (by simp [results, Tryz.results25, go_sem, d0, d1, d2]) rfl (rc_bad HE.out (by decide) hfin)
          · have R4 := R3.next hb4
            have s4 := s3.below hb4
            have t4 := t3.below hb4
            rw [← HKL.out] at ho4
            have ho4' := own_base ho4 R3.below.size
            clear R3 s3 t3 hb4 x2 HE5' ho4
            by_cases h6 : q + 12 + 4 * K < len
            · have HE : Hid (crE zs = 5) := HE6'.out h6
              clear HE6' HE0'
              obtain ⟨v4a, v4k, rfl, _, _, _, _⟩ := own_val4 ho4' HLl.out
              obtain ⟨c0, c1, c2, f0, f1, f2⟩ := cred_at R4.box
              obtain ⟨hfin, hbox⟩ := R4.set (.int .u32 0) (.int .u32 0) (.slice none 0 0)
              go_wp2
              generalize ((w4.setCell ⟨w.heap.size, 0, none⟩ (.int .u32 0)).setCell ⟨w.heap.size, 1, none⟩ (.int .u32 0)).setCell ⟨w.heap.size, 2, none⟩ (.slice none 0 0) = Wf at *
              obtain ⟨d0, d1, d2, _, _, _⟩ := cred_at hbox
              exact bodyPost_ret (v := .tuple #[.int .u32 0, .string ⟨#[]⟩, .agg #[.int .u32 0, .int .u32 0, .slice none 0 0], .int .i64 5]) (by simp [results, Tryz.results25, go_sem, d0, d1, d2]) rfl (rc_bad HE.out (by decide) hfin)
            · have HE : Hid (crE zs = 0) := HE0'.out (by omega)
              clear HE6' HE0'
              obtain ⟨v4a, v4k, rfl, _, _, _, _⟩ := own_val4 ho4' HLl.out
              replace y0 := seg4_put s4 0 (by simp)
              replace y0 : w4.cell? ⟨g1, 0, none⟩ = some (.int .u32 (crS zs)) := y0
              replace x0 := seg4_put t4 0 (by simp)
              replace x0 : w4.cell? ⟨g3, 0, none⟩ = some (.int .u32 (crU zs)) := x0
              replace x1 := seg4_put t4 1 (by simp)
              replace x1 : w4.cell? ⟨g3, 1, none⟩ = some (.int .u32 (crG zs)) := x1
              obtain ⟨c0, c1, c2, f0, f1, f2⟩ := cred_at R4.box
              obtain ⟨hfin, hbox⟩ := R4.set (.int .u32 (crU zs)) (.int .u32 (crG zs)) (.slice v4a K v4k)
              have hof := own_kept ho4' (kept_cred (W := w4) (h := w.heap.size) (.int .u32 (crU zs)) (.int .u32 (crG zs)) (.slice v4a K v4k)) (fun g hg e => own_not ho4' R4.box (by decide) (by rw [hg, e]))
              have HS : Hid (crM zs = M) := HM.out.symm
              have hn1 : g1 ≠ w.heap.size := by have := R0lt; omega
              have hn3 : g3 ≠ w.heap.size := by have := R2lt; omega
              go_wp2_with fail
              go_region
              all_goals
                generalize ((w4.setCell ⟨w.heap.size, 0, none⟩ (.int .u32 (crU zs))).setCell ⟨w.heap.size, 1, none⟩ (.int .u32 (crG zs))).setCell ⟨w.heap.size, 2, none⟩ (.slice v4a K v4k) = Wf at *
                obtain ⟨d0, d1, d2, _, _, _⟩ := cred_at hbox
                have hof2 := own_below hof (below_drew Wf)
                have hfin2 := hfin.trans ((below_drew Wf).mono hfin.size)
                go_wp2
                rw [← HS.out]
                exact bodyPost_ret (v := .tuple #[.int .u32 (crS zs), .string (strOfNums (crM zs)), .agg #[.int .u32 (crU zs), .int .u32 (crG zs), .slice v4a K v4k], .int .i64 0]) (by simp [results, Tryz.results25, go_sem, d0, d1, d2]) rfl (rc_ok HE.out hof2 HLl.out hfin2)
end Go.Proofs.YtciinabhelfnoaaGreatDoor
