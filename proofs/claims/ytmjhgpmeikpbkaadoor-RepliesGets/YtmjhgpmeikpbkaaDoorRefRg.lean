/- The document's 'Get' of a reply; nothing that was there turns. -/
import Derived.Test.YtmjhgpmeikpbkaaDoorRefTold
import Derived.Test.YtmjhgpmeikpbkaaDoorRef4
import Derived.Test.YtmjhgpmeikpbkaaDoorRepGet
import Derived.Test.YtmjhgpmeikpbkaaDoorOwnVal4
import Derived.Test.YtmjhgpmeikpbkaaDoorAppendEach
namespace Go.Proofs.YtmjhgpmeikpbkaaDoor
set_option linter.unusedVariables false
open Go.RowKit

theorem infoN4g : (Tryd.prog.info? 22).map (fun i => (i.zero, i.size, i.bytes)) = some (some (.int .u32 0), 1, 4) := by kernel_rfl
theorem infoN1g : (Tryd.prog.info? 5).map (fun i => (i.zero, i.size, i.bytes)) = some (some (.int .u8 0), 1, 1) := by kernel_rfl
theorem infoS1 : (Tryd.prog.info? 24).map (·.size) = some 1 := by kernel_rfl

def lenV : Value → Nat
  | .slice _ n _ => n
  | _ => 0

/-- The answer's box as it was laid. -/
structure RgB (w W : World) : Prop where
  below : Below w.heap.size w W
  box : W.heap[w.heap.size]? = some (.cells #[.int .u32 0, .int .u32 0, .int .u32 0, .int .u32 0, .slice none 0 0] 26)
theorem RgB.next {w W W' : World} (h : RgB w W) (hb : Below W.heap.size W W') : RgB w W' := ⟨h.below.trans (hb.mono h.below.size), (hb.block _ (Array.getElem?_eq_some_iff.1 h.box).1).trans h.box⟩
theorem RgB.grown {w W W' : World} (h : RgB w W) {r : Option Nat} (hg : W.grownBy W' r) (hr : ∀ j, r = some j → w.heap.size < j) : RgB w W' := ⟨h.below.grown hg h.below.size (fun k e => Nat.le_of_lt (hr k e)), (hg.block _ (Array.getElem?_eq_some_iff.1 h.box).1 (fun e => by have := hr _ e.symm; omega)).trans h.box⟩
theorem RgB.lt {w W : World} (h : RgB w W) : w.heap.size < W.heap.size := (Array.getElem?_eq_some_iff.1 h.box).1

theorem numsZ_num (zs : List Int) (k : Nat) : ∀ i, i < k → (numsZ k zs)[i]?.getD 0 = num zs i := by
  intro i hi
  rw [List.getElem?_eq_getElem (by rw [numsZ_len]; exact hi), Option.getD_some, numsZ_get k i zs hi]
  rfl

/-- An answer that is none. -/
theorem got_no {w W w9 : World} {y : RP} {e : Int} (hy : y = rpNo e) (h : RgB w W) (hg : W.grownBy w9 (some w.heap.size)) : GotR w y (.returned (.tuple #[.agg #[.int .u32 0, .int .u32 0, .int .u32 0, .int .u32 0, .slice none 0 0], .int .i64 e])) w9 := by
  subst hy
  exact ⟨told_end h.below (Nat.le_refl _) hg, none, 0, 0, rfl, rfl, .inl ⟨rfl, rfl⟩⟩

set_option maxRecDepth 100000 in
set_option maxHeartbeats 4000000 in
theorem refrget_any (a : Option Addr) (len cap : Nat) (zs : List Int) (w : World) (hlc : len ≤ cap) (hm : cap ≤ 9223372036854775807) (hz : zs.length = len) (hb : Byt zs) (hs : Seg w a zs) (hn : a = none → len = 0 ∧ cap = 0) :
    Calls Tryd.prog 19 #[.slice a len cap] w fun e W' => GotR w (rp zs) e W' := by
  have hRB0 : RgB w (w.alloc (.cells #[.int .u32 0, .int .u32 0, .int .u32 0, .int .u32 0, .slice none 0 0] 26)) := ⟨(Below.refl _ _).alloc (Nat.le_refl _) _, heap_alloc_last w _⟩
  by_cases hbig : 65536 < len
  · have hy : rp zs = rpNo 3 := by rw [rp, if_pos (by omega)]
    rw [hy]
    go_enter Tryd.func19, Tryd.ntmps19
    go_wp2_with (refine wpList_store_whole rfl 26 _ _ rfl w.heap.size #[.int .u32 0, .int .u32 0, .int .u32 0, .int .u32 0, .slice none 0 0] rfl rfl _ _ hRB0.box infoP rfl (by simp [Value.oneCell']) ?_; intro w9 hC9 hg9 hs9)
    obtain ⟨v0, v1, v2, v3, v4⟩ := five_at hC9
    refine bodyPost_ret (v := .tuple #[.agg #[.int .u32 0, .int .u32 0, .int .u32 0, .int .u32 0, .slice none 0 0], .int .i64 3]) (by simp [results, Tryd.results19, go_sem, v0, v1, v2, v3, v4]) rfl ?_
    exact got_no rfl hRB0 hg9
  rw [rp_go hb (by omega)]
  obtain ⟨y, hy⟩ : ∃ y, y = rgo zs 8 0 := ⟨_, rfl⟩
  rw [← hy]
  have HY : Hid (y = rgo zs 8 0) := hy
  clear hy
  obtain ⟨i4, hi4, hz40, hz41, hz42⟩ := info_parts infoN4g
  obtain ⟨i1, hi1, hz10, hz11, hz12⟩ := info_parts infoN1g
  go_enter Tryd.func19, Tryd.ntmps19
  go_wp2
  go_loopw [4] (fun l wr => ∃ k : Nat, k ≤ 7 ∧ y = rgo zs (8 - k) k ∧ 4 * k ≤ len ∧ RgB w wr ∧ wr.ownsRow (w.heap.size + 1) 22 1 l k ((numsZ k zs).map (Value.int .u32))) (fun l _ => 8 - lenV l)
  case atStart => exact ⟨0, by omega, HY.out, by omega, hRB0, own_empty _ _ _⟩
  case round =>
    clear HY hRB0
    obtain ⟨k, hk, hy, hpk, hRB, hown⟩ := hrel
    obtain ⟨la, lc, rfl, -, hlc1, hlc2, -⟩ := own_val4 hown (numsZ_len k zs)
    have HY : Hid (y = rgo zs (8 - k) k) := hy
    clear hy
    have hsr := hs.below hRB.below
    have hdl : (zs.drop (4 * k)).length = len - 4 * k := by rw [List.length_drop, hz]
    have hdb := hb.drop (4 * k)
    obtain ⟨a', hcut, hsf⟩ := cut_from hsr hz hlc (4 * k) hpk
    have hg := refget_any a' (len - 4 * k) (cap - 4 * k) (zs.drop (4 * k)) wr (by omega) (by omega) hdl hdb hsf
    clear hsr hsf
    obtain ⟨q, hq⟩ : ∃ q, 4 * k = q := ⟨_, rfl⟩
    have hqi : 4 * (k : Int) = (q : Int) := by omega
    rw [hq] at hdl hdb hg hcut hpk
    by_cases h4 : len < q + 4
    · rw [getN, getE, if_pos (by omega), if_pos (by omega)] at hg
      go_wp2_with (first
        | (refine wpList_store_whole rfl 26 _ _ rfl w.heap.size #[.int .u32 0, .int .u32 0, .int .u32 0, .int .u32 0, .slice none 0 0] rfl rfl _ _ hRB.box infoP rfl (by simp [Value.oneCell']) ?_; intro w9 hC9 hg9 hs9)
        | (go_at_call 52; refine hg.mono ?_; rintro e w' ⟨rfl, rfl⟩))
      obtain ⟨v0, v1, v2, v3, v4⟩ := five_at hC9
      refine bodyPost_ret (v := .tuple #[.agg #[.int .u32 0, .int .u32 0, .int .u32 0, .int .u32 0, .slice none 0 0], .int .i64 4]) (by simp [results, Tryd.results19, go_sem, v0, v1, v2, v3, v4]) rfl ?_
      have hy := HY.out
      rw [show 8 - k = (7 - k) + 1 by omega, rgo_short (by omega)] at hy
      exact got_no hy hRB hg9
    · rw [getN, getE, if_neg (by omega), if_neg (by omega)] at hg
      have HS : Hid (numsZ (k + 1) zs = numsZ k zs ++ [be ((zs.drop q).take 4)]) := by show _ = _; rw [numsZ_snoc, hq]
      have hk4 : ¬ zs.length < 4 * (k + 1) := by omega
      have hnr := fun i (hi : i < k + 1) => num_range hb i (by omega)
      obtain ⟨t, ht⟩ : ∃ t, t = tdT (k + 1) (num zs) := ⟨_, rfl⟩
      have HT : Hid (t = tdT (k + 1) (num zs)) := ht
      have htold := fun (N lc : Nat) (W : World) hN h1 h2 hc => told_any N (k + 1) lc (num zs) W hN (by omega) (by omega) h1 h2 hnr hc
      rw [← ht] at htold
      clear ht
      generalize hx : be ((zs.drop q).take 4) = x at *
      clear hx hdb
      go_wp2_with fail
      refine hg.mono ?_
      rintro e w' ⟨rfl, rfl⟩
      clear hg
      go_wp2_with (at_builtin; refine wpList_append_own _ rfl _ _ 62 rfl (w.heap.size + 1) 22 i4 (.int .u32 0) 1 4 Tryd.underlying62 hi4 hz40 hz41 hz42 rfl (by decide) (.slice la k lc) k _ rfl (hown.alloc _) ⟨w'.heap.size, 0, none⟩ 1 1 [.int .u32 x] rfl rfl (World.news_of_block (fr := (0, 0)) (heap_alloc_new w' _)) (by simp [Value.oneCell']) (by unfold maxLen; omega) (by omega) (by have := hRB.lt; simp; omega) ?_; intro v1 w1 ho1 hg1 _; obtain ⟨N, c1, rfl, hc1, hcm1, hN1⟩ := own_shape ho1 (by omega))
      have ho2 : w1.ownsRow (w.heap.size + 1) 22 1 (.slice (some ⟨N, 0, none⟩) (k + 1) c1) (k + 1) ((numsZ (k + 1) zs).map (Value.int .u32)) := by rw [HS.out, List.map_append]; exact ho1
      have hRB1 : RgB w w1 := (hRB.next ((Below.refl _ _).alloc (Nat.le_refl _) _)).grown hg1 (fun j e => own_low hown e)
      have s4 := seg4_own ho2 (numsZ_len (k + 1) zs)
      have hN2 : N < w1.heap.size := s4.lt rfl (by have := numsZ_len (k + 1) zs; intro h; rw [h] at this; simp at this)
      have hcl : ∀ i, i < k + 1 → w1.cell? ⟨N, i, none⟩ = some (.int .u32 (num zs i)) := fun i hi => by
        rw [ho2.cellAt i (by omega), List.getElem?_map, List.getElem?_eq_getElem (by rw [numsZ_len]; exact hi), numsZ_get (k + 1) i zs hi]
        rfl
      have htl := htold N c1 w1 hN2 hc1 hcm1 hcl
      clear htold hcl s4 ho1 hg1 hown hRB hcut
      refine htl.mono ?_
      rintro e w2 ⟨rfl, hb2⟩
      have ho3 := own_below ho2 hb2
      have hRB2 := hRB1.next hb2
      have hRB3 := fun o => hRB2.next ((Below.refl w2.heap.size w2).alloc (Nat.le_refl _) o)
      clear htl ho2 hRB1 hb2 hN2
      by_cases hok : t.ok = false
      · go_wp2_with (refine wpList_store_whole rfl 26 _ _ rfl w.heap.size #[.int .u32 0, .int .u32 0, .int .u32 0, .int .u32 0, .slice none 0 0] rfl rfl _ _ (hRB3 _).box infoP rfl (by simp [Value.oneCell']) ?_; intro w9 hC9 hg9 hs9)
        obtain ⟨v0, v1, v2, v3, v4⟩ := five_at hC9
        refine bodyPost_ret (v := .tuple #[.agg #[.int .u32 0, .int .u32 0, .int .u32 0, .int .u32 0, .slice none 0 0], .int .i64 5]) (by simp [results, Tryd.results19, go_sem, v0, v1, v2, v3, v4]) rfl ?_
        have hy := HY.out
        rw [show 8 - k = (7 - k) + 1 by omega, rgo_bad hk4 (by rw [← HT.out]; exact hok)] at hy
        exact got_no hy (hRB3 _) hg9
      replace hok : t.ok = true := by simpa using hok
      by_cases hmo : t.more = true
      · have hk7 : k + 1 ≤ 7 := by
          rcases Nat.lt_or_ge (k + 1) 8 with h | h
          · omega
          · have := tdT_last (z := num zs) h
            rw [← HT.out, hmo] at this
            cases this
        have hyn : y = rgo zs (8 - (k + 1)) (k + 1) := by
          have hy := HY.out
          rw [show 8 - k = (7 - k) + 1 by omega, rgo_more hk4 (by rw [← HT.out]; exact hok) (by rw [← HT.out]; exact hmo)] at hy
          rw [show 8 - (k + 1) = 7 - k by omega]
          exact hy
        go_wp2
        go_roundw
        case rel => exact ⟨k + 1, hk7, hyn, by omega, hRB3 _, own_below ho3 ((Below.refl w2.heap.size w2).alloc (Nat.le_refl _) _)⟩
        case measure => simp [lenV]; omega
      replace hmo : t.more = false := by simpa using hmo
      obtain ⟨th, tl, tg, tm, tk⟩ := t
      simp only at hok hmo
      subst hok hmo
      obtain ⟨x0, hx0⟩ : ∃ x0, num zs 0 = x0 := ⟨_, rfl⟩
      have HX : Hid (num zs 0 = x0) := hx0
      simp only [hx0]
      clear hx0 hnr
      obtain ⟨M, hM⟩ : ∃ M, q + 4 = M := ⟨_, rfl⟩
      have hMi : 4 * ((k : Int) + 1) = (M : Int) := by omega
      replace hRB3 := hRB3 (.cells #[.int .u32 x0, .int .u32 th, .int .u32 tl, .int .u32 tg, .slice none 0 0] 26)
      have hC3 := heap_alloc_last w2 (.cells #[.int .u32 x0, .int .u32 th, .int .u32 tl, .int .u32 tg, .slice none 0 0] 26)
      obtain ⟨a2, hcut, hsf, hna⟩ := cut_nil (hs.below hRB3.below) hz hlc hn M (by omega)
      have hH := hRB2.lt
      have hHl : w2.heap.size < (w2.alloc (.cells #[.int .u32 x0, .int .u32 th, .int .u32 tl, .int .u32 tg, .slice none 0 0] 26)).heap.size := by simp
      by_cases hth : th = 0
      · subst hth
        go_wp2_with (first
          | (refine wpList_store_whole rfl 26 _ _ rfl w.heap.size #[.int .u32 x0, .int .u32 0, .int .u32 tl, .int .u32 tg, .slice ra rl rc] rfl rfl _ _ hRB6.box infoP rfl (by simp [Value.oneCell']) ?_; intro w9 hC9 hg9 hs9)
          | (refine wpList_store_field rfl 24 _ _ rfl w2.heap.size 4 (.slice ra rl rc) rfl rfl _ _ hC5 infoS1 (by simp) rfl #[.int .u32 x0, .int .u32 0, .int .u32 tl, .int .u32 tg, .slice ra rl rc] rfl ?_; intro w6 hC6 hg6 hs6; have hRB6 := hRB5.grown hg6 (fun j e => by cases e; exact hH); have ho6 := own_grown ho5 hg6 (Nat.lt_succ_self _); obtain ⟨y0, y1, y2, y3, y4⟩ := five_at hC6)
          | (at_builtin; refine wpList_append_each _ rfl _ _ 24 rfl (w2.heap.size + 1) 5 i1 (.int .u8 0) 1 1 Tryd.underlying24 hi1 hz10 hz11 hz12 rfl (by decide) (.slice none 0 0) 0 [] rfl (own_empty _ _ _) a2 (len - M) (cap - M) ((zs.drop M).map (Value.int .u8)) rfl hna (by simp [hz]) (fun b e => seg_news (by rw [← e]; exact hsf)) (news_one _) (by unfold maxLen; omega) (by omega) (by simp) ?_; intro v5 w5 ho5 hg5; obtain ⟨ra, rc, rl, HRL, rfl⟩ : ∃ ra rc rl, Hid (rl = len - M) ∧ v5 = .slice ra rl rc := (by obtain ⟨ra, rc, e, _⟩ := own_val (zs := zs.drop M) (by simpa using ho5) (by simp [hz]); exact ⟨ra, rc, _, rfl, by simpa using e⟩); have hC5 := (hg5.block w2.heap.size hHl (by simp [Value.ownBlock])).trans hC3; have hRB5 := hRB3.grown hg5 (fun j e => by simp [Value.ownBlock] at e); obtain ⟨y0, y1, y2, y3, y4⟩ := five_at hC5))
        obtain ⟨v0, v1, v2, v3, v4⟩ := five_at hC9
        refine bodyPost_ret (v := .tuple #[.agg #[.int .u32 x0, .int .u32 0, .int .u32 tl, .int .u32 tg, .slice ra rl rc], .int .i64 0]) (by simp [results, Tryd.results19, go_sem, v0, v1, v2, v3, v4]) rfl ?_
        have hy := HY.out
        rw [show 8 - k = (7 - k) + 1 by omega, rgo_end hk4 (by rw [← HT.out]) (by rw [← HT.out]) (by rw [← HT.out]; simp), ← HT.out, HX.out, show 4 * (k + 1) = M by omega] at hy
        rw [hy]
        refine ⟨told_end hRB6.below (Nat.le_refl _) hg9, ra, rl, rc, rfl, ?_⟩
        have := own_base (own_grown ho6 hg9 (by omega)) (base' := w.heap.size) (by omega)
        simpa [hz] using this
      · have hthb : (th != 0) = true := by simpa using hth
        by_cases hrest : M < len
        · have hr1 : (0 : Int) < ((len - M : Nat) : Int) := by omega
          go_wp2_with (refine wpList_store_whole rfl 26 _ _ rfl w.heap.size #[.int .u32 0, .int .u32 0, .int .u32 0, .int .u32 0, .slice none 0 0] rfl rfl _ _ hRB3.box infoP rfl (by simp [Value.oneCell']) ?_; intro w9 hC9 hg9 hs9)
          obtain ⟨v0, v1, v2, v3, v4⟩ := five_at hC9
          refine bodyPost_ret (v := .tuple #[.agg #[.int .u32 0, .int .u32 0, .int .u32 0, .int .u32 0, .slice none 0 0], .int .i64 5]) (by simp [results, Tryd.results19, go_sem, v0, v1, v2, v3, v4]) rfl ?_
          have hy := HY.out
          rw [show 8 - k = (7 - k) + 1 by omega, rgo_form hk4 (by rw [← HT.out]) (by rw [← HT.out]) (by rw [← HT.out]; exact hth) (by omega)] at hy
          exact got_no hy hRB3 hg9
        · have hr1 : ¬ (0 : Int) < ((len - M : Nat) : Int) := by omega
          go_wp2_with (first
            | (refine wpList_store_whole rfl 26 _ _ rfl w.heap.size #[.int .u32 x0, .int .u32 th, .int .u32 tl, .int .u32 tg, .slice ra rl rc] rfl rfl _ _ hRB6.box infoP rfl (by simp [Value.oneCell']) ?_; intro w9 hC9 hg9 hs9)
            | (refine wpList_store_field rfl 24 _ _ rfl w2.heap.size 4 (.slice ra rl rc) rfl rfl _ _ hC5 infoS1 (by simp) rfl #[.int .u32 x0, .int .u32 th, .int .u32 tl, .int .u32 tg, .slice ra rl rc] rfl ?_; intro w6 hC6 hg6 hs6; have hRB6 := hRB5.grown hg6 (fun j e => by cases e; exact hH); have ho6 := own_grown ho5 hg6 (Nat.lt_succ_self _); obtain ⟨y0, y1, y2, y3, y4⟩ := five_at hC6)
            | (at_builtin; refine wpList_append_each _ rfl _ _ 24 rfl (w2.heap.size + 1) 5 i1 (.int .u8 0) 1 1 Tryd.underlying24 hi1 hz10 hz11 hz12 rfl (by decide) (.slice none 0 0) 0 [] rfl (own_empty _ _ _) a2 (len - M) (cap - M) ((zs.drop M).map (Value.int .u8)) rfl hna (by simp [hz]) (fun b e => seg_news (by rw [← e]; exact hsf)) (news_one _) (by unfold maxLen; omega) (by omega) (by simp) ?_; intro v5 w5 ho5 hg5; obtain ⟨ra, rc, rl, HRL, rfl⟩ : ∃ ra rc rl, Hid (rl = len - M) ∧ v5 = .slice ra rl rc := (by obtain ⟨ra, rc, e, _⟩ := own_val (zs := zs.drop M) (by simpa using ho5) (by simp [hz]); exact ⟨ra, rc, _, rfl, by simpa using e⟩); have hC5 := (hg5.block w2.heap.size hHl (by simp [Value.ownBlock])).trans hC3; have hRB5 := hRB3.grown hg5 (fun j e => by simp [Value.ownBlock] at e); obtain ⟨y0, y1, y2, y3, y4⟩ := five_at hC5))
          obtain ⟨v0, v1, v2, v3, v4⟩ := five_at hC9
          refine bodyPost_ret (v := .tuple #[.agg #[.int .u32 x0, .int .u32 th, .int .u32 tl, .int .u32 tg, .slice ra rl rc], .int .i64 0]) (by simp [results, Tryd.results19, go_sem, v0, v1, v2, v3, v4]) rfl ?_
          have hy := HY.out
          rw [show 8 - k = (7 - k) + 1 by omega, rgo_end hk4 (by rw [← HT.out]) (by rw [← HT.out]) (by omega), ← HT.out, HX.out, show 4 * (k + 1) = M by omega] at hy
          rw [hy]
          refine ⟨told_end hRB6.below (Nat.le_refl _) hg9, ra, rl, rc, rfl, ?_⟩
          have := own_base (own_grown ho6 hg9 (by omega)) (base' := w.heap.size) (by omega)
          simpa [hz] using this
end Go.Proofs.YtmjhgpmeikpbkaaDoor
