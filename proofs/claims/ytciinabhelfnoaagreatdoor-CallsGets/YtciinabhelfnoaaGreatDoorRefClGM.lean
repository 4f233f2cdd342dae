/- The document's 'Get' of a call: what it answers; nothing that was there turns. -/
import Derived.Test.YtciinabhelfnoaaGreatDoorCallGetM
import Derived.Test.YtciinabhelfnoaaGreatDoorRefCrGM
import Derived.Deep.RegionHeld3
import Derived.Deep.RegionLaw
import Derived.Test.YtciinabhelfnoaaGreatDoorAppendEach
import Derived.Lib.AppendZeros
import Derived.Laws.OwnMore
namespace Go.Proofs.YtciinabhelfnoaaGreatDoor
set_option linter.unusedVariables false
open Go.RowKit

theorem five_far {W : World} {h H : Nat} (hne : h ≠ H) (y6 y5 y7 y8 y9 : Value) : (((((W.setCell ⟨H, 6, none⟩ y6).setCell ⟨H, 5, none⟩ y5).setCell ⟨H, 7, none⟩ y7).setCell ⟨H, 8, none⟩ y8).setCell ⟨H, 9, none⟩ y9).heap[h]? = W.heap[h]? := by
  have e1 := Below.heap_setCell W ⟨H, 6, none⟩ y6 h hne
  have e2 := (Below.heap_setCell _ ⟨H, 5, none⟩ y5 h hne).trans e1
  have e3 := (Below.heap_setCell _ ⟨H, 7, none⟩ y7 h hne).trans e2
  have e4 := (Below.heap_setCell _ ⟨H, 8, none⟩ y8 h hne).trans e3
  exact (Below.heap_setCell _ ⟨H, 9, none⟩ y9 h hne).trans e4
theorem five_belowC {B : Nat} {w W : World} {h : Nat} (hb : Below B w W) (hh : B ≤ h) (y6 y5 y7 y8 y9 : Value) : Below B w (((((W.setCell ⟨h, 6, none⟩ y6).setCell ⟨h, 5, none⟩ y5).setCell ⟨h, 7, none⟩ y7).setCell ⟨h, 8, none⟩ y8).setCell ⟨h, 9, none⟩ y9) := ((((hb.setCell hh _).setCell hh _).setCell hh _).setCell hh _).setCell hh _
theorem five_kept {W : World} {h : Nat} (y6 y5 y7 y8 y9 : Value) : Kept (fun b => b = h) W (((((W.setCell ⟨h, 6, none⟩ y6).setCell ⟨h, 5, none⟩ y5).setCell ⟨h, 7, none⟩ y7).setCell ⟨h, 8, none⟩ y8).setCell ⟨h, 9, none⟩ y9) := (((((kept_one y6).trans (kept_one y5)).trans (kept_one y7)).trans (kept_one y8)).trans (kept_one y9))
theorem five_set {W : World} {h : Nat} {x0 x1 x2 x3 x4 x5 x6 x7 x8 x9 x10 : Value} {t : TypeId} (hh : W.heap[h]? = some (.cells #[x0, x1, x2, x3, x4, x5, x6, x7, x8, x9, x10] t)) (y6 y5 y7 y8 y9 : Value) : (((((W.setCell ⟨h, 6, none⟩ y6).setCell ⟨h, 5, none⟩ y5).setCell ⟨h, 7, none⟩ y7).setCell ⟨h, 8, none⟩ y8).setCell ⟨h, 9, none⟩ y9).heap[h]? = some (.cells #[x0, x1, x2, x3, x4, y5, y6, y7, y8, y9, x10] t) := by
  have h1 : (W.setCell ⟨h, 6, none⟩ y6).heap[h]? = some (.cells #[x0, x1, x2, x3, x4, x5, y6, x7, x8, x9, x10] t) := setCell_same hh y6
  have h2 : ((W.setCell ⟨h, 6, none⟩ y6).setCell ⟨h, 5, none⟩ y5).heap[h]? = some (.cells #[x0, x1, x2, x3, x4, y5, y6, x7, x8, x9, x10] t) := setCell_same h1 y5
  have h3 : (((W.setCell ⟨h, 6, none⟩ y6).setCell ⟨h, 5, none⟩ y5).setCell ⟨h, 7, none⟩ y7).heap[h]? = some (.cells #[x0, x1, x2, x3, x4, y5, y6, y7, x8, x9, x10] t) := setCell_same h2 y7
  have h4 : ((((W.setCell ⟨h, 6, none⟩ y6).setCell ⟨h, 5, none⟩ y5).setCell ⟨h, 7, none⟩ y7).setCell ⟨h, 8, none⟩ y8).heap[h]? = some (.cells #[x0, x1, x2, x3, x4, y5, y6, y7, y8, x9, x10] t) := setCell_same h3 y8
  exact setCell_same h4 y9

/-- As wpList_append_each, at a step of a region that draws its order. -/
theorem step_append_each {P : Program} (w : World) {ops : Array Oper} {o : Oper} {a : Act} {K : Act → World → Prop} {Q : Exit → Act → World → Prop} {E : Prop} (hgd : o.guard = none) (s x : Operand) (t : TypeId)
    (ho : o.op = .call { callee := .builtin .append, args := #[s, x], argTypes := #[t, t] })
    (base : Nat) (e : TypeId) (i : TypeInfo) (z : Value) (size bytes : Nat) (ht : P.underlying t = some (.slice e)) (hi : P.info? e = some i) (hz : i.zero = some z)
    (hsize : i.size = size) (hby : i.bytes = bytes) (hzs : z.cells.size = size) (hsz : 0 < size)
    (v : Value) (n : Nat) (xs : List Value) (hs : a.eval s = v) (hown : w.ownsRow base e size v n xs)
    (ad : Option Addr) (m c : Nat) (news : List Value) (hx : a.eval x = .slice ad m c) (hnil : ad = none → m = 0 ∧ c = 0) (hl : news.length = m * size) (hnews : ∀ b, ad = some b → ∀ j u, news[j]? = some u → w.cell? (b.add j) = some u) (h1 : ∀ u ∈ news, u.oneCell' = true)
    (h63 : n + m ≤ maxLen) (hbytes : (n + m) * bytes ≤ 140737488355328) (hbase : base ≤ w.heap.size)
    (h : ∀ v' w', w'.ownsRow base e size v' (n + m) (xs ++ news) → w.grownBy w' v.ownBlock → K (a.put o.dst v') w') : if Region.wanted o (yielded ops a.tmps) = true then Oper.wp P o a w K Q else E := by
  rw [if_pos (by simp [Region.wanted, hgd])]
  cases ad with
  | none =>
    obtain ⟨rfl, rfl⟩ := hnil rfl
    have hn : news = [] := List.length_eq_zero_iff.1 (by simpa using hl)
    subst hn
    exact Lib.wp_append_run w s x t t ho v (.slice none 0 0) hs hx v w (run_append_owned_none w base t o.type e i size ht hi v n xs hown) (h v w (by simpa using hown) (grown_refl _ _))
  | some b => exact wp_append_own w s x t ho base e i z size bytes ht hi hz hsize hby hzs hsz v n xs hs hown b m c news hx hl (hnews b rfl) h1 h63 hbytes hbase (fun v' w' ho' hg _ => h v' w' ho' hg)

/-- What the loop has read. -/
structure Ln (w0 : World) (zs : List Int) (k : Nat) (vl : Value) (W : World) : Prop where
  below : Below w0.heap.size w0 W
  own : W.ownsRow w0.heap.size 24 1 vl k ((numsZ k zs).map (Value.int .u32))
  e : firstE (clEs zs) = firstE ((clEs zs).drop k)
  len : 4 * k ≤ zs.length
  f : 7 ≤ k → clF zs ≤ 1

set_option maxRecDepth 100000 in
set_option maxHeartbeats 8000000 in
theorem refclget_any (a : Option Addr) (len cap : Nat) (zs : List Int) (w : World) (hlc : len ≤ cap) (hm : cap ≤ 9223372036854775807) (hz : zs.length = len) (hb : Byt zs) (hs : Seg w a zs) (hn : a = none → len = 0 ∧ cap = 0) :
    Calls Tryz.prog 6 #[.slice a len cap] w (clPost w zs) := by
  obtain ⟨i0, hi, hz0, hz1', hz2⟩ := info_parts infoN4
  obtain ⟨iB, hiB, zB0, zB1, zB2⟩ := info_parts infoC
  have hB0 : Below w.heap.size w (w.alloc (.cells #[.int .u32 0, .int .u32 0, .int .u32 0, .int .u32 0, .int .u32 0, .string ⟨#[]⟩, .int .u32 0, .int .u32 0, .int .u32 0, .slice none 0 0, .slice none 0 0] 29)) := (Below.refl _ _).alloc (Nat.le_refl _) _
  have hh0 : (w.alloc (.cells #[.int .u32 0, .int .u32 0, .int .u32 0, .int .u32 0, .int .u32 0, .string ⟨#[]⟩, .int .u32 0, .int .u32 0, .int .u32 0, .slice none 0 0, .slice none 0 0] 29)).heap[w.heap.size]? = some (.cells #[.int .u32 0, .int .u32 0, .int .u32 0, .int .u32 0, .int .u32 0, .string ⟨#[]⟩, .int .u32 0, .int .u32 0, .int .u32 0, .slice none 0 0, .slice none 0 0] 29) := heap_alloc_new w _
  have hlt : w.heap.size < (w.alloc (.cells #[.int .u32 0, .int .u32 0, .int .u32 0, .int .u32 0, .int .u32 0, .string ⟨#[]⟩, .int .u32 0, .int .u32 0, .int .u32 0, .slice none 0 0, .slice none 0 0] 29)).heap.size := by simp
  have hlm : len ≤ 9223372036854775807 := by omega
  by_cases hbig : 65536 < len
  · have hx : (65536 : Int) < len := by omega
    have HE : Hid (clE zs = 3) := by show clE zs = 3; rw [clE, if_pos (by omega)]
    go_enter Tryz.func6, Tryz.ntmps6
    go_wp2
    generalize w.alloc (.cells #[.int .u32 0, .int .u32 0, .int .u32 0, .int .u32 0, .int .u32 0, .string ⟨#[]⟩, .int .u32 0, .int .u32 0, .int .u32 0, .slice none 0 0, .slice none 0 0] 29) = wz at *
    obtain ⟨c0, c1, c2, c3, c4, c5, c6, c7, c8, c9, c10⟩ := call_at hh0
    refine bodyPost_ret (v := .tuple #[.agg #[.int .u32 0, .int .u32 0, .int .u32 0, .int .u32 0, .int .u32 0, .string ⟨#[]⟩, .int .u32 0, .int .u32 0, .int .u32 0, .slice none 0 0, .slice none 0 0], .int .i64 3]) (by simp [results, Tryz.results6, go_sem, c0, c1, c2, c3, c4, c5, c6, c7, c8, c9, c10]) rfl ?_
    exact ⟨hB0, .inl ⟨by rw [HE.out]; decide, by rw [HE.out]⟩⟩
  have hx : ¬ (65536 : Int) < len := by omega
  have hsm : len ≤ 65536 := by omega
  have HC : Hid (clE zs = firstE (clEs zs)) := by show clE zs = _; rw [clE, if_neg (by omega)]
  go_enter Tryz.func6, Tryz.ntmps6
  go_wp2_with fail
  generalize w.alloc (.cells #[.int .u32 0, .int .u32 0, .int .u32 0, .int .u32 0, .int .u32 0, .string ⟨#[]⟩, .int .u32 0, .int .u32 0, .int .u32 0, .slice none 0 0, .slice none 0 0] 29) = w0 at *
  have hs0 := hs.below hB0
  clear hs
  go_loopw [4, 5] (fun vl i wr => ∃ k : Nat, k ≤ 7 ∧ i = .int .i64 k ∧ Ln w0 zs k vl wr) (fun _ i _ => 7 - (intOf i).toNat)
  case atStart => exact ⟨0, by omega, rfl, ⟨Below.refl _ _, World.ownsRow_nil _ _ _ _, rfl, by omega, fun h => absurd h (by omega)⟩⟩
  case round =>
    obtain ⟨k, hk, rfl, L⟩ := hrel
    have hres := (L.below.block _ hlt).trans hh0
    have hBW := hB0.trans (L.below.mono hB0.size)
    by_cases hlt7 : k < 7
    · have hk7 : k = 0 ∨ k = 1 ∨ k = 2 ∨ k = 3 ∨ k = 4 ∨ k = 5 ∨ k = 6 := by omega
      clear hk hlt7
      rcases hk7 with rfl | rfl | rfl | rfl | rfl | rfl | rfl
      · have hP : 0 ≤ len := by have := L.len; omega
        obtain ⟨a', hcut, hs', hn'⟩ := cut_nil hs0 hz hlc hn 0 hP
        have hcut' : ∀ W, (Instr.slice 22 (.slice a len cap) (some (.int .i64 0)) none none).run Tryz.prog W = .ok (.slice a' (len - 0) (cap - 0)) W := hcut
        have hdl : (zs.drop 0).length = len - 0 := by rw [List.length_drop, hz]
        have hg := refget_any a' (len - 0) (cap - 0) (zs.drop 0) wr (by omega) (by omega) hdl (byt_drop hb 0) (hs'.below L.below)
        have hdK : (clEs zs).drop 0 = getE zs :: (clEs zs).drop 1 := rfl
        clear hcut hs' hn'
        by_cases hl : len - 0 < 4
        · have hls : zs.length < 4 := by omega
          have HE : Hid (clE zs = 4) := by
            show clE zs = 4
            have e4 : getE zs = 4 := by rw [getE, if_pos hls]
            rw [HC.out, L.e, hdK, e4]
            exact firstE_stop (by decide)
          obtain ⟨hN4, hE4⟩ := (getNE hdl).1 hl
          rw [hN4, hE4] at hg
          clear hls hdl hdK hN4 hE4
          obtain ⟨c0, c1, c2, c3, c4, c5, c6, c7, c8, c9, c10⟩ := call_at hres
          have fz := fun k => frozen_at (k := k) hres
          go_wp2_with fail
          refine hg.mono ?_
          rintro e w' ⟨rfl, hw'⟩
          subst w'
          go_wp2
          have hcz := call_set hres (.int .u32 0) (.int .u32 0) (.int .u32 0) (.int .u32 0) (.int .u32 0) (.string ⟨#[]⟩) (.int .u32 0) (.int .u32 0) (.int .u32 0) (.slice none 0 0) (.slice none 0 0)
          have hBz := call_below (h := w.heap.size) hBW (Nat.le_refl _) (.int .u32 0) (.int .u32 0) (.int .u32 0) (.int .u32 0) (.int .u32 0) (.string ⟨#[]⟩) (.int .u32 0) (.int .u32 0) (.int .u32 0) (.slice none 0 0) (.slice none 0 0)
          generalize (((((((((((wr.setCell ⟨w.heap.size, 0, none⟩ (.int .u32 0)).setCell ⟨w.heap.size, 1, none⟩ (.int .u32 0)).setCell ⟨w.heap.size, 2, none⟩ (.int .u32 0)).setCell ⟨w.heap.size, 3, none⟩ (.int .u32 0)).setCell ⟨w.heap.size, 4, none⟩ (.int .u32 0)).setCell ⟨w.heap.size, 5, none⟩ (.string ⟨#[]⟩)).setCell ⟨w.heap.size, 6, none⟩ (.int .u32 0)).setCell ⟨w.heap.size, 7, none⟩ (.int .u32 0)).setCell ⟨w.heap.size, 8, none⟩ (.int .u32 0)).setCell ⟨w.heap.size, 9, none⟩ (.slice none 0 0)).setCell ⟨w.heap.size, 10, none⟩ (.slice none 0 0)) = wz at *
          clear c0 c1 c2 c3 c4 c5 c6 c7 c8 c9 c10 fz
          obtain ⟨c0, c1, c2, c3, c4, c5, c6, c7, c8, c9, c10⟩ := call_at hcz
          refine bodyPost_ret (v := .tuple #[.agg #[.int .u32 0, .int .u32 0, .int .u32 0, .int .u32 0, .int .u32 0, .string ⟨#[]⟩, .int .u32 0, .int .u32 0, .int .u32 0, .slice none 0 0, .slice none 0 0], .int .i64 4]) (by simp [results, Tryz.results6, go_sem, c0, c1, c2, c3, c4, c5, c6, c7, c8, c9, c10]) rfl ?_
          exact ⟨hBz, .inl ⟨by rw [HE.out]; decide, by rw [HE.out]⟩⟩
        · have hls : ¬ zs.length < 4 := by omega
          obtain ⟨hN4, hE4⟩ := (getNE hdl).2 (by omega)
          rw [hN4, hE4] at hg
          have hlen4 : 4 * (0 + 1) ≤ zs.length := by omega
          have HS : Hid (numsZ (0 + 1) zs = numsZ 0 zs ++ [be ((zs.drop 0).take 4)]) := numsZ_snoc 0 zs
          obtain ⟨nn, hnn⟩ : ∃ nn, be ((zs.drop 0).take 4) = nn := ⟨_, rfl⟩
          have hgo : getE zs = 0 := by rw [getE, if_neg hls]
          have HL : Hid (firstE (clEs zs) = firstE ((clEs zs).drop (0 + 1))) := by show _ = _; rw [L.e, hdK, firstE_go hgo]
          clear hgo
          rw [hnn] at hg HS
          have hown := L.own
          have hbl := L.below
          clear hls hdl hdK hN4 hE4 hnn L
          generalize numsZ 0 zs = ns at *
          go_wp2_with fail
          refine hg.mono ?_
          rintro e w' ⟨rfl, hw'⟩
          subst w'
          go_wp2_with (at_builtin; refine wpList_append_own _ rfl _ _ 25 rfl w0.heap.size 24 i0 (.int .u32 0) 1 4 Tryz.underlying25 hi hz0 hz1' hz2 rfl (by decide) _ 0 _ rfl (hown.alloc _) ⟨wr.heap.size, 0, none⟩ 1 1 [.int .u32 nn] rfl rfl (World.news_of_block (fr := (0, 0)) (heap_alloc_new wr _)) (by simp [Value.oneCell']) (by unfold maxLen; omega) (by omega) (by have := hbl.size; simp; omega) ?_; intro v1 w1 ho1 hg1 hx9; clear hx9)
          have hB1 : Below w0.heap.size w0 w1 := (hbl.alloc hbl.size _).grown hg1 (by have := hbl.size; simp; omega) (fun k e => own_low hown e)
          clear hg1
          go_roundw
          case rel => exact ⟨0 + 1, by omega, by go_num, ⟨hB1, by rw [HS.out, List.map_append]; exact ho1, HL.out, hlen4, fun h => absurd h (by omega)⟩⟩
          case measure => simp [intOf]
      · have hP : 4 ≤ len := by have := L.len; omega
        obtain ⟨a', hcut, hs', hn'⟩ := cut_nil hs0 hz hlc hn 4 hP
        have hcut' : ∀ W, (Instr.slice 22 (.slice a len cap) (some (.int .i64 4)) none none).run Tryz.prog W = .ok (.slice a' (len - 4) (cap - 4)) W := hcut
        have hdl : (zs.drop 4).length = len - 4 := by rw [List.length_drop, hz]
        have hg := refget_any a' (len - 4) (cap - 4) (zs.drop 4) wr (by omega) (by omega) hdl (byt_drop hb 4) (hs'.below L.below)
        have hdK : (clEs zs).drop 1 = fxnE (zs.drop 4) 0 :: (clEs zs).drop 2 := rfl
        clear hcut hs' hn'
        by_cases hl : len - 4 < 4
        · have hls : (zs.drop 4).length < 4 := by rw [hdl]; exact hl
          have HE : Hid (clE zs = 4) := by
            show clE zs = 4
            have e4 : fxnE (zs.drop 4) 0 = 4 := by rw [fxnE, if_pos hls]
            rw [HC.out, L.e, hdK, e4]
            exact firstE_stop (by decide)
          obtain ⟨hN4, hE4⟩ := (getNE hdl).1 hl
          rw [hN4, hE4] at hg
          clear hls hdl hdK hN4 hE4
          obtain ⟨c0, c1, c2, c3, c4, c5, c6, c7, c8, c9, c10⟩ := call_at hres
          have fz := fun k => frozen_at (k := k) hres
          go_wp2_with fail
          refine hg.mono ?_
          rintro e w' ⟨rfl, hw'⟩
          subst w'
          go_wp2
          have hcz := call_set hres (.int .u32 0) (.int .u32 0) (.int .u32 0) (.int .u32 0) (.int .u32 0) (.string ⟨#[]⟩) (.int .u32 0) (.int .u32 0) (.int .u32 0) (.slice none 0 0) (.slice none 0 0)
          have hBz := call_below (h := w.heap.size) hBW (Nat.le_refl _) (.int .u32 0) (.int .u32 0) (.int .u32 0) (.int .u32 0) (.int .u32 0) (.string ⟨#[]⟩) (.int .u32 0) (.int .u32 0) (.int .u32 0) (.slice none 0 0) (.slice none 0 0)
          generalize (((((((((((wr.setCell ⟨w.heap.size, 0, none⟩ (.int .u32 0)).setCell ⟨w.heap.size, 1, none⟩ (.int .u32 0)).setCell ⟨w.heap.size, 2, none⟩ (.int .u32 0)).setCell ⟨w.heap.size, 3, none⟩ (.int .u32 0)).setCell ⟨w.heap.size, 4, none⟩ (.int .u32 0)).setCell ⟨w.heap.size, 5, none⟩ (.string ⟨#[]⟩)).setCell ⟨w.heap.size, 6, none⟩ (.int .u32 0)).setCell ⟨w.heap.size, 7, none⟩ (.int .u32 0)).setCell ⟨w.heap.size, 8, none⟩ (.int .u32 0)).setCell ⟨w.heap.size, 9, none⟩ (.slice none 0 0)).setCell ⟨w.heap.size, 10, none⟩ (.slice none 0 0)) = wz at *
          clear c0 c1 c2 c3 c4 c5 c6 c7 c8 c9 c10 fz
          obtain ⟨c0, c1, c2, c3, c4, c5, c6, c7, c8, c9, c10⟩ := call_at hcz
          refine bodyPost_ret (v := .tuple #[.agg #[.int .u32 0, .int .u32 0, .int .u32 0, .int .u32 0, .int .u32 0, .string ⟨#[]⟩, .int .u32 0, .int .u32 0, .int .u32 0, .slice none 0 0, .slice none 0 0], .int .i64 4]) (by simp [results, Tryz.results6, go_sem, c0, c1, c2, c3, c4, c5, c6, c7, c8, c9, c10]) rfl ?_
          exact ⟨hBz, .inl ⟨by rw [HE.out]; decide, by rw [HE.out]⟩⟩
        · have hls : ¬ (zs.drop 4).length < 4 := by rw [hdl]; exact hl
          obtain ⟨hN4, hE4⟩ := (getNE hdl).2 (by omega)
          rw [hN4, hE4] at hg
          have hlen4 : 4 * (1 + 1) ≤ zs.length := by omega
          have HS : Hid (numsZ (1 + 1) zs = numsZ 1 zs ++ [be ((zs.drop 4).take 4)]) := numsZ_snoc 1 zs
          obtain ⟨nn, hnn⟩ : ∃ nn, be ((zs.drop 4).take 4) = nn := ⟨_, rfl⟩
          have hev : fxnE (zs.drop 4) 0 = if nn = 0 then 0 else 5 := by rw [fxnE, if_neg hls, hnn]
          by_cases hq : nn = 0
          case neg =>
            have HE : Hid (clE zs = 5) := by
              show clE zs = 5
              have e5 : fxnE (zs.drop 4) 0 = 5 := by rw [hev, if_neg hq]
              rw [HC.out, L.e, hdK, e5]
              exact firstE_stop (by decide)
            have hq' : (nn != 0) = true := by simp [hq]
            rw [hnn] at hg
            clear hls hdl hdK hN4 hE4 hev hnn hlen4 HS
            obtain ⟨c0, c1, c2, c3, c4, c5, c6, c7, c8, c9, c10⟩ := call_at hres
            have fz := fun k => frozen_at (k := k) hres
            go_wp2_with fail
            refine hg.mono ?_
            rintro e w' ⟨rfl, hw'⟩
            subst w'
            go_wp2
            have hcz := call_set hres (.int .u32 0) (.int .u32 0) (.int .u32 0) (.int .u32 0) (.int .u32 0) (.string ⟨#[]⟩) (.int .u32 0) (.int .u32 0) (.int .u32 0) (.slice none 0 0) (.slice none 0 0)
            have hBz := call_below (h := w.heap.size) hBW (Nat.le_refl _) (.int .u32 0) (.int .u32 0) (.int .u32 0) (.int .u32 0) (.int .u32 0) (.string ⟨#[]⟩) (.int .u32 0) (.int .u32 0) (.int .u32 0) (.slice none 0 0) (.slice none 0 0)
            generalize (((((((((((wr.setCell ⟨w.heap.size, 0, none⟩ (.int .u32 0)).setCell ⟨w.heap.size, 1, none⟩ (.int .u32 0)).setCell ⟨w.heap.size, 2, none⟩ (.int .u32 0)).setCell ⟨w.heap.size, 3, none⟩ (.int .u32 0)).setCell ⟨w.heap.size, 4, none⟩ (.int .u32 0)).setCell ⟨w.heap.size, 5, none⟩ (.string ⟨#[]⟩)).setCell ⟨w.heap.size, 6, none⟩ (.int .u32 0)).setCell ⟨w.heap.size, 7, none⟩ (.int .u32 0)).setCell ⟨w.heap.size, 8, none⟩ (.int .u32 0)).setCell ⟨w.heap.size, 9, none⟩ (.slice none 0 0)).setCell ⟨w.heap.size, 10, none⟩ (.slice none 0 0)) = wz at *
            clear c0 c1 c2 c3 c4 c5 c6 c7 c8 c9 c10 fz
            obtain ⟨c0, c1, c2, c3, c4, c5, c6, c7, c8, c9, c10⟩ := call_at hcz
            refine bodyPost_ret (v := .tuple #[.agg #[.int .u32 0, .int .u32 0, .int .u32 0, .int .u32 0, .int .u32 0, .string ⟨#[]⟩, .int .u32 0, .int .u32 0, .int .u32 0, .slice none 0 0, .slice none 0 0], .int .i64 5]) (by simp [results, Tryz.results6, go_sem, c0, c1, c2, c3, c4, c5, c6, c7, c8, c9, c10]) rfl ?_
            exact ⟨hBz, .inl ⟨by rw [HE.out]; decide, by rw [HE.out]⟩⟩
          have HL : Hid (firstE (clEs zs) = firstE ((clEs zs).drop (1 + 1))) := by show _ = _; rw [L.e, hdK, firstE_go (by rw [hev, if_pos hq])]
          clear hev
          have hq' : (nn != 0) = false := by simp [hq]
          clear hq
          rw [hnn] at hg HS
          have hown := L.own
          have hbl := L.below
          clear hls hdl hdK hN4 hE4 hnn L
          generalize numsZ 1 zs = ns at *
          go_wp2_with fail
          refine hg.mono ?_
          rintro e w' ⟨rfl, hw'⟩
          subst w'
          go_wp2_with (at_builtin; refine wpList_append_own _ rfl _ _ 25 rfl w0.heap.size 24 i0 (.int .u32 0) 1 4 Tryz.underlying25 hi hz0 hz1' hz2 rfl (by decide) _ 1 _ rfl (hown.alloc _) ⟨wr.heap.size, 0, none⟩ 1 1 [.int .u32 nn] rfl rfl (World.news_of_block (fr := (0, 0)) (heap_alloc_new wr _)) (by simp [Value.oneCell']) (by unfold maxLen; omega) (by omega) (by have := hbl.size; simp; omega) ?_; intro v1 w1 ho1 hg1 hx9; clear hx9)
          have hB1 : Below w0.heap.size w0 w1 := (hbl.alloc hbl.size _).grown hg1 (by have := hbl.size; simp; omega) (fun k e => own_low hown e)
          clear hg1
          go_roundw
          case rel => exact ⟨1 + 1, by omega, by go_num, ⟨hB1, by rw [HS.out, List.map_append]; exact ho1, HL.out, hlen4, fun h => absurd h (by omega)⟩⟩
          case measure => simp [intOf]
      · have hP : 8 ≤ len := by have := L.len; omega
        obtain ⟨a', hcut, hs', hn'⟩ := cut_nil hs0 hz hlc hn 8 hP
        have hcut' : ∀ W, (Instr.slice 22 (.slice a len cap) (some (.int .i64 8)) none none).run Tryz.prog W = .ok (.slice a' (len - 8) (cap - 8)) W := hcut
        have hdl : (zs.drop 8).length = len - 8 := by rw [List.length_drop, hz]
        have hg := refget_any a' (len - 8) (cap - 8) (zs.drop 8) wr (by omega) (by omega) hdl (byt_drop hb 8) (hs'.below L.below)
        have hdK : (clEs zs).drop 2 = fxnE (zs.drop 8) 2 :: (clEs zs).drop 3 := rfl
        clear hcut hs' hn'
        by_cases hl : len - 8 < 4
        · have hls : (zs.drop 8).length < 4 := by rw [hdl]; exact hl
          have HE : Hid (clE zs = 4) := by
            show clE zs = 4
            have e4 : fxnE (zs.drop 8) 2 = 4 := by rw [fxnE, if_pos hls]
            rw [HC.out, L.e, hdK, e4]
            exact firstE_stop (by decide)
          obtain ⟨hN4, hE4⟩ := (getNE hdl).1 hl
          rw [hN4, hE4] at hg
          clear hls hdl hdK hN4 hE4
          obtain ⟨c0, c1, c2, c3, c4, c5, c6, c7, c8, c9, c10⟩ := call_at hres
          have fz := fun k => frozen_at (k := k) hres
          go_wp2_with fail
          refine hg.mono ?_
          rintro e w' ⟨rfl, hw'⟩
          subst w'
          go_wp2
          have hcz := call_set hres (.int .u32 0) (.int .u32 0) (.int .u32 0) (.int .u32 0) (.int .u32 0) (.string ⟨#[]⟩) (.int .u32 0) (.int .u32 0) (.int .u32 0) (.slice none 0 0) (.slice none 0 0)
          have hBz := call_below (h := w.heap.size) hBW (Nat.le_refl _) (.int .u32 0) (.int .u32 0) (.int .u32 0) (.int .u32 0) (.int .u32 0) (.string ⟨#[]⟩) (.int .u32 0) (.int .u32 0) (.int .u32 0) (.slice none 0 0) (.slice none 0 0)
          generalize (((((((((((wr.setCell ⟨w.heap.size, 0, none⟩ (.int .u32 0)).setCell ⟨w.heap.size, 1, none⟩ (.int .u32 0)).setCell ⟨w.heap.size, 2, none⟩ (.int .u32 0)).setCell ⟨w.heap.size, 3, none⟩ (.int .u32 0)).setCell ⟨w.heap.size, 4, none⟩ (.int .u32 0)).setCell ⟨w.heap.size, 5, none⟩ (.string ⟨#[]⟩)).setCell ⟨w.heap.size, 6, none⟩ (.int .u32 0)).setCell ⟨w.heap.size, 7, none⟩ (.int .u32 0)).setCell ⟨w.heap.size, 8, none⟩ (.int .u32 0)).setCell ⟨w.heap.size, 9, none⟩ (.slice none 0 0)).setCell ⟨w.heap.size, 10, none⟩ (.slice none 0 0)) = wz at *
          clear c0 c1 c2 c3 c4 c5 c6 c7 c8 c9 c10 fz
          obtain ⟨c0, c1, c2, c3, c4, c5, c6, c7, c8, c9, c10⟩ := call_at hcz
          refine bodyPost_ret (v := .tuple #[.agg #[.int .u32 0, .int .u32 0, .int .u32 0, .int .u32 0, .int .u32 0, .string ⟨#[]⟩, .int .u32 0, .int .u32 0, .int .u32 0, .slice none 0 0, .slice none 0 0], .int .i64 4]) (by simp [results, Tryz.results6, go_sem, c0, c1, c2, c3, c4, c5, c6, c7, c8, c9, c10]) rfl ?_
          exact ⟨hBz, .inl ⟨by rw [HE.out]; decide, by rw [HE.out]⟩⟩
        · have hls : ¬ (zs.drop 8).length < 4 := by rw [hdl]; exact hl
          obtain ⟨hN4, hE4⟩ := (getNE hdl).2 (by omega)
          rw [hN4, hE4] at hg
          have hlen4 : 4 * (2 + 1) ≤ zs.length := by omega
          have HS : Hid (numsZ (2 + 1) zs = numsZ 2 zs ++ [be ((zs.drop 8).take 4)]) := numsZ_snoc 2 zs
          obtain ⟨nn, hnn⟩ : ∃ nn, be ((zs.drop 8).take 4) = nn := ⟨_, rfl⟩
          have hev : fxnE (zs.drop 8) 2 = if nn = 2 then 0 else 5 := by rw [fxnE, if_neg hls, hnn]
          by_cases hq : nn = 2
          case neg =>
            have HE : Hid (clE zs = 5) := by
              show clE zs = 5
              have e5 : fxnE (zs.drop 8) 2 = 5 := by rw [hev, if_neg hq]
              rw [HC.out, L.e, hdK, e5]
              exact firstE_stop (by decide)
            have hq' : (nn != 2) = true := by simp [hq]
            rw [hnn] at hg
            clear hls hdl hdK hN4 hE4 hev hnn hlen4 HS
            obtain ⟨c0, c1, c2, c3, c4, c5, c6, c7, c8, c9, c10⟩ := call_at hres
            have fz := fun k => frozen_at (k := k) hres
            go_wp2_with fail
            refine hg.mono ?_
            rintro e w' ⟨rfl, hw'⟩
            subst w'
            go_wp2
            have hcz := call_set hres (.int .u32 0) (.int .u32 0) (.int .u32 0) (.int .u32 0) (.int .u32 0) (.string ⟨#[]⟩) (.int .u32 0) (.int .u32 0) (.int .u32 0) (.slice none 0 0) (.slice none 0 0)
            have hBz := call_below (h := w.heap.size) hBW (Nat.le_refl _) (.int .u32 0) (.int .u32 0) (.int .u32 0) (.int .u32 0) (.int .u32 0) (.string ⟨#[]⟩) (.int .u32 0) (.int .u32 0) (.int .u32 0) (.slice none 0 0) (.slice none 0 0)
            generalize (((((((((((wr.setCell ⟨w.heap.size, 0, none⟩ (.int .u32 0)).setCell ⟨w.heap.size, 1, none⟩ (.int .u32 0)).setCell ⟨w.heap.size, 2, none⟩ (.int .u32 0)).setCell ⟨w.heap.size, 3, none⟩ (.int .u32 0)).setCell ⟨w.heap.size, 4, none⟩ (.int .u32 0)).setCell ⟨w.heap.size, 5, none⟩ (.string ⟨#[]⟩)).setCell ⟨w.heap.size, 6, none⟩ (.int .u32 0)).setCell ⟨w.heap.size, 7, none⟩ (.int .u32 0)).setCell ⟨w.heap.size, 8, none⟩ (.int .u32 0)).setCell ⟨w.heap.size, 9, none⟩ (.slice none 0 0)).setCell ⟨w.heap.size, 10, none⟩ (.slice none 0 0)) = wz at *
            clear c0 c1 c2 c3 c4 c5 c6 c7 c8 c9 c10 fz
            obtain ⟨c0, c1, c2, c3, c4, c5, c6, c7, c8, c9, c10⟩ := call_at hcz
            refine bodyPost_ret (v := .tuple #[.agg #[.int .u32 0, .int .u32 0, .int .u32 0, .int .u32 0, .int .u32 0, .string ⟨#[]⟩, .int .u32 0, .int .u32 0, .int .u32 0, .slice none 0 0, .slice none 0 0], .int .i64 5]) (by simp [results, Tryz.results6, go_sem, c0, c1, c2, c3, c4, c5, c6, c7, c8, c9, c10]) rfl ?_
            exact ⟨hBz, .inl ⟨by rw [HE.out]; decide, by rw [HE.out]⟩⟩
          have HL : Hid (firstE (clEs zs) = firstE ((clEs zs).drop (2 + 1))) := by show _ = _; rw [L.e, hdK, firstE_go (by rw [hev, if_pos hq])]
          clear hev
          have hq' : (nn != 2) = false := by simp [hq]
          clear hq
          rw [hnn] at hg HS
          have hown := L.own
          have hbl := L.below
          clear hls hdl hdK hN4 hE4 hnn L
          generalize numsZ 2 zs = ns at *
          go_wp2_with fail
          refine hg.mono ?_
          rintro e w' ⟨rfl, hw'⟩
          subst w'
          go_wp2_with (at_builtin; refine wpList_append_own _ rfl _ _ 25 rfl w0.heap.size 24 i0 (.int .u32 0) 1 4 Tryz.underlying25 hi hz0 hz1' hz2 rfl (by decide) _ 2 _ rfl (hown.alloc _) ⟨wr.heap.size, 0, none⟩ 1 1 [.int .u32 nn] rfl rfl (World.news_of_block (fr := (0, 0)) (heap_alloc_new wr _)) (by simp [Value.oneCell']) (by unfold maxLen; omega) (by omega) (by have := hbl.size; simp; omega) ?_; intro v1 w1 ho1 hg1 hx9; clear hx9)
          have hB1 : Below w0.heap.size w0 w1 := (hbl.alloc hbl.size _).grown hg1 (by have := hbl.size; simp; omega) (fun k e => own_low hown e)
          clear hg1
          go_roundw
          case rel => exact ⟨2 + 1, by omega, by go_num, ⟨hB1, by rw [HS.out, List.map_append]; exact ho1, HL.out, hlen4, fun h => absurd h (by omega)⟩⟩
          case measure => simp [intOf]
      · have hP : 12 ≤ len := by have := L.len; omega
        obtain ⟨a', hcut, hs', hn'⟩ := cut_nil hs0 hz hlc hn 12 hP
        have hcut' : ∀ W, (Instr.slice 22 (.slice a len cap) (some (.int .i64 12)) none none).run Tryz.prog W = .ok (.slice a' (len - 12) (cap - 12)) W := hcut
        have hdl : (zs.drop 12).length = len - 12 := by rw [List.length_drop, hz]
        have hg := refget_any a' (len - 12) (cap - 12) (zs.drop 12) wr (by omega) (by omega) hdl (byt_drop hb 12) (hs'.below L.below)
        have hdK : (clEs zs).drop 3 = getE (zs.drop 12) :: (clEs zs).drop 4 := rfl
        clear hcut hs' hn'
        by_cases hl : len - 12 < 4
        · have hls : (zs.drop 12).length < 4 := by rw [hdl]; exact hl
          have HE : Hid (clE zs = 4) := by
            show clE zs = 4
            have e4 : getE (zs.drop 12) = 4 := by rw [getE, if_pos hls]
            rw [HC.out, L.e, hdK, e4]
            exact firstE_stop (by decide)
          obtain ⟨hN4, hE4⟩ := (getNE hdl).1 hl
          rw [hN4, hE4] at hg
          clear hls hdl hdK hN4 hE4
          obtain ⟨c0, c1, c2, c3, c4, c5, c6, c7, c8, c9, c10⟩ := call_at hres
          have fz := fun k => frozen_at (k := k) hres
          go_wp2_with fail
          refine hg.mono ?_
          rintro e w' ⟨rfl, hw'⟩
          subst w'
          go_wp2
          have hcz := call_set hres (.int .u32 0) (.int .u32 0) (.int .u32 0) (.int .u32 0) (.int .u32 0) (.string ⟨#[]⟩) (.int .u32 0) (.int .u32 0) (.int .u32 0) (.slice none 0 0) (.slice none 0 0)
          have hBz := call_below (h := w.heap.size) hBW (Nat.le_refl _) (.int .u32 0) (.int .u32 0) (.int .u32 0) (.int .u32 0) (.int .u32 0) (.string ⟨#[]⟩) (.int .u32 0) (.int .u32 0) (.int .u32 0) (.slice none 0 0) (.slice none 0 0)
          generalize (((((((((((wr.setCell ⟨w.heap.size, 0, none⟩ (.int .u32 0)).setCell ⟨w.heap.size, 1, none⟩ (.int .u32 0)).setCell ⟨w.heap.size, 2, none⟩ (.int .u32 0)).setCell ⟨w.heap.size, 3, none⟩ (.int .u32 0)).setCell ⟨w.heap.size, 4, none⟩ (.int .u32 0)).setCell ⟨w.heap.size, 5, none⟩ (.string ⟨#[]⟩)).setCell ⟨w.heap.size, 6, none⟩ (.int .u32 0)).setCell ⟨w.heap.size, 7, none⟩ (.int .u32 0)).setCell ⟨w.heap.size, 8, none⟩ (.int .u32 0)).setCell ⟨w.heap.size, 9, none⟩ (.slice none 0 0)).setCell ⟨w.heap.size, 10, none⟩ (.slice none 0 0)) = wz at *
          clear c0 c1 c2 c3 c4 c5 c6 c7 c8 c9 c10 fz
          obtain ⟨c0, c1, c2, c3, c4, c5, c6, c7, c8, c9, c10⟩ := call_at hcz
          refine bodyPost_ret (v := .tuple #[.agg #[.int .u32 0, .int .u32 0, .int .u32 0, .int .u32 0, .int .u32 0, .string ⟨#[]⟩, .int .u32 0, .int .u32 0, .int .u32 0, .slice none 0 0, .slice none 0 0], .int .i64 4]) (by simp [results, Tryz.results6, go_sem, c0, c1, c2, c3, c4, c5, c6, c7, c8, c9, c10]) rfl ?_
          exact ⟨hBz, .inl ⟨by rw [HE.out]; decide, by rw [HE.out]⟩⟩
        · have hls : ¬ (zs.drop 12).length < 4 := by rw [hdl]; exact hl
          obtain ⟨hN4, hE4⟩ := (getNE hdl).2 (by omega)
          rw [hN4, hE4] at hg
          have hlen4 : 4 * (3 + 1) ≤ zs.length := by omega
          have HS : Hid (numsZ (3 + 1) zs = numsZ 3 zs ++ [be ((zs.drop 12).take 4)]) := numsZ_snoc 3 zs
          obtain ⟨nn, hnn⟩ : ∃ nn, be ((zs.drop 12).take 4) = nn := ⟨_, rfl⟩
          have hgo : getE (zs.drop 12) = 0 := by rw [getE, if_neg hls]
          have HL : Hid (firstE (clEs zs) = firstE ((clEs zs).drop (3 + 1))) := by show _ = _; rw [L.e, hdK, firstE_go hgo]
          clear hgo
          rw [hnn] at hg HS
          have hown := L.own
          have hbl := L.below
          clear hls hdl hdK hN4 hE4 hnn L
          generalize numsZ 3 zs = ns at *
          go_wp2_with fail
          refine hg.mono ?_
          rintro e w' ⟨rfl, hw'⟩
          subst w'
          go_wp2_with (at_builtin; refine wpList_append_own _ rfl _ _ 25 rfl w0.heap.size 24 i0 (.int .u32 0) 1 4 Tryz.underlying25 hi hz0 hz1' hz2 rfl (by decide) _ 3 _ rfl (hown.alloc _) ⟨wr.heap.size, 0, none⟩ 1 1 [.int .u32 nn] rfl rfl (World.news_of_block (fr := (0, 0)) (heap_alloc_new wr _)) (by simp [Value.oneCell']) (by unfold maxLen; omega) (by omega) (by have := hbl.size; simp; omega) ?_; intro v1 w1 ho1 hg1 hx9; clear hx9)
          have hB1 : Below w0.heap.size w0 w1 := (hbl.alloc hbl.size _).grown hg1 (by have := hbl.size; simp; omega) (fun k e => own_low hown e)
          clear hg1
          go_roundw
          case rel => exact ⟨3 + 1, by omega, by go_num, ⟨hB1, by rw [HS.out, List.map_append]; exact ho1, HL.out, hlen4, fun h => absurd h (by omega)⟩⟩
          case measure => simp [intOf]
      · have hP : 16 ≤ len := by have := L.len; omega
        obtain ⟨a', hcut, hs', hn'⟩ := cut_nil hs0 hz hlc hn 16 hP
        have hcut' : ∀ W, (Instr.slice 22 (.slice a len cap) (some (.int .i64 16)) none none).run Tryz.prog W = .ok (.slice a' (len - 16) (cap - 16)) W := hcut
        have hdl : (zs.drop 16).length = len - 16 := by rw [List.length_drop, hz]
        have hg := refget_any a' (len - 16) (cap - 16) (zs.drop 16) wr (by omega) (by omega) hdl (byt_drop hb 16) (hs'.below L.below)
        have hdK : (clEs zs).drop 4 = getE (zs.drop 16) :: (clEs zs).drop 5 := rfl
        clear hcut hs' hn'
        by_cases hl : len - 16 < 4
        · have hls : (zs.drop 16).length < 4 := by rw [hdl]; exact hl
          have HE : Hid (clE zs = 4) := by
            show clE zs = 4
            have e4 : getE (zs.drop 16) = 4 := by rw [getE, if_pos hls]
            rw [HC.out, L.e, hdK, e4]
            exact firstE_stop (by decide)
          obtain ⟨hN4, hE4⟩ := (getNE hdl).1 hl
          rw [hN4, hE4] at hg
          clear hls hdl hdK hN4 hE4
          obtain ⟨c0, c1, c2, c3, c4, c5, c6, c7, c8, c9, c10⟩ := call_at hres
          have fz := fun k => frozen_at (k := k) hres
          go_wp2_with fail
          refine hg.mono ?_
          rintro e w' ⟨rfl, hw'⟩
          subst w'
          go_wp2
          have hcz := call_set hres (.int .u32 0) (.int .u32 0) (.int .u32 0) (.int .u32 0) (.int .u32 0) (.string ⟨#[]⟩) (.int .u32 0) (.int .u32 0) (.int .u32 0) (.slice none 0 0) (.slice none 0 0)
          have hBz := call_below (h := w.heap.size) hBW (Nat.le_refl _) (.int .u32 0) (.int .u32 0) (.int .u32 0) (.int .u32 0) (.int .u32 0) (.string ⟨#[]⟩) (.int .u32 0) (.int .u32 0) (.int .u32 0) (.slice none 0 0) (.slice none 0 0)
          generalize (((((((((((wr.setCell ⟨w.heap.size, 0, none⟩ (.int .u32 0)).setCell ⟨w.heap.size, 1, none⟩ (.int .u32 0)).setCell ⟨w.heap.size, 2, none⟩ (.int .u32 0)).setCell ⟨w.heap.size, 3, none⟩ (.int .u32 0)).setCell ⟨w.heap.size, 4, none⟩ (.int .u32 0)).setCell ⟨w.heap.size, 5, none⟩ (.string ⟨#[]⟩)).setCell ⟨w.heap.size, 6, none⟩ (.int .u32 0)).setCell ⟨w.heap.size, 7, none⟩ (.int .u32 0)).setCell ⟨w.heap.size, 8, none⟩ (.int .u32 0)).setCell ⟨w.heap.size, 9, none⟩ (.slice none 0 0)).setCell ⟨w.heap.size, 10, none⟩ (.slice none 0 0)) = wz at *
          clear c0 c1 c2 c3 c4 c5 c6 c7 c8 c9 c10 fz
          obtain ⟨c0, c1, c2, c3, c4, c5, c6, c7, c8, c9, c10⟩ := call_at hcz
          refine bodyPost_ret (v := .tuple #[.agg #[.int .u32 0, .int .u32 0, .int .u32 0, .int .u32 0, .int .u32 0, .string ⟨#[]⟩, .int .u32 0, .int .u32 0, .int .u32 0, .slice none 0 0, .slice none 0 0], .int .i64 4]) (by simp [results, Tryz.results6, go_sem, c0, c1, c2, c3, c4, c5, c6, c7, c8, c9, c10]) rfl ?_
          exact ⟨hBz, .inl ⟨by rw [HE.out]; decide, by rw [HE.out]⟩⟩
        · have hls : ¬ (zs.drop 16).length < 4 := by rw [hdl]; exact hl
          obtain ⟨hN4, hE4⟩ := (getNE hdl).2 (by omega)
          rw [hN4, hE4] at hg
          have hlen4 : 4 * (4 + 1) ≤ zs.length := by omega
          have HS : Hid (numsZ (4 + 1) zs = numsZ 4 zs ++ [be ((zs.drop 16).take 4)]) := numsZ_snoc 4 zs
          obtain ⟨nn, hnn⟩ : ∃ nn, be ((zs.drop 16).take 4) = nn := ⟨_, rfl⟩
          have hgo : getE (zs.drop 16) = 0 := by rw [getE, if_neg hls]
          have HL : Hid (firstE (clEs zs) = firstE ((clEs zs).drop (4 + 1))) := by show _ = _; rw [L.e, hdK, firstE_go hgo]
          clear hgo
          rw [hnn] at hg HS
          have hown := L.own
          have hbl := L.below
          clear hls hdl hdK hN4 hE4 hnn L
          generalize numsZ 4 zs = ns at *
          go_wp2_with fail
          refine hg.mono ?_
          rintro e w' ⟨rfl, hw'⟩
          subst w'
          go_wp2_with (at_builtin; refine wpList_append_own _ rfl _ _ 25 rfl w0.heap.size 24 i0 (.int .u32 0) 1 4 Tryz.underlying25 hi hz0 hz1' hz2 rfl (by decide) _ 4 _ rfl (hown.alloc _) ⟨wr.heap.size, 0, none⟩ 1 1 [.int .u32 nn] rfl rfl (World.news_of_block (fr := (0, 0)) (heap_alloc_new wr _)) (by simp [Value.oneCell']) (by unfold maxLen; omega) (by omega) (by have := hbl.size; simp; omega) ?_; intro v1 w1 ho1 hg1 hx9; clear hx9)
          have hB1 : Below w0.heap.size w0 w1 := (hbl.alloc hbl.size _).grown hg1 (by have := hbl.size; simp; omega) (fun k e => own_low hown e)
          clear hg1
          go_roundw
          case rel => exact ⟨4 + 1, by omega, by go_num, ⟨hB1, by rw [HS.out, List.map_append]; exact ho1, HL.out, hlen4, fun h => absurd h (by omega)⟩⟩
          case measure => simp [intOf]
      · have hP : 20 ≤ len := by have := L.len; omega
        obtain ⟨a', hcut, hs', hn'⟩ := cut_nil hs0 hz hlc hn 20 hP
        have hcut' : ∀ W, (Instr.slice 22 (.slice a len cap) (some (.int .i64 20)) none none).run Tryz.prog W = .ok (.slice a' (len - 20) (cap - 20)) W := hcut
        have hdl : (zs.drop 20).length = len - 20 := by rw [List.length_drop, hz]
        have hg := refget_any a' (len - 20) (cap - 20) (zs.drop 20) wr (by omega) (by omega) hdl (byt_drop hb 20) (hs'.below L.below)
        have hdK : (clEs zs).drop 5 = getE (zs.drop 20) :: (clEs zs).drop 6 := rfl
        clear hcut hs' hn'
        by_cases hl : len - 20 < 4
        · have hls : (zs.drop 20).length < 4 := by rw [hdl]; exact hl
          have HE : Hid (clE zs = 4) := by
            show clE zs = 4
            have e4 : getE (zs.drop 20) = 4 := by rw [getE, if_pos hls]
            rw [HC.out, L.e, hdK, e4]
            exact firstE_stop (by decide)
          obtain ⟨hN4, hE4⟩ := (getNE hdl).1 hl
          rw [hN4, hE4] at hg
          clear hls hdl hdK hN4 hE4
          obtain ⟨c0, c1, c2, c3, c4, c5, c6, c7, c8, c9, c10⟩ := call_at hres
          have fz := fun k => frozen_at (k := k) hres
          go_wp2_with fail
          refine hg.mono ?_
          rintro e w' ⟨rfl, hw'⟩
          subst w'
          go_wp2
          have hcz := call_set hres (.int .u32 0) (.int .u32 0) (.int .u32 0) (.int .u32 0) (.int .u32 0) (.string ⟨#[]⟩) (.int .u32 0) (.int .u32 0) (.int .u32 0) (.slice none 0 0) (.slice none 0 0)
          have hBz := call_below (h := w.heap.size) hBW (Nat.le_refl _) (.int .u32 0) (.int .u32 0) (.int .u32 0) (.int .u32 0) (.int .u32 0) (.string ⟨#[]⟩) (.int .u32 0) (.int .u32 0) (.int .u32 0) (.slice none 0 0) (.slice none 0 0)
          generalize (((((((((((wr.setCell ⟨w.heap.size, 0, none⟩ (.int .u32 0)).setCell ⟨w.heap.size, 1, none⟩ (.int .u32 0)).setCell ⟨w.heap.size, 2, none⟩ (.int .u32 0)).setCell ⟨w.heap.size, 3, none⟩ (.int .u32 0)).setCell ⟨w.heap.size, 4, none⟩ (.int .u32 0)).setCell ⟨w.heap.size, 5, none⟩ (.string ⟨#[]⟩)).setCell ⟨w.heap.size, 6, none⟩ (.int .u32 0)).setCell ⟨w.heap.size, 7, none⟩ (.int .u32 0)).setCell ⟨w.heap.size, 8, none⟩ (.int .u32 0)).setCell ⟨w.heap.size, 9, none⟩ (.slice none 0 0)).setCell ⟨w.heap.size, 10, none⟩ (.slice none 0 0)) = wz at *
          clear c0 c1 c2 c3 c4 c5 c6 c7 c8 c9 c10 fz
          obtain ⟨c0, c1, c2, c3, c4, c5, c6, c7, c8, c9, c10⟩ := call_at hcz
          refine bodyPost_ret (v := .tuple #[.agg #[.int .u32 0, .int .u32 0, .int .u32 0, .int .u32 0, .int .u32 0, .string ⟨#[]⟩, .int .u32 0, .int .u32 0, .int .u32 0, .slice none 0 0, .slice none 0 0], .int .i64 4]) (by simp [results, Tryz.results6, go_sem, c0, c1, c2, c3, c4, c5, c6, c7, c8, c9, c10]) rfl ?_
          exact ⟨hBz, .inl ⟨by rw [HE.out]; decide, by rw [HE.out]⟩⟩
        · have hls : ¬ (zs.drop 20).length < 4 := by rw [hdl]; exact hl
          obtain ⟨hN4, hE4⟩ := (getNE hdl).2 (by omega)
          rw [hN4, hE4] at hg
          have hlen4 : 4 * (5 + 1) ≤ zs.length := by omega
          have HS : Hid (numsZ (5 + 1) zs = numsZ 5 zs ++ [be ((zs.drop 20).take 4)]) := numsZ_snoc 5 zs
          obtain ⟨nn, hnn⟩ : ∃ nn, be ((zs.drop 20).take 4) = nn := ⟨_, rfl⟩
          have hgo : getE (zs.drop 20) = 0 := by rw [getE, if_neg hls]
          have HL : Hid (firstE (clEs zs) = firstE ((clEs zs).drop (5 + 1))) := by show _ = _; rw [L.e, hdK, firstE_go hgo]
          clear hgo
          rw [hnn] at hg HS
          have hown := L.own
          have hbl := L.below
          clear hls hdl hdK hN4 hE4 hnn L
          generalize numsZ 5 zs = ns at *
          go_wp2_with fail
          refine hg.mono ?_
          rintro e w' ⟨rfl, hw'⟩
          subst w'
          go_wp2_with (at_builtin; refine wpList_append_own _ rfl _ _ 25 rfl w0.heap.size 24 i0 (.int .u32 0) 1 4 Tryz.underlying25 hi hz0 hz1' hz2 rfl (by decide) _ 5 _ rfl (hown.alloc _) ⟨wr.heap.size, 0, none⟩ 1 1 [.int .u32 nn] rfl rfl (World.news_of_block (fr := (0, 0)) (heap_alloc_new wr _)) (by simp [Value.oneCell']) (by unfold maxLen; omega) (by omega) (by have := hbl.size; simp; omega) ?_; intro v1 w1 ho1 hg1 hx9; clear hx9)
          have hB1 : Below w0.heap.size w0 w1 := (hbl.alloc hbl.size _).grown hg1 (by have := hbl.size; simp; omega) (fun k e => own_low hown e)
          clear hg1
          go_roundw
          case rel => exact ⟨5 + 1, by omega, by go_num, ⟨hB1, by rw [HS.out, List.map_append]; exact ho1, HL.out, hlen4, fun h => absurd h (by omega)⟩⟩
          case measure => simp [intOf]
      · have hP : 24 ≤ len := by have := L.len; omega
        obtain ⟨a', hcut, hs', hn'⟩ := cut_nil hs0 hz hlc hn 24 hP
        have hcut' : ∀ W, (Instr.slice 22 (.slice a len cap) (some (.int .i64 24)) none none).run Tryz.prog W = .ok (.slice a' (len - 24) (cap - 24)) W := hcut
        have hdl : (zs.drop 24).length = len - 24 := by rw [List.length_drop, hz]
        have hg := refget_any a' (len - 24) (cap - 24) (zs.drop 24) wr (by omega) (by omega) hdl (byt_drop hb 24) (hs'.below L.below)
        have hdK : (clEs zs).drop 6 = flvE (zs.drop 24) :: (clEs zs).drop 7 := rfl
        clear hcut hs' hn'
        by_cases hl : len - 24 < 4
        · have hls : (zs.drop 24).length < 4 := by rw [hdl]; exact hl
          have HE : Hid (clE zs = 4) := by
            show clE zs = 4
            have e4 : flvE (zs.drop 24) = 4 := by rw [flvE, if_pos hls]
            rw [HC.out, L.e, hdK, e4]
            exact firstE_stop (by decide)
          obtain ⟨hN4, hE4⟩ := (getNE hdl).1 hl
          rw [hN4, hE4] at hg
          clear hls hdl hdK hN4 hE4
          obtain ⟨c0, c1, c2, c3, c4, c5, c6, c7, c8, c9, c10⟩ := call_at hres
          have fz := fun k => frozen_at (k := k) hres
          go_wp2_with fail
          refine hg.mono ?_
          rintro e w' ⟨rfl, hw'⟩
          subst w'
          go_wp2
          have hcz := call_set hres (.int .u32 0) (.int .u32 0) (.int .u32 0) (.int .u32 0) (.int .u32 0) (.string ⟨#[]⟩) (.int .u32 0) (.int .u32 0) (.int .u32 0) (.slice none 0 0) (.slice none 0 0)
          have hBz := call_below (h := w.heap.size) hBW (Nat.le_refl _) (.int .u32 0) (.int .u32 0) (.int .u32 0) (.int .u32 0) (.int .u32 0) (.string ⟨#[]⟩) (.int .u32 0) (.int .u32 0) (.int .u32 0) (.slice none 0 0) (.slice none 0 0)
          generalize (((((((((((wr.setCell ⟨w.heap.size, 0, none⟩ (.int .u32 0)).setCell ⟨w.heap.size, 1, none⟩ (.int .u32 0)).setCell ⟨w.heap.size, 2, none⟩ (.int .u32 0)).setCell ⟨w.heap.size, 3, none⟩ (.int .u32 0)).setCell ⟨w.heap.size, 4, none⟩ (.int .u32 0)).setCell ⟨w.heap.size, 5, none⟩ (.string ⟨#[]⟩)).setCell ⟨w.heap.size, 6, none⟩ (.int .u32 0)).setCell ⟨w.heap.size, 7, none⟩ (.int .u32 0)).setCell ⟨w.heap.size, 8, none⟩ (.int .u32 0)).setCell ⟨w.heap.size, 9, none⟩ (.slice none 0 0)).setCell ⟨w.heap.size, 10, none⟩ (.slice none 0 0)) = wz at *
          clear c0 c1 c2 c3 c4 c5 c6 c7 c8 c9 c10 fz
          obtain ⟨c0, c1, c2, c3, c4, c5, c6, c7, c8, c9, c10⟩ := call_at hcz
          refine bodyPost_ret (v := .tuple #[.agg #[.int .u32 0, .int .u32 0, .int .u32 0, .int .u32 0, .int .u32 0, .string ⟨#[]⟩, .int .u32 0, .int .u32 0, .int .u32 0, .slice none 0 0, .slice none 0 0], .int .i64 4]) (by simp [results, Tryz.results6, go_sem, c0, c1, c2, c3, c4, c5, c6, c7, c8, c9, c10]) rfl ?_
          exact ⟨hBz, .inl ⟨by rw [HE.out]; decide, by rw [HE.out]⟩⟩
        · have hls : ¬ (zs.drop 24).length < 4 := by rw [hdl]; exact hl
          obtain ⟨hN4, hE4⟩ := (getNE hdl).2 (by omega)
          rw [hN4, hE4] at hg
          have hlen4 : 4 * (6 + 1) ≤ zs.length := by omega
          have HS : Hid (numsZ (6 + 1) zs = numsZ 6 zs ++ [be ((zs.drop 24).take 4)]) := numsZ_snoc 6 zs
          obtain ⟨nn, hnn⟩ : ∃ nn, be ((zs.drop 24).take 4) = nn := ⟨_, rfl⟩
          have hev : flvE (zs.drop 24) = if 1 < nn then 5 else 0 := by rw [flvE, if_neg hls, hnn]
          by_cases hq : nn ≤ 1
          case neg =>
            have HE : Hid (clE zs = 5) := by
              show clE zs = 5
              have e5 : flvE (zs.drop 24) = 5 := by rw [hev, if_pos (by omega)]
              rw [HC.out, L.e, hdK, e5]
              exact firstE_stop (by decide)
            have hq' : 1 < nn := by omega
            rw [hnn] at hg
            clear hls hdl hdK hN4 hE4 hev hnn hlen4 HS
            obtain ⟨c0, c1, c2, c3, c4, c5, c6, c7, c8, c9, c10⟩ := call_at hres
            have fz := fun k => frozen_at (k := k) hres
            go_wp2_with fail
            refine hg.mono ?_
            rintro e w' ⟨rfl, hw'⟩
            subst w'
            go_wp2
            have hcz := call_set hres (.int .u32 0) (.int .u32 0) (.int .u32 0) (.int .u32 0) (.int .u32 0) (.string ⟨#[]⟩) (.int .u32 0) (.int .u32 0) (.int .u32 0) (.slice none 0 0) (.slice none 0 0)
            have hBz := call_below (h := w.heap.size) hBW (Nat.le_refl _) (.int .u32 0) (.int .u32 0) (.int .u32 0) (.int .u32 0) (.int .u32 0) (.string ⟨#[]⟩) (.int .u32 0) (.int .u32 0) (.int .u32 0) (.slice none 0 0) (.slice none 0 0)
            generalize (((((((((((wr.setCell ⟨w.heap.size, 0, none⟩ (.int .u32 0)).setCell ⟨w.heap.size, 1, none⟩ (.int .u32 0)).setCell ⟨w.heap.size, 2, none⟩ (.int .u32 0)).setCell ⟨w.heap.size, 3, none⟩ (.int .u32 0)).setCell ⟨w.heap.size, 4, none⟩ (.int .u32 0)).setCell ⟨w.heap.size, 5, none⟩ (.string ⟨#[]⟩)).setCell ⟨w.heap.size, 6, none⟩ (.int .u32 0)).setCell ⟨w.heap.size, 7, none⟩ (.int .u32 0)).setCell ⟨w.heap.size, 8, none⟩ (.int .u32 0)).setCell ⟨w.heap.size, 9, none⟩ (.slice none 0 0)).setCell ⟨w.heap.size, 10, none⟩ (.slice none 0 0)) = wz at *
            clear c0 c1 c2 c3 c4 c5 c6 c7 c8 c9 c10 fz
            obtain ⟨c0, c1, c2, c3, c4, c5, c6, c7, c8, c9, c10⟩ := call_at hcz
            refine bodyPost_ret (v := .tuple #[.agg #[.int .u32 0, .int .u32 0, .int .u32 0, .int .u32 0, .int .u32 0, .string ⟨#[]⟩, .int .u32 0, .int .u32 0, .int .u32 0, .slice none 0 0, .slice none 0 0], .int .i64 5]) (by simp [results, Tryz.results6, go_sem, c0, c1, c2, c3, c4, c5, c6, c7, c8, c9, c10]) rfl ?_
            exact ⟨hBz, .inl ⟨by rw [HE.out]; decide, by rw [HE.out]⟩⟩
          have HL : Hid (firstE (clEs zs) = firstE ((clEs zs).drop (6 + 1))) := by show _ = _; rw [L.e, hdK, firstE_go (by rw [hev, if_neg (by omega)])]
          clear hev
          have HF1 : Hid (clF zs ≤ 1) := by show clF zs ≤ 1; rw [show clF zs = nn from hnn]; exact hq
          rw [hnn] at hg HS
          have hown := L.own
          have hbl := L.below
          clear hls hdl hdK hN4 hE4 hnn L
          generalize numsZ 6 zs = ns at *
          go_wp2_with fail
          refine hg.mono ?_
          rintro e w' ⟨rfl, hw'⟩
          subst w'
          go_wp2_with (at_builtin; refine wpList_append_own _ rfl _ _ 25 rfl w0.heap.size 24 i0 (.int .u32 0) 1 4 Tryz.underlying25 hi hz0 hz1' hz2 rfl (by decide) _ 6 _ rfl (hown.alloc _) ⟨wr.heap.size, 0, none⟩ 1 1 [.int .u32 nn] rfl rfl (World.news_of_block (fr := (0, 0)) (heap_alloc_new wr _)) (by simp [Value.oneCell']) (by unfold maxLen; omega) (by omega) (by have := hbl.size; simp; omega) ?_; intro v1 w1 ho1 hg1 hx9; clear hx9)
          have hB1 : Below w0.heap.size w0 w1 := (hbl.alloc hbl.size _).grown hg1 (by have := hbl.size; simp; omega) (fun k e => own_low hown e)
          clear hg1
          go_roundw
          case rel => exact ⟨6 + 1, by omega, by go_num, ⟨hB1, by rw [HS.out, List.map_append]; exact ho1, HL.out, hlen4, fun _ => HF1.out⟩⟩
          case measure => simp [intOf]
    · obtain rfl : k = 7 := by omega
      clear hk hlt7
      obtain ⟨gL, cL, rfl, hcL, hcL', hgL⟩ := own_shape L.own (by omega)
      have q : ∀ j, j < 7 → wr.cell? ⟨gL, j, none⟩ = some (.int .u32 (be ((zs.drop (4 * j)).take 4))) := fun j hj => (L.own.cellAt j (by omega)).trans (by rw [List.getElem?_map, List.getElem?_eq_getElem (by rw [numsZ_len]; omega), numsZ_get 7 j zs hj]; rfl)
      have q0 : wr.cell? ⟨gL, 0, none⟩ = some (.int .u32 (clX zs)) := q 0 (by omega)
      have q3 : wr.cell? ⟨gL, 3, none⟩ = some (.int .u32 (clP zs)) := q 3 (by omega)
      have q4 : wr.cell? ⟨gL, 4, none⟩ = some (.int .u32 (clV zs)) := q 4 (by omega)
      have q5 : wr.cell? ⟨gL, 5, none⟩ = some (.int .u32 (clC zs)) := q 5 (by omega)
      have q6 : wr.cell? ⟨gL, 6, none⟩ = some (.int .u32 (clF zs)) := q 6 (by omega)
      have hl28 : 28 ≤ len := by have := L.len; omega
      obtain ⟨a1, hcut1, s1, hn1⟩ := cut_nil hs0 hz hlc hn 28 hl28
      have hcut1' : ∀ W, (Instr.slice 22 (.slice a len cap) (some (.int .i64 28)) none none).run Tryz.prog W = .ok (.slice a1 (len - 28) (cap - 28)) W := hcut1
      have hLe := L.e
      have hF1 : clF zs ≤ 1 := L.f (by omega)
      have hF0 : 0 ≤ clF zs := (be_range (byt_drop hb 24) (by rw [List.length_drop]; omega)).1
      have hHl : (clH zs).length = len - 28 := by show (zs.drop 28).length = _; rw [List.length_drop, hz]
      have hHb : Byt (clH zs) := byt_drop hb 28
      have s1' : Seg w0 a1 (clH zs) := s1
      have hwhoE : whoE (clH zs) (clF zs) = if clF zs = 0 then notE (clH zs) else if opE (clH zs) 400 = 0 then crE (opZ (clH zs) 400) else opE (clH zs) 400 := rfl
      have hd7 : (clEs zs).drop 7 = whoE (clH zs) (clF zs) :: (clEs zs).drop 8 := rfl
      rw [hd7] at hLe
      clear hd7
      have hbl := L.below
      clear q hcut1 L
      generalize hX : clX zs = X at *
      generalize hP : clP zs = P at *
      generalize hV : clV zs = V at *
      generalize hCC : clC zs = C at *
      generalize hFF : clF zs = FF at *
      have HF : Hid (clX zs = X ∧ clP zs = P ∧ clV zs = V ∧ clC zs = C ∧ clF zs = FF) := ⟨hX, hP, hV, hCC, hFF⟩
      clear hX hP hV hCC hFF
      go_wp2_with fail
      have m0 := World.new_ne wr ⟨gL, 0, none⟩ q0
      have m3 := World.new_ne wr ⟨gL, 3, none⟩ q3
      have m4 := World.new_ne wr ⟨gL, 4, none⟩ q4
      have m5 := World.new_ne wr ⟨gL, 5, none⟩ q5
      have m6 := World.new_ne wr ⟨gL, 6, none⟩ q6
      have S0 : wr.drew.cell? ⟨gL, 0, none⟩ = some (.int .u32 X) ∧ wr.drew.cell? ⟨gL, 3, none⟩ = some (.int .u32 P) ∧ wr.drew.cell? ⟨gL, 4, none⟩ = some (.int .u32 V) ∧ wr.drew.cell? ⟨gL, 5, none⟩ = some (.int .u32 C) ∧ wr.drew.cell? ⟨gL, 6, none⟩ = some (.int .u32 FF) := ⟨q0, q3, q4, q5, q6⟩
      go_region_held3 (fun w' => w'.cell? ⟨gL, 0, none⟩ = some (.int .u32 X) ∧ w'.cell? ⟨gL, 3, none⟩ = some (.int .u32 P) ∧ w'.cell? ⟨gL, 4, none⟩ = some (.int .u32 V) ∧ w'.cell? ⟨gL, 5, none⟩ = some (.int .u32 C) ∧ w'.cell? ⟨gL, 6, none⟩ = some (.int .u32 FF)) (first | with_reducible assumption | go_keep) (fail)
      have hb1 : Below w0.heap.size w0 (wr.alloc (.cells #[.int .u32 X, .int .u32 P, .int .u32 V, .int .u32 C, .int .u32 FF, .string ⟨#[]⟩, .int .u32 0, .int .u32 0, .int .u32 0, .slice none 0 0, .slice none 0 0] 29)).drew := (hbl.alloc hbl.size _).drew
      have hcC : (wr.alloc (.cells #[.int .u32 X, .int .u32 P, .int .u32 V, .int .u32 C, .int .u32 FF, .string ⟨#[]⟩, .int .u32 0, .int .u32 0, .int .u32 0, .slice none 0 0, .slice none 0 0] 29)).drew.heap[wr.heap.size]? = some (.cells #[.int .u32 X, .int .u32 P, .int .u32 V, .int .u32 C, .int .u32 FF, .string ⟨#[]⟩, .int .u32 0, .int .u32 0, .int .u32 0, .slice none 0 0, .slice none 0 0] 29) := heap_alloc_new wr _
      have hw0r := hbl.size
      generalize (wr.alloc (.cells #[.int .u32 X, .int .u32 P, .int .u32 V, .int .u32 C, .int .u32 FF, .string ⟨#[]⟩, .int .u32 0, .int .u32 0, .int .u32 0, .slice none 0 0, .slice none 0 0] 29)).drew = w1 at *
      generalize wr.heap.size = HB at *
      clear m0 m3 m4 m5 m6 S0 q0 q3 q4 q5 q6 hbl hres hBW s1
      generalize hHH : clH zs = H at *
      have HH : Hid (clH zs = H) := hHH
      clear hHH
      go_wp2_with fail
      refine (refgetopq_any a1 (len - 28) (cap - 28) 400 H w1 (by omega) (by omega) (by omega) hHl hHb (s1'.below hb1) (by decide) (by decide)).mono ?_
      rintro e w2 ⟨vw, rfl, how, hbw⟩
      have hb2 := hb1.trans (hbw.mono hb1.size)
      have hcC2 := (hbw.block _ (Array.getElem?_eq_some_iff.1 hcC).1).trans hcC
      have hres := (hb2.block _ hlt).trans hh0
      have hBW := hB0.trans (hb2.mono hB0.size)
      clear hb1 hcC
      by_cases hoe : opE H 400 = 0
      case neg =>
        have HE : Hid (clE zs = opE H 400) := by
          show clE zs = _
          have e1 : whoE H FF = opE H 400 := by
            rw [hwhoE, notE, if_neg hoe, if_neg hoe]
            split <;> rfl
          rw [HC.out, hLe, e1]
          exact firstE_stop hoe
        have HN : Hid (opE H 400 ≠ 0) := hoe
        have hx2 : (opE H 400 != 0) = true := by simp [hoe]
        clear hLe hwhoE hoe how
        generalize opE H 400 = oe at *
        obtain ⟨c0, c1, c2, c3, c4, c5, c6, c7, c8, c9, c10⟩ := call_at hres
        have fz := fun k => frozen_at (k := k) hres
        go_wp2
        have hcz := call_set hres (.int .u32 0) (.int .u32 0) (.int .u32 0) (.int .u32 0) (.int .u32 0) (.string ⟨#[]⟩) (.int .u32 0) (.int .u32 0) (.int .u32 0) (.slice none 0 0) (.slice none 0 0)
        have hBz := call_below (h := w.heap.size) hBW (Nat.le_refl _) (.int .u32 0) (.int .u32 0) (.int .u32 0) (.int .u32 0) (.int .u32 0) (.string ⟨#[]⟩) (.int .u32 0) (.int .u32 0) (.int .u32 0) (.slice none 0 0) (.slice none 0 0)
        generalize (((((((((((w2.setCell ⟨w.heap.size, 0, none⟩ (.int .u32 0)).setCell ⟨w.heap.size, 1, none⟩ (.int .u32 0)).setCell ⟨w.heap.size, 2, none⟩ (.int .u32 0)).setCell ⟨w.heap.size, 3, none⟩ (.int .u32 0)).setCell ⟨w.heap.size, 4, none⟩ (.int .u32 0)).setCell ⟨w.heap.size, 5, none⟩ (.string ⟨#[]⟩)).setCell ⟨w.heap.size, 6, none⟩ (.int .u32 0)).setCell ⟨w.heap.size, 7, none⟩ (.int .u32 0)).setCell ⟨w.heap.size, 8, none⟩ (.int .u32 0)).setCell ⟨w.heap.size, 9, none⟩ (.slice none 0 0)).setCell ⟨w.heap.size, 10, none⟩ (.slice none 0 0)) = wz at *
        clear c0 c1 c2 c3 c4 c5 c6 c7 c8 c9 c10 fz
        obtain ⟨c0, c1, c2, c3, c4, c5, c6, c7, c8, c9, c10⟩ := call_at hcz
        refine bodyPost_ret (v := .tuple #[.agg #[.int .u32 0, .int .u32 0, .int .u32 0, .int .u32 0, .int .u32 0, .string ⟨#[]⟩, .int .u32 0, .int .u32 0, .int .u32 0, .slice none 0 0, .slice none 0 0], .int .i64 oe]) (by simp [results, Tryz.results6, go_sem, c0, c1, c2, c3, c4, c5, c6, c7, c8, c9, c10]) rfl ?_
        exact ⟨hBz, .inl ⟨by rw [HE.out]; exact HN.out, by rw [HE.out]⟩⟩
      rw [hoe]
      have hol : opL H 400 ≤ len - 28 := by rw [← hHl]; exact (op_again hHb hoe).2.1
      have hw4 : (opZ H 400).length ≤ 400 := by have := (op_again hHb hoe).2.2.1; omega
      have hzb : Byt (opZ H 400) := byt_opZ hHb
      obtain ⟨a2, hcut2, s2, hn2⟩ := cut_nil s1' hHl (by omega) hn1 (opL H 400) hol
      have hRR : H.drop (opL H 400) = clR zs := by rw [← HH.out]; rfl
      have HW : Hid (clW zs = opZ H 400) := by show clW zs = _; rw [← HH.out]; rfl
      have hRl : (clR zs).length = len - 28 - opL H 400 := by rw [← hRR, List.length_drop, hHl]
      have hRb : Byt (clR zs) := by rw [← hRR]; exact byt_drop hHb _
      rw [hRR] at s2
      obtain ⟨aw, cw, rfl, sw, hlw, hmw, hnw⟩ := own_val how rfl
      have hwE0 : whoE H FF = if FF = 0 then (if opZ H 400 = [] then 0 else 5) else crE (opZ H 400) := by rw [hwhoE, notE, if_pos hoe, if_pos hoe]
      clear hRR how hwhoE hoe hHl hHb s1' hn1
      generalize opL H 400 = ol at *
      generalize opZ H 400 = oz at *
      generalize hzl : oz.length = ozl at *
      obtain ⟨R, hR⟩ : ∃ R, clR zs = R := ⟨_, rfl⟩
      have HR : Hid (clR zs = R) := hR
      rw [hR] at s2 hRl hRb
      clear hR
      generalize hL2 : len - 28 - ol = L2 at *
      generalize hC2 : cap - 28 - ol = C2 at *
      have hLC2 : L2 ≤ C2 := by omega
      have hL2s : L2 ≤ 65536 := by omega
      have hC2s : C2 ≤ 9223372036854775807 := by omega
      clear hL2 hC2
      have hFc : FF = 0 ∨ FF = 1 := by omega
      rcases hFc with hF | hF
      · have HF0 : Hid (FF = 0) := hF
        subst hF
        rw [if_pos rfl] at hwE0
        by_cases hoz : oz = []
        case neg =>
          have HE : Hid (clE zs = 5) := by
            show clE zs = 5
            rw [HC.out, hLe, hwE0, if_neg hoz]
            exact firstE_stop (by decide)
          have hpos : (0 : Int) < ozl := by have := List.length_pos_iff.2 hoz; omega
          clear hLe hwE0 hoz
          obtain ⟨d0, d1, d2, d3, d4, d5, d6, d7, d8, d9, d10⟩ := call_at hcC2
          obtain ⟨c0, c1, c2, c3, c4, c5, c6, c7, c8, c9, c10⟩ := call_at hres
          have fz := fun k => frozen_at (k := k) hres
          go_wp2
          have hcz := call_set hres (.int .u32 0) (.int .u32 0) (.int .u32 0) (.int .u32 0) (.int .u32 0) (.string ⟨#[]⟩) (.int .u32 0) (.int .u32 0) (.int .u32 0) (.slice none 0 0) (.slice none 0 0)
          have hBz := call_below (h := w.heap.size) hBW (Nat.le_refl _) (.int .u32 0) (.int .u32 0) (.int .u32 0) (.int .u32 0) (.int .u32 0) (.string ⟨#[]⟩) (.int .u32 0) (.int .u32 0) (.int .u32 0) (.slice none 0 0) (.slice none 0 0)
          generalize (((((((((((w2.setCell ⟨w.heap.size, 0, none⟩ (.int .u32 0)).setCell ⟨w.heap.size, 1, none⟩ (.int .u32 0)).setCell ⟨w.heap.size, 2, none⟩ (.int .u32 0)).setCell ⟨w.heap.size, 3, none⟩ (.int .u32 0)).setCell ⟨w.heap.size, 4, none⟩ (.int .u32 0)).setCell ⟨w.heap.size, 5, none⟩ (.string ⟨#[]⟩)).setCell ⟨w.heap.size, 6, none⟩ (.int .u32 0)).setCell ⟨w.heap.size, 7, none⟩ (.int .u32 0)).setCell ⟨w.heap.size, 8, none⟩ (.int .u32 0)).setCell ⟨w.heap.size, 9, none⟩ (.slice none 0 0)).setCell ⟨w.heap.size, 10, none⟩ (.slice none 0 0)) = wz at *
          clear c0 c1 c2 c3 c4 c5 c6 c7 c8 c9 c10 fz
          obtain ⟨c0, c1, c2, c3, c4, c5, c6, c7, c8, c9, c10⟩ := call_at hcz
          refine bodyPost_ret (v := .tuple #[.agg #[.int .u32 0, .int .u32 0, .int .u32 0, .int .u32 0, .int .u32 0, .string ⟨#[]⟩, .int .u32 0, .int .u32 0, .int .u32 0, .slice none 0 0, .slice none 0 0], .int .i64 5]) (by simp [results, Tryz.results6, go_sem, c0, c1, c2, c3, c4, c5, c6, c7, c8, c9, c10]) rfl ?_
          exact ⟨hBz, .inl ⟨by rw [HE.out]; decide, by rw [HE.out]⟩⟩
        have h8 : firstE (clEs zs) = firstE ((clEs zs).drop 8) := by rw [hLe, firstE_go (by rw [hwE0, if_pos hoz])]
        have hozl : ozl = 0 := by rw [← hzl, hoz]; rfl
        subst hozl
        clear hLe hwE0
        obtain ⟨d0, d1, d2, d3, d4, d5, d6, d7, d8, d9, d10⟩ := call_at hcC2
        go_wp2_with fail
        have hogW : w2.ownsRow w0.heap.size 24 1 (.slice none 0 0) 0 (([] : List Int).map (Value.int .u32)) := World.ownsRow_nil _ _ _ _
        have HV : Hid (strOfNums (clM zs) = ⟨#[]⟩ ∧ clS zs = 0 ∧ clU zs = 0 ∧ clG zs = 0 ∧ clL zs = []) := by
          have hf := HF.out.2.2.2.2
          exact ⟨by rw [clM, if_pos hf]; rfl, by rw [clS, if_pos hf], by rw [clU, if_pos hf], by rw [clG, if_pos hf], by rw [clL, if_pos hf]⟩
        clear d0 d1 d2 d3 d4 d5 d6 d7 d8 d9 d10 hres hBW
        have hresW := (hb2.block _ hlt).trans hh0
        have hBWW := hB0.trans (hb2.mono hB0.size)
        have hg := refget_any a2 L2 C2 R w2 hLC2 hC2s hRl hRb (s2.below hb2)
        have hd8 : (clEs zs).drop 8 = fxnE (clR zs) 0 :: (clEs zs).drop 9 := rfl
        rw [hd8, HR.out] at h8
        by_cases hl4 : L2 < 4
        · have HE : Hid (clE zs = 4) := by
            show clE zs = 4
            have e4 : fxnE R 0 = 4 := by rw [fxnE, if_pos (by omega)]
            rw [HC.out, h8, e4]
            exact firstE_stop (by decide)
          obtain ⟨hN4, hE4⟩ := (getNE hRl).1 hl4
          rw [hN4, hE4] at hg
          clear h8 hd8 hN4 hE4
          refine hg.mono ?_
          rintro e w' ⟨rfl, hw'⟩
          subst w'
          obtain ⟨c0, c1, c2, c3, c4, c5, c6, c7, c8, c9, c10⟩ := call_at hresW
          have fz := fun k => frozen_at (k := k) hresW
          go_wp2
          have hcz := call_set hresW (.int .u32 0) (.int .u32 0) (.int .u32 0) (.int .u32 0) (.int .u32 0) (.string ⟨#[]⟩) (.int .u32 0) (.int .u32 0) (.int .u32 0) (.slice none 0 0) (.slice none 0 0)
          have hBz := call_below (h := w.heap.size) hBWW (Nat.le_refl _) (.int .u32 0) (.int .u32 0) (.int .u32 0) (.int .u32 0) (.int .u32 0) (.string ⟨#[]⟩) (.int .u32 0) (.int .u32 0) (.int .u32 0) (.slice none 0 0) (.slice none 0 0)
          generalize (((((((((((w2.setCell ⟨w.heap.size, 0, none⟩ (.int .u32 0)).setCell ⟨w.heap.size, 1, none⟩ (.int .u32 0)).setCell ⟨w.heap.size, 2, none⟩ (.int .u32 0)).setCell ⟨w.heap.size, 3, none⟩ (.int .u32 0)).setCell ⟨w.heap.size, 4, none⟩ (.int .u32 0)).setCell ⟨w.heap.size, 5, none⟩ (.string ⟨#[]⟩)).setCell ⟨w.heap.size, 6, none⟩ (.int .u32 0)).setCell ⟨w.heap.size, 7, none⟩ (.int .u32 0)).setCell ⟨w.heap.size, 8, none⟩ (.int .u32 0)).setCell ⟨w.heap.size, 9, none⟩ (.slice none 0 0)).setCell ⟨w.heap.size, 10, none⟩ (.slice none 0 0)) = wz at *
          clear c0 c1 c2 c3 c4 c5 c6 c7 c8 c9 c10 fz
          obtain ⟨c0, c1, c2, c3, c4, c5, c6, c7, c8, c9, c10⟩ := call_at hcz
          refine bodyPost_ret (v := .tuple #[.agg #[.int .u32 0, .int .u32 0, .int .u32 0, .int .u32 0, .int .u32 0, .string ⟨#[]⟩, .int .u32 0, .int .u32 0, .int .u32 0, .slice none 0 0, .slice none 0 0], .int .i64 4]) (by simp [results, Tryz.results6, go_sem, c0, c1, c2, c3, c4, c5, c6, c7, c8, c9, c10]) rfl ?_
          exact ⟨hBz, .inl ⟨by rw [HE.out]; decide, by rw [HE.out]⟩⟩
        obtain ⟨hN4, hE4⟩ := (getNE hRl).2 (by omega)
        rw [hN4, hE4] at hg
        have hev : fxnE R 0 = if be (R.take 4) = 0 then 0 else 5 := by rw [fxnE, if_neg (by omega)]
        generalize be (R.take 4) = fl at *
        clear hN4 hE4 hd8
        by_cases hfl : fl = 0
        case neg =>
          have HE : Hid (clE zs = 5) := by
            show clE zs = 5
            rw [HC.out, h8, hev, if_neg hfl]
            exact firstE_stop (by decide)
          have hfl' : (fl != 0) = true := by simp [hfl]
          clear h8 hev hfl
          refine hg.mono ?_
          rintro e w' ⟨rfl, hw'⟩
          subst w'
          obtain ⟨c0, c1, c2, c3, c4, c5, c6, c7, c8, c9, c10⟩ := call_at hresW
          have fz := fun k => frozen_at (k := k) hresW
          go_wp2
          have hcz := call_set hresW (.int .u32 0) (.int .u32 0) (.int .u32 0) (.int .u32 0) (.int .u32 0) (.string ⟨#[]⟩) (.int .u32 0) (.int .u32 0) (.int .u32 0) (.slice none 0 0) (.slice none 0 0)
          have hBz := call_below (h := w.heap.size) hBWW (Nat.le_refl _) (.int .u32 0) (.int .u32 0) (.int .u32 0) (.int .u32 0) (.int .u32 0) (.string ⟨#[]⟩) (.int .u32 0) (.int .u32 0) (.int .u32 0) (.slice none 0 0) (.slice none 0 0)
          generalize (((((((((((w2.setCell ⟨w.heap.size, 0, none⟩ (.int .u32 0)).setCell ⟨w.heap.size, 1, none⟩ (.int .u32 0)).setCell ⟨w.heap.size, 2, none⟩ (.int .u32 0)).setCell ⟨w.heap.size, 3, none⟩ (.int .u32 0)).setCell ⟨w.heap.size, 4, none⟩ (.int .u32 0)).setCell ⟨w.heap.size, 5, none⟩ (.string ⟨#[]⟩)).setCell ⟨w.heap.size, 6, none⟩ (.int .u32 0)).setCell ⟨w.heap.size, 7, none⟩ (.int .u32 0)).setCell ⟨w.heap.size, 8, none⟩ (.int .u32 0)).setCell ⟨w.heap.size, 9, none⟩ (.slice none 0 0)).setCell ⟨w.heap.size, 10, none⟩ (.slice none 0 0)) = wz at *
          clear c0 c1 c2 c3 c4 c5 c6 c7 c8 c9 c10 fz
          obtain ⟨c0, c1, c2, c3, c4, c5, c6, c7, c8, c9, c10⟩ := call_at hcz
          refine bodyPost_ret (v := .tuple #[.agg #[.int .u32 0, .int .u32 0, .int .u32 0, .int .u32 0, .int .u32 0, .string ⟨#[]⟩, .int .u32 0, .int .u32 0, .int .u32 0, .slice none 0 0, .slice none 0 0], .int .i64 5]) (by simp [results, Tryz.results6, go_sem, c0, c1, c2, c3, c4, c5, c6, c7, c8, c9, c10]) rfl ?_
          exact ⟨hBz, .inl ⟨by rw [HE.out]; decide, by rw [HE.out]⟩⟩
        subst hfl
        have hd9 : (clEs zs).drop 9 = notE (clN zs) :: (clEs zs).drop 10 := rfl
        have h9 : firstE (clEs zs) = firstE (notE (clN zs) :: (clEs zs).drop 10) := by rw [h8, firstE_go (by rw [hev, if_pos rfl]), hd9]
        have hNN : clN zs = R.drop 4 := by rw [← HR.out]; rfl
        have hNl : (clN zs).length = L2 - 4 := by rw [hNN, List.length_drop, hRl]
        have hNb : Byt (clN zs) := by rw [hNN]; exact byt_drop hRb 4
        obtain ⟨a3, hcut3, s3, hn3⟩ := cut_nil s2 hRl hLC2 hn2 4 (by omega)
        have hcut3' : ∀ W, (Instr.slice 22 (.slice a2 L2 C2) (some (.int .i64 4)) none none).run Tryz.prog W = .ok (.slice a3 (L2 - 4) (C2 - 4)) W := hcut3
        rw [← hNN] at s3
        have HBB : Hid (∀ k, (clN zs).drop k = R.drop (4 + k)) := fun k => by rw [hNN, List.drop_drop]
        have HCB : Hid (clB zs = (clN zs).drop (opL (clN zs) 400)) := rfl
        generalize clN zs = N at *
        clear h8 hev hd9 hNN hcut3
        refine hg.mono ?_
        rintro e w' ⟨rfl, hw'⟩
        subst w'
        clear hg
        go_wp2_with fail
        refine (refgetopq_any a3 (L2 - 4) (C2 - 4) 400 N w2 (by omega) (by omega) (by omega) hNl hNb (s3.below hb2) (by decide) (by decide)).mono ?_
        rintro e w6 ⟨vv, rfl, hov, hbv⟩
        have hb6 := hb2.trans (hbv.mono hb2.size)
        have hcC6 := (hbv.block _ (Array.getElem?_eq_some_iff.1 hcC2).1).trans hcC2
        have hres6 := (hb6.block _ hlt).trans hh0
        have hBW6 := hB0.trans (hb6.mono hB0.size)
        have hog6 := own_below hogW hbv
        clear hresW hBWW
        by_cases hoe2 : opE N 400 = 0
        case neg =>
          have HE : Hid (clE zs = opE N 400) := by
            show clE zs = _
            rw [HC.out, h9, notE, if_neg hoe2]
            exact firstE_stop hoe2
          have HN : Hid (opE N 400 ≠ 0) := hoe2
          have hx2 : (opE N 400 != 0) = true := by simp [hoe2]
          clear h9 hoe2 hov
          generalize opE N 400 = oe at *
          obtain ⟨c0, c1, c2, c3, c4, c5, c6, c7, c8, c9, c10⟩ := call_at hres6
          have fz := fun k => frozen_at (k := k) hres6
          go_wp2
          have hcz := call_set hres6 (.int .u32 0) (.int .u32 0) (.int .u32 0) (.int .u32 0) (.int .u32 0) (.string ⟨#[]⟩) (.int .u32 0) (.int .u32 0) (.int .u32 0) (.slice none 0 0) (.slice none 0 0)
          have hBz := call_below (h := w.heap.size) hBW6 (Nat.le_refl _) (.int .u32 0) (.int .u32 0) (.int .u32 0) (.int .u32 0) (.int .u32 0) (.string ⟨#[]⟩) (.int .u32 0) (.int .u32 0) (.int .u32 0) (.slice none 0 0) (.slice none 0 0)
          generalize (((((((((((w6.setCell ⟨w.heap.size, 0, none⟩ (.int .u32 0)).setCell ⟨w.heap.size, 1, none⟩ (.int .u32 0)).setCell ⟨w.heap.size, 2, none⟩ (.int .u32 0)).setCell ⟨w.heap.size, 3, none⟩ (.int .u32 0)).setCell ⟨w.heap.size, 4, none⟩ (.int .u32 0)).setCell ⟨w.heap.size, 5, none⟩ (.string ⟨#[]⟩)).setCell ⟨w.heap.size, 6, none⟩ (.int .u32 0)).setCell ⟨w.heap.size, 7, none⟩ (.int .u32 0)).setCell ⟨w.heap.size, 8, none⟩ (.int .u32 0)).setCell ⟨w.heap.size, 9, none⟩ (.slice none 0 0)).setCell ⟨w.heap.size, 10, none⟩ (.slice none 0 0)) = wz at *
          clear c0 c1 c2 c3 c4 c5 c6 c7 c8 c9 c10 fz
          obtain ⟨c0, c1, c2, c3, c4, c5, c6, c7, c8, c9, c10⟩ := call_at hcz
          refine bodyPost_ret (v := .tuple #[.agg #[.int .u32 0, .int .u32 0, .int .u32 0, .int .u32 0, .int .u32 0, .string ⟨#[]⟩, .int .u32 0, .int .u32 0, .int .u32 0, .slice none 0 0, .slice none 0 0], .int .i64 oe]) (by simp [results, Tryz.results6, go_sem, c0, c1, c2, c3, c4, c5, c6, c7, c8, c9, c10]) rfl ?_
          exact ⟨hBz, .inl ⟨by rw [HE.out]; exact HN.out, by rw [HE.out]⟩⟩
        rw [hoe2]
        obtain ⟨av, cv, rfl, _, hlv, hmv, _⟩ := own_val hov rfl
        have hol2 : opL N 400 ≤ L2 - 4 := by rw [← hNl]; exact (op_again hNb hoe2).2.1
        have hv4 : (opZ N 400).length ≤ 400 := by have := (op_again hNb hoe2).2.2.1; omega
        have hnv : notE N = if opZ N 400 = [] then 0 else 5 := by rw [notE, if_pos hoe2]
        clear hov hoe2
        by_cases hoz2 : opZ N 400 = []
        case neg =>
          have HE : Hid (clE zs = 5) := by
            show clE zs = 5
            rw [HC.out, h9, hnv, if_neg hoz2]
            exact firstE_stop (by decide)
          have hpos : (0 : Int) < (opZ N 400).length := by have := List.length_pos_iff.2 hoz2; omega
          clear h9 hnv hoz2
          generalize (opZ N 400).length = vl at *
          obtain ⟨c0, c1, c2, c3, c4, c5, c6, c7, c8, c9, c10⟩ := call_at hres6
          have fz := fun k => frozen_at (k := k) hres6
          go_wp2
          have hcz := call_set hres6 (.int .u32 0) (.int .u32 0) (.int .u32 0) (.int .u32 0) (.int .u32 0) (.string ⟨#[]⟩) (.int .u32 0) (.int .u32 0) (.int .u32 0) (.slice none 0 0) (.slice none 0 0)
          have hBz := call_below (h := w.heap.size) hBW6 (Nat.le_refl _) (.int .u32 0) (.int .u32 0) (.int .u32 0) (.int .u32 0) (.int .u32 0) (.string ⟨#[]⟩) (.int .u32 0) (.int .u32 0) (.int .u32 0) (.slice none 0 0) (.slice none 0 0)
          generalize (((((((((((w6.setCell ⟨w.heap.size, 0, none⟩ (.int .u32 0)).setCell ⟨w.heap.size, 1, none⟩ (.int .u32 0)).setCell ⟨w.heap.size, 2, none⟩ (.int .u32 0)).setCell ⟨w.heap.size, 3, none⟩ (.int .u32 0)).setCell ⟨w.heap.size, 4, none⟩ (.int .u32 0)).setCell ⟨w.heap.size, 5, none⟩ (.string ⟨#[]⟩)).setCell ⟨w.heap.size, 6, none⟩ (.int .u32 0)).setCell ⟨w.heap.size, 7, none⟩ (.int .u32 0)).setCell ⟨w.heap.size, 8, none⟩ (.int .u32 0)).setCell ⟨w.heap.size, 9, none⟩ (.slice none 0 0)).setCell ⟨w.heap.size, 10, none⟩ (.slice none 0 0)) = wz at *
          clear c0 c1 c2 c3 c4 c5 c6 c7 c8 c9 c10 fz
          obtain ⟨c0, c1, c2, c3, c4, c5, c6, c7, c8, c9, c10⟩ := call_at hcz
          refine bodyPost_ret (v := .tuple #[.agg #[.int .u32 0, .int .u32 0, .int .u32 0, .int .u32 0, .int .u32 0, .string ⟨#[]⟩, .int .u32 0, .int .u32 0, .int .u32 0, .slice none 0 0, .slice none 0 0], .int .i64 5]) (by simp [results, Tryz.results6, go_sem, c0, c1, c2, c3, c4, c5, c6, c7, c8, c9, c10]) rfl ?_
          exact ⟨hBz, .inl ⟨by rw [HE.out]; decide, by rw [HE.out]⟩⟩
        have HE : Hid (clE zs = 0) := by
          show clE zs = 0
          rw [HC.out, h9, firstE_go (by rw [hnv, if_pos hoz2])]
          rfl
        have hvl : (opZ N 400).length = 0 := by rw [hoz2]; rfl
        rw [hvl]
        clear h9 hnv hoz2 hlv hv4 hvl
        generalize opL N 400 = ol2 at *
        obtain ⟨a4, hcut4, s4, hn4⟩ := cut_nil s2 hRl hLC2 hn2 (4 + ol2) (by omega)
        have hcut4' : ∀ W, (Instr.slice 22 (.slice a2 L2 C2) (some (.int .i64 (4 + (ol2 : Int)))) none none).run Tryz.prog W = .ok (.slice a4 (L2 - (4 + ol2)) (C2 - (4 + ol2))) W := hcut4
        have hwr : IntKind.i64.wrap (4 + (ol2 : Int)) = 4 + (ol2 : Int) := by rw [IntKind.wrap_i64]; omega
        have HBO : Hid (clB zs = R.drop (4 + ol2)) := by show clB zs = _; rw [HCB.out, HBB.out]
        have hBl : (R.drop (4 + ol2)).length = L2 - (4 + ol2) := by rw [List.length_drop, hRl]
        generalize R.drop (4 + ol2) = BB at *
        generalize hLB : L2 - (4 + ol2) = LB at *
        generalize C2 - (4 + ol2) = CB at *
        have hLBs : LB ≤ 65536 := by omega
        clear hcut4 hLB
        obtain ⟨d0, d1, d2, d3, d4, d5, d6, d7, d8, d9, d10⟩ := call_at hcC6
        have fB := fun k => frozen_at (k := k) hcC6
        clear d0 d1 d2 d3 d4 d5 d6 d7 d8 d9 fB
        go_wp2_with fail
        go_region_law (refine step_append_each _ (by rfl) _ _ _ (by rfl) w0.heap.size 5 iB (.int .u8 0) 1 1 Tryz.underlying22 hiB zB0 zB1 zB2 rfl (by decide) (.slice none 0 0) 0 [] (by rfl) (own_empty _ _ _) a4 LB CB (BB.map (Value.int .u8)) (by rfl) hn4 (by simp [hBl]) (fun b hb => seg_news (by rw [← hb]; exact s4.below hb6.drew)) (news_one BB) (by unfold maxLen; omega) (by omega) hb6.size ?_; intro v7 w7 ho7 hg7; have ho7' : w7.ownsRow w0.heap.size 5 1 v7 LB (BB.map (Value.int .u8)) := (by rw [Nat.zero_add, List.nil_append] at ho7; exact ho7); obtain ⟨a7, k7, e7, _, _, _, _⟩ := own_val ho7' hBl; subst e7; have hb67 : Below w6.heap.size w6 w7 := (Below.refl w6.heap.size w6).drew.grown hg7 (Nat.le_refl _) (by simp [Value.ownBlock]); have hcC7 := (hb67.block _ (Array.getElem?_eq_some_iff.1 hcC6).1).trans hcC6; obtain ⟨_, _, _, _, _, _, _, _, _, _, f10⟩ := call_at hcC7; have fB := fun k => frozen_at (k := k) hcC7)
        all_goals
          have hog7 := own_below hog6 hb67
          have hb07 := hb6.trans (hb67.mono hb6.size)
          have hk := kept_one (W := w7) (h := HB) (k := 10) (.slice a7 LB k7)
          have hcC8 : (w7.setCell ⟨HB, 10, none⟩ (.slice a7 LB k7)).heap[HB]? = some (.cells #[.int .u32 X, .int .u32 P, .int .u32 V, .int .u32 C, .int .u32 0, .string ⟨#[]⟩, .int .u32 0, .int .u32 0, .int .u32 0, .slice none 0 0, .slice a7 LB k7] 29) := setCell_same (k := 10) hcC7 _
          have hog8 := own_kept hog7 hk (fun g hg e => by subst e; exact own_not hog7 hcC7 (by decide) hg)
          have hob8 := own_kept ho7' hk (fun g hg e => by subst e; exact own_not ho7' hcC7 (by decide) hg)
          have hb08 := hb07.setCell (p := ⟨HB, 10, none⟩) hw0r (.slice a7 LB k7)
          generalize w7.setCell ⟨HB, 10, none⟩ (.slice a7 LB k7) = w8 at *
          have hres8 := (hb08.block _ hlt).trans hh0
          have hBW8 := hB0.trans (hb08.mono hB0.size)
          clear hog7 ho7 ho7' hg7 hb67 hcC7 f10 fB hk hog6 hcC6 hres6 hBW6 hb07
          obtain ⟨n0, n1', n2, n3', n4, n5, n6, n7, n8, n9, n10⟩ := call_at hcC8
          obtain ⟨c0, c1, c2, c3, c4, c5, c6, c7, c8, c9, c10⟩ := call_at hres8
          have fz := fun k => frozen_at (k := k) hres8
          go_wp2
          have hcz := call_set hres8 (.int .u32 X) (.int .u32 P) (.int .u32 V) (.int .u32 C) (.int .u32 0) (.string ⟨#[]⟩) (.int .u32 0) (.int .u32 0) (.int .u32 0) (.slice none 0 0) (.slice a7 LB k7)
          have hBz := call_below (h := w.heap.size) hBW8 (Nat.le_refl _) (.int .u32 X) (.int .u32 P) (.int .u32 V) (.int .u32 C) (.int .u32 0) (.string ⟨#[]⟩) (.int .u32 0) (.int .u32 0) (.int .u32 0) (.slice none 0 0) (.slice a7 LB k7)
          have hkz : Kept (fun b => b = w.heap.size) w8 (((((((((((w8.setCell ⟨w.heap.size, 0, none⟩ (.int .u32 X)).setCell ⟨w.heap.size, 1, none⟩ (.int .u32 P)).setCell ⟨w.heap.size, 2, none⟩ (.int .u32 V)).setCell ⟨w.heap.size, 3, none⟩ (.int .u32 C)).setCell ⟨w.heap.size, 4, none⟩ (.int .u32 0)).setCell ⟨w.heap.size, 5, none⟩ (.string ⟨#[]⟩)).setCell ⟨w.heap.size, 6, none⟩ (.int .u32 0)).setCell ⟨w.heap.size, 7, none⟩ (.int .u32 0)).setCell ⟨w.heap.size, 8, none⟩ (.int .u32 0)).setCell ⟨w.heap.size, 9, none⟩ (.slice none 0 0)).setCell ⟨w.heap.size, 10, none⟩ (.slice a7 LB k7)) := (((((((((((kept_one (.int .u32 X)).trans (kept_one (.int .u32 P))).trans (kept_one (.int .u32 V))).trans (kept_one (.int .u32 C))).trans (kept_one (.int .u32 0))).trans (kept_one (.string ⟨#[]⟩))).trans (kept_one (.int .u32 0))).trans (kept_one (.int .u32 0))).trans (kept_one (.int .u32 0))).trans (kept_one (.slice none 0 0))).trans (kept_one (.slice a7 LB k7)))
          have hogz := bo hkz hog8 hlt
          have hobz := bo hkz hob8 hlt
          clear hkz
          generalize (((((((((((w8.setCell ⟨w.heap.size, 0, none⟩ (.int .u32 X)).setCell ⟨w.heap.size, 1, none⟩ (.int .u32 P)).setCell ⟨w.heap.size, 2, none⟩ (.int .u32 V)).setCell ⟨w.heap.size, 3, none⟩ (.int .u32 C)).setCell ⟨w.heap.size, 4, none⟩ (.int .u32 0)).setCell ⟨w.heap.size, 5, none⟩ (.string ⟨#[]⟩)).setCell ⟨w.heap.size, 6, none⟩ (.int .u32 0)).setCell ⟨w.heap.size, 7, none⟩ (.int .u32 0)).setCell ⟨w.heap.size, 8, none⟩ (.int .u32 0)).setCell ⟨w.heap.size, 9, none⟩ (.slice none 0 0)).setCell ⟨w.heap.size, 10, none⟩ (.slice a7 LB k7)) = wz at *
          clear c0 c1 c2 c3 c4 c5 c6 c7 c8 c9 c10 fz
          obtain ⟨c0, c1, c2, c3, c4, c5, c6, c7, c8, c9, c10⟩ := call_at hcz
          refine bodyPost_ret (v := .tuple #[.agg #[.int .u32 X, .int .u32 P, .int .u32 V, .int .u32 C, .int .u32 0, .string ⟨#[]⟩, .int .u32 0, .int .u32 0, .int .u32 0, .slice none 0 0, .slice a7 LB k7], .int .i64 0]) (by simp [results, Tryz.results6, go_sem, c0, c1, c2, c3, c4, c5, c6, c7, c8, c9, c10]) rfl ?_
          obtain ⟨e1, e2, e3, e4, e5⟩ := HF.out
          obtain ⟨v1, v2, v3, v4, v5⟩ := HV.out
          have hbo := HBO.out
          refine ⟨hBz, .inr ⟨HE.out, none, 0, a7, k7, ?_, ?_, ?_⟩⟩
          · rw [e1, e2, e3, e4, e5, v1, v2, v3, v4, v5, hbo, hBl]
            rfl
          · rw [v5]
            exact own_base hogz hB0.size
          · rw [hbo, hBl]
            exact own_base hobz hB0.size
      · have HF0 : Hid (FF = 1) := hF
        subst hF
        rw [if_neg (by decide)] at hwE0
        obtain ⟨d0, d1, d2, d3, d4, d5, d6, d7, d8, d9, d10⟩ := call_at hcC2
        go_wp2_with fail
        refine (refcget_any aw ozl cw oz w2 hlw hmw (by omega) hzl hzb sw).mono ?_
        rintro e w3 ⟨v5, rfl, ho5, hb5⟩
        obtain ⟨ag, kg, rfl, _, _, _, _⟩ := own_val4 ho5 rfl
        have hcC3 := (hb5.block _ (Array.getElem?_eq_some_iff.1 hcC2).1).trans hcC2
        have hb3 := hb2.trans (hb5.mono hb2.size)
        have hneB : w.heap.size ≠ HB := by omega
        clear d0 d1 d2 d3 d4 d5 d6 d7 d8 d9 d10
        obtain ⟨d0, d1, d2, d3, d4, d5, d6, d7, d8, d9, d10⟩ := call_at hcC3
        have fB := fun k => frozen_at (k := k) hcC3
        by_cases hce : crE oz = 0
        case neg =>
          have HE : Hid (clE zs = crE oz) := by
            show clE zs = _
            rw [HC.out, hLe, hwE0]
            exact firstE_stop hce
          have HN : Hid (crE oz ≠ 0) := hce
          have hx2 : (crE oz != 0) = true := by simp [hce]
          clear hLe hwE0 hce ho5 hres hBW
          generalize cgS oz = SS at *
          generalize strOfNums (cgM oz) = MM at *
          generalize cgU oz = UU at *
          generalize cgG oz = GG at *
          generalize (cgL oz).length = GL at *
          generalize crE oz = ce at *
          have hres5 := (five_far hneB (W := w3) (.int .u32 SS) (.string MM) (.int .u32 UU) (.int .u32 GG) (.slice ag GL kg)).trans ((hb3.block _ hlt).trans hh0)
          have hBW5 := five_belowC (hB0.trans (hb3.mono hB0.size)) (show w.heap.size ≤ HB by omega) (.int .u32 SS) (.string MM) (.int .u32 UU) (.int .u32 GG) (.slice ag GL kg)
          obtain ⟨c0, c1, c2, c3, c4, c5, c6, c7, c8, c9, c10⟩ := call_at hres5
          have fz := fun k => frozen_at (k := k) hres5
          go_wp2
          have hcz := call_set hres5 (.int .u32 0) (.int .u32 0) (.int .u32 0) (.int .u32 0) (.int .u32 0) (.string ⟨#[]⟩) (.int .u32 0) (.int .u32 0) (.int .u32 0) (.slice none 0 0) (.slice none 0 0)
          have hBz := call_below (h := w.heap.size) hBW5 (Nat.le_refl _) (.int .u32 0) (.int .u32 0) (.int .u32 0) (.int .u32 0) (.int .u32 0) (.string ⟨#[]⟩) (.int .u32 0) (.int .u32 0) (.int .u32 0) (.slice none 0 0) (.slice none 0 0)
          generalize ((((((((((((((((w3.setCell ⟨HB, 6, none⟩ (.int .u32 SS)).setCell ⟨HB, 5, none⟩ (.string MM)).setCell ⟨HB, 7, none⟩ (.int .u32 UU)).setCell ⟨HB, 8, none⟩ (.int .u32 GG)).setCell ⟨HB, 9, none⟩ (.slice ag GL kg)).setCell ⟨w.heap.size, 0, none⟩ (.int .u32 0)).setCell ⟨w.heap.size, 1, none⟩ (.int .u32 0)).setCell ⟨w.heap.size, 2, none⟩ (.int .u32 0)).setCell ⟨w.heap.size, 3, none⟩ (.int .u32 0)).setCell ⟨w.heap.size, 4, none⟩ (.int .u32 0)).setCell ⟨w.heap.size, 5, none⟩ (.string ⟨#[]⟩)).setCell ⟨w.heap.size, 6, none⟩ (.int .u32 0)).setCell ⟨w.heap.size, 7, none⟩ (.int .u32 0)).setCell ⟨w.heap.size, 8, none⟩ (.int .u32 0)).setCell ⟨w.heap.size, 9, none⟩ (.slice none 0 0)).setCell ⟨w.heap.size, 10, none⟩ (.slice none 0 0)) = wz at *
          clear c0 c1 c2 c3 c4 c5 c6 c7 c8 c9 c10 fz
          obtain ⟨c0, c1, c2, c3, c4, c5, c6, c7, c8, c9, c10⟩ := call_at hcz
          refine bodyPost_ret (v := .tuple #[.agg #[.int .u32 0, .int .u32 0, .int .u32 0, .int .u32 0, .int .u32 0, .string ⟨#[]⟩, .int .u32 0, .int .u32 0, .int .u32 0, .slice none 0 0, .slice none 0 0], .int .i64 ce]) (by simp [results, Tryz.results6, go_sem, c0, c1, c2, c3, c4, c5, c6, c7, c8, c9, c10]) rfl ?_
          exact ⟨hBz, .inl ⟨by rw [HE.out]; exact HN.out, by rw [HE.out]⟩⟩
        have h8 : firstE (clEs zs) = firstE ((clEs zs).drop 8) := by rw [hLe, firstE_go (by rw [hwE0]; exact hce)]
        have HV : Hid (strOfNums (clM zs) = strOfNums (crM oz) ∧ clS zs = crS oz ∧ clU zs = crU oz ∧ clG zs = crG oz ∧ clL zs = crL oz) := by
          have hf := HF.out.2.2.2.2
          have hf' : clF zs ≠ 0 := by rw [hf]; decide
          have hw := HW.out
          exact ⟨by rw [clM, if_neg hf', hw], by rw [clS, if_neg hf', hw], by rw [clU, if_neg hf', hw], by rw [clG, if_neg hf', hw], by rw [clL, if_neg hf', hw]⟩
        have e1 : cgS oz = crS oz := by rw [cgS, if_pos hce]
        have e2 : cgM oz = crM oz := by rw [cgM, if_pos hce]
        have e3 : cgU oz = crU oz := by rw [cgU, if_pos hce]
        have e4 : cgG oz = crG oz := by rw [cgG, if_pos hce]
        have e5 : cgL oz = crL oz := by rw [cgL, if_pos hce]
        rw [e5] at ho5
        rw [e1, e2, e3, e4, e5, hce]
        clear e1 e2 e3 e4 e5 hce hLe hwE0 hres hBW
        generalize crS oz = SS at *
        generalize strOfNums (crM oz) = MM at *
        generalize crU oz = UU at *
        generalize crG oz = GG at *
        generalize crL oz = LL at *
        obtain ⟨GL, hGL⟩ : ∃ GL, LL.length = GL := ⟨_, rfl⟩
        have HGL : Hid (LL.length = GL) := hGL
        rw [hGL] at ho5 ⊢
        clear hGL
        have hcC5 := five_set hcC3 (.int .u32 SS) (.string MM) (.int .u32 UU) (.int .u32 GG) (.slice ag GL kg)
        have hb05 := five_belowC hb3 hw0r (.int .u32 SS) (.string MM) (.int .u32 UU) (.int .u32 GG) (.slice ag GL kg)
        have hog5 := own_kept (own_base ho5 hb2.size) (five_kept (W := w3) (.int .u32 SS) (.string MM) (.int .u32 UU) (.int .u32 GG) (.slice ag GL kg)) (fun g hg e => by subst e; exact own_not ho5 hcC3 (by decide) hg)
        go_wp2_with fail
        clear d0 d1 d2 d3 d4 d5 d6 d7 d8 d9 d10 fB
        generalize (((((w3.setCell ⟨HB, 6, none⟩ (.int .u32 SS)).setCell ⟨HB, 5, none⟩ (.string MM)).setCell ⟨HB, 7, none⟩ (.int .u32 UU)).setCell ⟨HB, 8, none⟩ (.int .u32 GG)).setCell ⟨HB, 9, none⟩ (.slice ag GL kg)) = w5 at *
        have hogW := hog5
        have hresW := (hb05.block _ hlt).trans hh0
        have hBWW := hB0.trans (hb05.mono hB0.size)
        have hg := refget_any a2 L2 C2 R w5 hLC2 hC2s hRl hRb (s2.below hb05)
        have hd8 : (clEs zs).drop 8 = fxnE (clR zs) 0 :: (clEs zs).drop 9 := rfl
        rw [hd8, HR.out] at h8
        by_cases hl4 : L2 < 4
        · have HE : Hid (clE zs = 4) := by
            show clE zs = 4
            have e4 : fxnE R 0 = 4 := by rw [fxnE, if_pos (by omega)]
            rw [HC.out, h8, e4]
            exact firstE_stop (by decide)
          obtain ⟨hN4, hE4⟩ := (getNE hRl).1 hl4
          rw [hN4, hE4] at hg
          clear h8 hd8 hN4 hE4
          refine hg.mono ?_
          rintro e w' ⟨rfl, hw'⟩
          subst w'
          obtain ⟨c0, c1, c2, c3, c4, c5, c6, c7, c8, c9, c10⟩ := call_at hresW
          have fz := fun k => frozen_at (k := k) hresW
          go_wp2
          have hcz := call_set hresW (.int .u32 0) (.int .u32 0) (.int .u32 0) (.int .u32 0) (.int .u32 0) (.string ⟨#[]⟩) (.int .u32 0) (.int .u32 0) (.int .u32 0) (.slice none 0 0) (.slice none 0 0)
          have hBz := call_below (h := w.heap.size) hBWW (Nat.le_refl _) (.int .u32 0) (.int .u32 0) (.int .u32 0) (.int .u32 0) (.int .u32 0) (.string ⟨#[]⟩) (.int .u32 0) (.int .u32 0) (.int .u32 0) (.slice none 0 0) (.slice none 0 0)
          generalize (((((((((((w5.setCell ⟨w.heap.size, 0, none⟩ (.int .u32 0)).setCell ⟨w.heap.size, 1, none⟩ (.int .u32 0)).setCell ⟨w.heap.size, 2, none⟩ (.int .u32 0)).setCell ⟨w.heap.size, 3, none⟩ (.int .u32 0)).setCell ⟨w.heap.size, 4, none⟩ (.int .u32 0)).setCell ⟨w.heap.size, 5, none⟩ (.string ⟨#[]⟩)).setCell ⟨w.heap.size, 6, none⟩ (.int .u32 0)).setCell ⟨w.heap.size, 7, none⟩ (.int .u32 0)).setCell ⟨w.heap.size, 8, none⟩ (.int .u32 0)).setCell ⟨w.heap.size, 9, none⟩ (.slice none 0 0)).setCell ⟨w.heap.size, 10, none⟩ (.slice none 0 0)) = wz at *
          clear c0 c1 c2 c3 c4 c5 c6 c7 c8 c9 c10 fz
          obtain ⟨c0, c1, c2, c3, c4, c5, c6, c7, c8, c9, c10⟩ := call_at hcz
          refine bodyPost_ret (v := .tuple #[.agg #[.int .u32 0, .int .u32 0, .int .u32 0, .int .u32 0, .int .u32 0, .string ⟨#[]⟩, .int .u32 0, .int .u32 0, .int .u32 0, .slice none 0 0, .slice none 0 0], .int .i64 4]) (by simp [results, Tryz.results6, go_sem, c0, c1, c2, c3, c4, c5, c6, c7, c8, c9, c10]) rfl ?_
          exact ⟨hBz, .inl ⟨by rw [HE.out]; decide, by rw [HE.out]⟩⟩
        obtain ⟨hN4, hE4⟩ := (getNE hRl).2 (by omega)
        rw [hN4, hE4] at hg
        have hev : fxnE R 0 = if be (R.take 4) = 0 then 0 else 5 := by rw [fxnE, if_neg (by omega)]
        generalize be (R.take 4) = fl at *
        clear hN4 hE4 hd8
        by_cases hfl : fl = 0
        case neg =>
          have HE : Hid (clE zs = 5) := by
            show clE zs = 5
            rw [HC.out, h8, hev, if_neg hfl]
            exact firstE_stop (by decide)
          have hfl' : (fl != 0) = true := by simp [hfl]
          clear h8 hev hfl
          refine hg.mono ?_
          rintro e w' ⟨rfl, hw'⟩
          subst w'
          obtain ⟨c0, c1, c2, c3, c4, c5, c6, c7, c8, c9, c10⟩ := call_at hresW
          have fz := fun k => frozen_at (k := k) hresW
          go_wp2
          have hcz := call_set hresW (.int .u32 0) (.int .u32 0) (.int .u32 0) (.int .u32 0) (.int .u32 0) (.string ⟨#[]⟩) (.int .u32 0) (.int .u32 0) (.int .u32 0) (.slice none 0 0) (.slice none 0 0)
          have hBz := call_below (h := w.heap.size) hBWW (Nat.le_refl _) (.int .u32 0) (.int .u32 0) (.int .u32 0) (.int .u32 0) (.int .u32 0) (.string ⟨#[]⟩) (.int .u32 0) (.int .u32 0) (.int .u32 0) (.slice none 0 0) (.slice none 0 0)
          generalize (((((((((((w5.setCell ⟨w.heap.size, 0, none⟩ (.int .u32 0)).setCell ⟨w.heap.size, 1, none⟩ (.int .u32 0)).setCell ⟨w.heap.size, 2, none⟩ (.int .u32 0)).setCell ⟨w.heap.size, 3, none⟩ (.int .u32 0)).setCell ⟨w.heap.size, 4, none⟩ (.int .u32 0)).setCell ⟨w.heap.size, 5, none⟩ (.string ⟨#[]⟩)).setCell ⟨w.heap.size, 6, none⟩ (.int .u32 0)).setCell ⟨w.heap.size, 7, none⟩ (.int .u32 0)).setCell ⟨w.heap.size, 8, none⟩ (.int .u32 0)).setCell ⟨w.heap.size, 9, none⟩ (.slice none 0 0)).setCell ⟨w.heap.size, 10, none⟩ (.slice none 0 0)) = wz at *
          clear c0 c1 c2 c3 c4 c5 c6 c7 c8 c9 c10 fz
          obtain ⟨c0, c1, c2, c3, c4, c5, c6, c7, c8, c9, c10⟩ := call_at hcz
          refine bodyPost_ret (v := .tuple #[.agg #[.int .u32 0, .int .u32 0, .int .u32 0, .int .u32 0, .int .u32 0, .string ⟨#[]⟩, .int .u32 0, .int .u32 0, .int .u32 0, .slice none 0 0, .slice none 0 0], .int .i64 5]) (by simp [results, Tryz.results6, go_sem, c0, c1, c2, c3, c4, c5, c6, c7, c8, c9, c10]) rfl ?_
          exact ⟨hBz, .inl ⟨by rw [HE.out]; decide, by rw [HE.out]⟩⟩
        subst hfl
        have hd9 : (clEs zs).drop 9 = notE (clN zs) :: (clEs zs).drop 10 := rfl
        have h9 : firstE (clEs zs) = firstE (notE (clN zs) :: (clEs zs).drop 10) := by rw [h8, firstE_go (by rw [hev, if_pos rfl]), hd9]
        have hNN : clN zs = R.drop 4 := by rw [← HR.out]; rfl
        have hNl : (clN zs).length = L2 - 4 := by rw [hNN, List.length_drop, hRl]
        have hNb : Byt (clN zs) := by rw [hNN]; exact byt_drop hRb 4
        obtain ⟨a3, hcut3, s3, hn3⟩ := cut_nil s2 hRl hLC2 hn2 4 (by omega)
        have hcut3' : ∀ W, (Instr.slice 22 (.slice a2 L2 C2) (some (.int .i64 4)) none none).run Tryz.prog W = .ok (.slice a3 (L2 - 4) (C2 - 4)) W := hcut3
        rw [← hNN] at s3
        have HBB : Hid (∀ k, (clN zs).drop k = R.drop (4 + k)) := fun k => by rw [hNN, List.drop_drop]
        have HCB : Hid (clB zs = (clN zs).drop (opL (clN zs) 400)) := rfl
        generalize clN zs = N at *
        clear h8 hev hd9 hNN hcut3
        refine hg.mono ?_
        rintro e w' ⟨rfl, hw'⟩
        subst w'
        clear hg
        go_wp2_with fail
        refine (refgetopq_any a3 (L2 - 4) (C2 - 4) 400 N w5 (by omega) (by omega) (by omega) hNl hNb (s3.below hb05) (by decide) (by decide)).mono ?_
        rintro e w6 ⟨vv, rfl, hov, hbv⟩
        have hb6 := hb05.trans (hbv.mono hb05.size)
        have hcC6 := (hbv.block _ (Array.getElem?_eq_some_iff.1 hcC5).1).trans hcC5
        have hres6 := (hb6.block _ hlt).trans hh0
        have hBW6 := hB0.trans (hb6.mono hB0.size)
        have hog6 := own_below hogW hbv
        clear hresW hBWW
        by_cases hoe2 : opE N 400 = 0
        case neg =>
          have HE : Hid (clE zs = opE N 400) := by
            show clE zs = _
            rw [HC.out, h9, notE, if_neg hoe2]
            exact firstE_stop hoe2
          have HN : Hid (opE N 400 ≠ 0) := hoe2
          have hx2 : (opE N 400 != 0) = true := by simp [hoe2]
          clear h9 hoe2 hov
          generalize opE N 400 = oe at *
          obtain ⟨c0, c1, c2, c3, c4, c5, c6, c7, c8, c9, c10⟩ := call_at hres6
          have fz := fun k => frozen_at (k := k) hres6
          go_wp2
          have hcz := call_set hres6 (.int .u32 0) (.int .u32 0) (.int .u32 0) (.int .u32 0) (.int .u32 0) (.string ⟨#[]⟩) (.int .u32 0) (.int .u32 0) (.int .u32 0) (.slice none 0 0) (.slice none 0 0)
          have hBz := call_below (h := w.heap.size) hBW6 (Nat.le_refl _) (.int .u32 0) (.int .u32 0) (.int .u32 0) (.int .u32 0) (.int .u32 0) (.string ⟨#[]⟩) (.int .u32 0) (.int .u32 0) (.int .u32 0) (.slice none 0 0) (.slice none 0 0)
          generalize (((((((((((w6.setCell ⟨w.heap.size, 0, none⟩ (.int .u32 0)).setCell ⟨w.heap.size, 1, none⟩ (.int .u32 0)).setCell ⟨w.heap.size, 2, none⟩ (.int .u32 0)).setCell ⟨w.heap.size, 3, none⟩ (.int .u32 0)).setCell ⟨w.heap.size, 4, none⟩ (.int .u32 0)).setCell ⟨w.heap.size, 5, none⟩ (.string ⟨#[]⟩)).setCell ⟨w.heap.size, 6, none⟩ (.int .u32 0)).setCell ⟨w.heap.size, 7, none⟩ (.int .u32 0)).setCell ⟨w.heap.size, 8, none⟩ (.int .u32 0)).setCell ⟨w.heap.size, 9, none⟩ (.slice none 0 0)).setCell ⟨w.heap.size, 10, none⟩ (.slice none 0 0)) = wz at *
          clear c0 c1 c2 c3 c4 c5 c6 c7 c8 c9 c10 fz
          obtain ⟨c0, c1, c2, c3, c4, c5, c6, c7, c8, c9, c10⟩ := call_at hcz
          refine bodyPost_ret (v := .tuple #[.agg #[.int .u32 0, .int .u32 0, .int .u32 0, .int .u32 0, .int .u32 0, .string ⟨#[]⟩, .int .u32 0, .int .u32 0, .int .u32 0, .slice none 0 0, .slice none 0 0], .int .i64 oe]) (by simp [results, Tryz.results6, go_sem, c0, c1, c2, c3, c4, c5, c6, c7, c8, c9, c10]) rfl ?_
          exact ⟨hBz, .inl ⟨by rw [HE.out]; exact HN.out, by rw [HE.out]⟩⟩
        rw [hoe2]
        obtain ⟨av, cv, rfl, _, hlv, hmv, _⟩ := own_val hov rfl
        have hol2 : opL N 400 ≤ L2 - 4 := by rw [← hNl]; exact (op_again hNb hoe2).2.1
        have hv4 : (opZ N 400).length ≤ 400 := by have := (op_again hNb hoe2).2.2.1; omega
        have hnv : notE N = if opZ N 400 = [] then 0 else 5 := by rw [notE, if_pos hoe2]
        clear hov hoe2
        by_cases hoz2 : opZ N 400 = []
        case neg =>
          have HE : Hid (clE zs = 5) := by
            show clE zs = 5
            rw [HC.out, h9, hnv, if_neg hoz2]
            exact firstE_stop (by decide)
          have hpos : (0 : Int) < (opZ N 400).length := by have := List.length_pos_iff.2 hoz2; omega
          clear h9 hnv hoz2
          generalize (opZ N 400).length = vl at *
          obtain ⟨c0, c1, c2, c3, c4, c5, c6, c7, c8, c9, c10⟩ := call_at hres6
          have fz := fun k => frozen_at (k := k) hres6
          go_wp2
          have hcz := call_set hres6 (.int .u32 0) (.int .u32 0) (.int .u32 0) (.int .u32 0) (.int .u32 0) (.string ⟨#[]⟩) (.int .u32 0) (.int .u32 0) (.int .u32 0) (.slice none 0 0) (.slice none 0 0)
          have hBz := call_below (h := w.heap.size) hBW6 (Nat.le_refl _) (.int .u32 0) (.int .u32 0) (.int .u32 0) (.int .u32 0) (.int .u32 0) (.string ⟨#[]⟩) (.int .u32 0) (.int .u32 0) (.int .u32 0) (.slice none 0 0) (.slice none 0 0)
          generalize (((((((((((w6.setCell ⟨w.heap.size, 0, none⟩ (.int .u32 0)).setCell ⟨w.heap.size, 1, none⟩ (.int .u32 0)).setCell ⟨w.heap.size, 2, none⟩ (.int .u32 0)).setCell ⟨w.heap.size, 3, none⟩ (.int .u32 0)).setCell ⟨w.heap.size, 4, none⟩ (.int .u32 0)).setCell ⟨w.heap.size, 5, none⟩ (.string ⟨#[]⟩)).setCell ⟨w.heap.size, 6, none⟩ (.int .u32 0)).setCell ⟨w.heap.size, 7, none⟩ (.int .u32 0)).setCell ⟨w.heap.size, 8, none⟩ (.int .u32 0)).setCell ⟨w.heap.size, 9, none⟩ (.slice none 0 0)).setCell ⟨w.heap.size, 10, none⟩ (.slice none 0 0)) = wz at *
          clear c0 c1 c2 c3 c4 c5 c6 c7 c8 c9 c10 fz
          obtain ⟨c0, c1, c2, c3, c4, c5, c6, c7, c8, c9, c10⟩ := call_at hcz
          refine bodyPost_ret (v := .tuple #[.agg #[.int .u32 0, .int .u32 0, .int .u32 0, .int .u32 0, .int .u32 0, .string ⟨#[]⟩, .int .u32 0, .int .u32 0, .int .u32 0, .slice none 0 0, .slice none 0 0], .int .i64 5]) (by simp [results, Tryz.results6, go_sem, c0, c1, c2, c3, c4, c5, c6, c7, c8, c9, c10]) rfl ?_
          exact ⟨hBz, .inl ⟨by rw [HE.out]; decide, by rw [HE.out]⟩⟩
        have HE : Hid (clE zs = 0) := by
          show clE zs = 0
          rw [HC.out, h9, firstE_go (by rw [hnv, if_pos hoz2])]
          rfl
        have hvl : (opZ N 400).length = 0 := by rw [hoz2]; rfl
        rw [hvl]
        clear h9 hnv hoz2 hlv hv4 hvl
        generalize opL N 400 = ol2 at *
        obtain ⟨a4, hcut4, s4, hn4⟩ := cut_nil s2 hRl hLC2 hn2 (4 + ol2) (by omega)
        have hcut4' : ∀ W, (Instr.slice 22 (.slice a2 L2 C2) (some (.int .i64 (4 + (ol2 : Int)))) none none).run Tryz.prog W = .ok (.slice a4 (L2 - (4 + ol2)) (C2 - (4 + ol2))) W := hcut4
        have hwr : IntKind.i64.wrap (4 + (ol2 : Int)) = 4 + (ol2 : Int) := by rw [IntKind.wrap_i64]; omega
        have HBO : Hid (clB zs = R.drop (4 + ol2)) := by show clB zs = _; rw [HCB.out, HBB.out]
        have hBl : (R.drop (4 + ol2)).length = L2 - (4 + ol2) := by rw [List.length_drop, hRl]
        generalize R.drop (4 + ol2) = BB at *
        generalize hLB : L2 - (4 + ol2) = LB at *
        generalize C2 - (4 + ol2) = CB at *
        have hLBs : LB ≤ 65536 := by omega
        clear hcut4 hLB
        obtain ⟨d0, d1, d2, d3, d4, d5, d6, d7, d8, d9, d10⟩ := call_at hcC6
        have fB := fun k => frozen_at (k := k) hcC6
        clear d0 d1 d2 d3 d4 d5 d6 d7 d8 d9 fB
        go_wp2_with fail
        go_region_law (refine step_append_each _ (by rfl) _ _ _ (by rfl) w0.heap.size 5 iB (.int .u8 0) 1 1 Tryz.underlying22 hiB zB0 zB1 zB2 rfl (by decide) (.slice none 0 0) 0 [] (by rfl) (own_empty _ _ _) a4 LB CB (BB.map (Value.int .u8)) (by rfl) hn4 (by simp [hBl]) (fun b hb => seg_news (by rw [← hb]; exact s4.below hb6.drew)) (news_one BB) (by unfold maxLen; omega) (by omega) hb6.size ?_; intro v7 w7 ho7 hg7; have ho7' : w7.ownsRow w0.heap.size 5 1 v7 LB (BB.map (Value.int .u8)) := (by rw [Nat.zero_add, List.nil_append] at ho7; exact ho7); obtain ⟨a7, k7, e7, _, _, _, _⟩ := own_val ho7' hBl; subst e7; have hb67 : Below w6.heap.size w6 w7 := (Below.refl w6.heap.size w6).drew.grown hg7 (Nat.le_refl _) (by simp [Value.ownBlock]); have hcC7 := (hb67.block _ (Array.getElem?_eq_some_iff.1 hcC6).1).trans hcC6; obtain ⟨_, _, _, _, _, _, _, _, _, _, f10⟩ := call_at hcC7; have fB := fun k => frozen_at (k := k) hcC7)
        all_goals
          have hog7 := own_below hog6 hb67
          have hb07 := hb6.trans (hb67.mono hb6.size)
          have hk := kept_one (W := w7) (h := HB) (k := 10) (.slice a7 LB k7)
          have hcC8 : (w7.setCell ⟨HB, 10, none⟩ (.slice a7 LB k7)).heap[HB]? = some (.cells #[.int .u32 X, .int .u32 P, .int .u32 V, .int .u32 C, .int .u32 1, .string MM, .int .u32 SS, .int .u32 UU, .int .u32 GG, .slice ag GL kg, .slice a7 LB k7] 29) := setCell_same (k := 10) hcC7 _
          have hog8 := own_kept hog7 hk (fun g hg e => by subst e; exact own_not hog7 hcC7 (by decide) hg)
          have hob8 := own_kept ho7' hk (fun g hg e => by subst e; exact own_not ho7' hcC7 (by decide) hg)
          have hb08 := hb07.setCell (p := ⟨HB, 10, none⟩) hw0r (.slice a7 LB k7)
          generalize w7.setCell ⟨HB, 10, none⟩ (.slice a7 LB k7) = w8 at *
          have hres8 := (hb08.block _ hlt).trans hh0
          have hBW8 := hB0.trans (hb08.mono hB0.size)
          clear hog7 ho7 ho7' hg7 hb67 hcC7 f10 fB hk hog6 hcC6 hres6 hBW6 hb07
          obtain ⟨n0, n1', n2, n3', n4, n5, n6, n7, n8, n9, n10⟩ := call_at hcC8
          obtain ⟨c0, c1, c2, c3, c4, c5, c6, c7, c8, c9, c10⟩ := call_at hres8
          have fz := fun k => frozen_at (k := k) hres8
          go_wp2
          have hcz := call_set hres8 (.int .u32 X) (.int .u32 P) (.int .u32 V) (.int .u32 C) (.int .u32 1) (.string MM) (.int .u32 SS) (.int .u32 UU) (.int .u32 GG) (.slice ag GL kg) (.slice a7 LB k7)
          have hBz := call_below (h := w.heap.size) hBW8 (Nat.le_refl _) (.int .u32 X) (.int .u32 P) (.int .u32 V) (.int .u32 C) (.int .u32 1) (.string MM) (.int .u32 SS) (.int .u32 UU) (.int .u32 GG) (.slice ag GL kg) (.slice a7 LB k7)
          have hkz : Kept (fun b => b = w.heap.size) w8 (((((((((((w8.setCell ⟨w.heap.size, 0, none⟩ (.int .u32 X)).setCell ⟨w.heap.size, 1, none⟩ (.int .u32 P)).setCell ⟨w.heap.size, 2, none⟩ (.int .u32 V)).setCell ⟨w.heap.size, 3, none⟩ (.int .u32 C)).setCell ⟨w.heap.size, 4, none⟩ (.int .u32 1)).setCell ⟨w.heap.size, 5, none⟩ (.string MM)).setCell ⟨w.heap.size, 6, none⟩ (.int .u32 SS)).setCell ⟨w.heap.size, 7, none⟩ (.int .u32 UU)).setCell ⟨w.heap.size, 8, none⟩ (.int .u32 GG)).setCell ⟨w.heap.size, 9, none⟩ (.slice ag GL kg)).setCell ⟨w.heap.size, 10, none⟩ (.slice a7 LB k7)) := (((((((((((kept_one (.int .u32 X)).trans (kept_one (.int .u32 P))).trans (kept_one (.int .u32 V))).trans (kept_one (.int .u32 C))).trans (kept_one (.int .u32 1))).trans (kept_one (.string MM))).trans (kept_one (.int .u32 SS))).trans (kept_one (.int .u32 UU))).trans (kept_one (.int .u32 GG))).trans (kept_one (.slice ag GL kg))).trans (kept_one (.slice a7 LB k7)))
          have hogz := bo hkz hog8 hlt
          have hobz := bo hkz hob8 hlt
          clear hkz
          generalize (((((((((((w8.setCell ⟨w.heap.size, 0, none⟩ (.int .u32 X)).setCell ⟨w.heap.size, 1, none⟩ (.int .u32 P)).setCell ⟨w.heap.size, 2, none⟩ (.int .u32 V)).setCell ⟨w.heap.size, 3, none⟩ (.int .u32 C)).setCell ⟨w.heap.size, 4, none⟩ (.int .u32 1)).setCell ⟨w.heap.size, 5, none⟩ (.string MM)).setCell ⟨w.heap.size, 6, none⟩ (.int .u32 SS)).setCell ⟨w.heap.size, 7, none⟩ (.int .u32 UU)).setCell ⟨w.heap.size, 8, none⟩ (.int .u32 GG)).setCell ⟨w.heap.size, 9, none⟩ (.slice ag GL kg)).setCell ⟨w.heap.size, 10, none⟩ (.slice a7 LB k7)) = wz at *
          clear c0 c1 c2 c3 c4 c5 c6 c7 c8 c9 c10 fz
          obtain ⟨c0, c1, c2, c3, c4, c5, c6, c7, c8, c9, c10⟩ := call_at hcz
          refine bodyPost_ret (v := .tuple #[.agg #[.int .u32 X, .int .u32 P, .int .u32 V, .int .u32 C, .int .u32 1, .string MM, .int .u32 SS, .int .u32 UU, .int .u32 GG, .slice ag GL kg, .slice a7 LB k7], .int .i64 0]) (by simp [results, Tryz.results6, go_sem, c0, c1, c2, c3, c4, c5, c6, c7, c8, c9, c10]) rfl ?_
          obtain ⟨e1, e2, e3, e4, e5⟩ := HF.out
          obtain ⟨v1, v2, v3, v4, v5⟩ := HV.out
          have hbo := HBO.out
          refine ⟨hBz, .inr ⟨HE.out, ag, kg, a7, k7, ?_, ?_, ?_⟩⟩
          · rw [e1, e2, e3, e4, e5, v1, v2, v3, v4, v5, hbo, hBl]
            rw [HGL.out]
          · rw [v5]
            rw [HGL.out]
            exact own_base hogz hB0.size
          · rw [hbo, hBl]
            exact own_base hobz hB0.size
end Go.Proofs.YtciinabhelfnoaaGreatDoor
