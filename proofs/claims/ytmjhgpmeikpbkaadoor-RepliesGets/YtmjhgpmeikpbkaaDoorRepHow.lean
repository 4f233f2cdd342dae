/- 'reader.how': which row the bytes have. -/
import Derived.Test.YtmjhgpmeikpbkaaDoorRepHowK
namespace Go.Proofs.YtmjhgpmeikpbkaaDoor
set_option linter.unusedVariables false
open Go.RowKit Go.Maps

def rowOf (y : HW) : Int := if y.e = 0 then y.h else 999

structure HowPost (w W : World) (d : Nat) (zs : List Int) (W' : World) : Prop where
  grown : W.grownBy W' (some d)
  left : (hw zs).e = 0 → ∃ a len cap, Rd w W' d a len cap (zs.drop (4 * (hw zs).k))

theorem infoR : (Tryd.prog.info? 57).map (·.size) = some 10 := by kernel_rfl

theorem frozen_at {W : World} {h k : Nat} {xs : Array Value} {t : TypeId} (hc : W.heap[h]? = some (.cells xs t)) : W.frozen? ⟨h, k, none⟩ = false := by simp [World.frozen?, hc]

theorem ten_set {W : World} {h : Nat} {x0 x1 x2 x3 x4 x5 x6 x7 x8 x9 : Value} {t : TypeId} (hh : W.heap[h]? = some (.cells #[x0, x1, x2, x3, x4, x5, x6, x7, x8, x9] t)) (y0 y1 y2 y3 y4 y5 y6 y7 y8 y9 : Value) :
    (((((((((((W.setCell ⟨h, 0, none⟩ y0).setCell ⟨h, 1, none⟩ y1).setCell ⟨h, 2, none⟩ y2).setCell ⟨h, 3, none⟩ y3).setCell ⟨h, 4, none⟩ y4).setCell ⟨h, 5, none⟩ y5).setCell ⟨h, 6, none⟩ y6).setCell ⟨h, 7, none⟩ y7).setCell ⟨h, 8, none⟩ y8).setCell ⟨h, 9, none⟩ y9).drew).heap[h]? = some (.cells #[y0, y1, y2, y3, y4, y5, y6, y7, y8, y9] t) ∧ W.grownBy ((((((((((W.setCell ⟨h, 0, none⟩ y0).setCell ⟨h, 1, none⟩ y1).setCell ⟨h, 2, none⟩ y2).setCell ⟨h, 3, none⟩ y3).setCell ⟨h, 4, none⟩ y4).setCell ⟨h, 5, none⟩ y5).setCell ⟨h, 6, none⟩ y6).setCell ⟨h, 7, none⟩ y7).setCell ⟨h, 8, none⟩ y8).setCell ⟨h, 9, none⟩ y9).drew (some h) := by
  have h0 : (W.setCell ⟨h, 0, none⟩ y0).heap[h]? = some (.cells #[y0, x1, x2, x3, x4, x5, x6, x7, x8, x9] t) := setCell_same hh y0
  have h1 : ((W.setCell ⟨h, 0, none⟩ y0).setCell ⟨h, 1, none⟩ y1).heap[h]? = some (.cells #[y0, y1, x2, x3, x4, x5, x6, x7, x8, x9] t) := setCell_same h0 y1
  have h2 : (((W.setCell ⟨h, 0, none⟩ y0).setCell ⟨h, 1, none⟩ y1).setCell ⟨h, 2, none⟩ y2).heap[h]? = some (.cells #[y0, y1, y2, x3, x4, x5, x6, x7, x8, x9] t) := setCell_same h1 y2
  have h3 : ((((W.setCell ⟨h, 0, none⟩ y0).setCell ⟨h, 1, none⟩ y1).setCell ⟨h, 2, none⟩ y2).setCell ⟨h, 3, none⟩ y3).heap[h]? = some (.cells #[y0, y1, y2, y3, x4, x5, x6, x7, x8, x9] t) := setCell_same h2 y3
  have h4 : (((((W.setCell ⟨h, 0, none⟩ y0).setCell ⟨h, 1, none⟩ y1).setCell ⟨h, 2, none⟩ y2).setCell ⟨h, 3, none⟩ y3).setCell ⟨h, 4, none⟩ y4).heap[h]? = some (.cells #[y0, y1, y2, y3, y4, x5, x6, x7, x8, x9] t) := setCell_same h3 y4
  have h5 : ((((((W.setCell ⟨h, 0, none⟩ y0).setCell ⟨h, 1, none⟩ y1).setCell ⟨h, 2, none⟩ y2).setCell ⟨h, 3, none⟩ y3).setCell ⟨h, 4, none⟩ y4).setCell ⟨h, 5, none⟩ y5).heap[h]? = some (.cells #[y0, y1, y2, y3, y4, y5, x6, x7, x8, x9] t) := setCell_same h4 y5
  have h6 : (((((((W.setCell ⟨h, 0, none⟩ y0).setCell ⟨h, 1, none⟩ y1).setCell ⟨h, 2, none⟩ y2).setCell ⟨h, 3, none⟩ y3).setCell ⟨h, 4, none⟩ y4).setCell ⟨h, 5, none⟩ y5).setCell ⟨h, 6, none⟩ y6).heap[h]? = some (.cells #[y0, y1, y2, y3, y4, y5, y6, x7, x8, x9] t) := setCell_same h5 y6
  have h7 : ((((((((W.setCell ⟨h, 0, none⟩ y0).setCell ⟨h, 1, none⟩ y1).setCell ⟨h, 2, none⟩ y2).setCell ⟨h, 3, none⟩ y3).setCell ⟨h, 4, none⟩ y4).setCell ⟨h, 5, none⟩ y5).setCell ⟨h, 6, none⟩ y6).setCell ⟨h, 7, none⟩ y7).heap[h]? = some (.cells #[y0, y1, y2, y3, y4, y5, y6, y7, x8, x9] t) := setCell_same h6 y7
  have h8 : (((((((((W.setCell ⟨h, 0, none⟩ y0).setCell ⟨h, 1, none⟩ y1).setCell ⟨h, 2, none⟩ y2).setCell ⟨h, 3, none⟩ y3).setCell ⟨h, 4, none⟩ y4).setCell ⟨h, 5, none⟩ y5).setCell ⟨h, 6, none⟩ y6).setCell ⟨h, 7, none⟩ y7).setCell ⟨h, 8, none⟩ y8).heap[h]? = some (.cells #[y0, y1, y2, y3, y4, y5, y6, y7, y8, x9] t) := setCell_same h7 y8
  have h9 : ((((((((((W.setCell ⟨h, 0, none⟩ y0).setCell ⟨h, 1, none⟩ y1).setCell ⟨h, 2, none⟩ y2).setCell ⟨h, 3, none⟩ y3).setCell ⟨h, 4, none⟩ y4).setCell ⟨h, 5, none⟩ y5).setCell ⟨h, 6, none⟩ y6).setCell ⟨h, 7, none⟩ y7).setCell ⟨h, 8, none⟩ y8).setCell ⟨h, 9, none⟩ y9).heap[h]? = some (.cells #[y0, y1, y2, y3, y4, y5, y6, y7, y8, y9] t) := setCell_same h8 y9
  have g : ∀ (V : World) (k : Nat) (v : Value), V.grownBy (V.setCell ⟨h, k, none⟩ v) (some h) := fun V k v => grown_set V h k v
  have tr : ∀ {a b c : World}, a.grownBy b (some h) → b.grownBy c (some h) → a.grownBy c (some h) := fun p q => p.andThen q (fun j hj => .inr hj)
  have e : W.grownBy ((((((((((W.setCell ⟨h, 0, none⟩ y0).setCell ⟨h, 1, none⟩ y1).setCell ⟨h, 2, none⟩ y2).setCell ⟨h, 3, none⟩ y3).setCell ⟨h, 4, none⟩ y4).setCell ⟨h, 5, none⟩ y5).setCell ⟨h, 6, none⟩ y6).setCell ⟨h, 7, none⟩ y7).setCell ⟨h, 8, none⟩ y8).setCell ⟨h, 9, none⟩ y9) (some h) := (tr (tr (tr (tr (tr (tr (tr (tr (tr (g _ 0 _) (g _ 1 _)) (g _ 2 _)) (g _ 3 _)) (g _ 4 _)) (g _ 5 _)) (g _ 6 _)) (g _ 7 _)) (g _ 8 _)) (g _ 9 _))
  have fin : ∀ V : World, V.heap[h]? = some (.cells #[y0, y1, y2, y3, y4, y5, y6, y7, y8, y9] t) → W.grownBy V (some h) → V.drew.heap[h]? = some (.cells #[y0, y1, y2, y3, y4, y5, y6, y7, y8, y9] t) ∧ W.grownBy V.drew (some h) := fun V p q => ⟨p, q.os, q.tape, q.output, q.size, q.block⟩
  exact fin _ h9 e

theorem hows_range : ∀ a ∈ hows, 0 ≤ a ∧ a ≤ 4294967295 := by decide

set_option maxRecDepth 100000 in
set_option maxHeartbeats 4000000 in
theorem how_any (d : Nat) (a : Option Addr) (len cap : Nat) (zs : List Int) (w W : World) (h : Rd w W d a len cap zs) (hA : Any w) :
    Calls Tryd.prog 72 #[.pointer (some ⟨d, 0, none⟩)] W fun e W' => e = .returned (.tuple #[.int .u32 (hw zs).h, rowV (rowOf (hw zs)), .int .i64 (hw zs).e]) ∧ HowPost w W d zs W' := by
  have hAW : Any W := ⟨(h.below.cell (p := ⟨0, 0, none⟩) hA.pos).trans hA.c0, (h.below.cell (p := ⟨0, 1, none⟩) hA.pos).trans hA.c1⟩
  have hd := h.lt
  have hlow := h.low
  have hpos := hA.pos
  have hB0 : ∀ o, Below W.heap.size W (W.alloc o) := fun o => (Below.refl _ _).alloc (Nat.le_refl _) o
  have hn1 : ∀ o, (W.alloc o).heap.size = W.heap.size + 1 := fun o => by simp
  have hrows : ∀ o, Calls Tryd.prog 25 #[] (W.alloc o) fun e w' => e = .returned (.map (some (W.heap.size + 1))) ∧ w'.ownsMap Tryd.prog 23 rowR (W.heap.size + 1) 7 (Dp hows) ∧ Below (W.heap.size + 1) (W.alloc o) w' := fun o => by
    have := rows_any (W.alloc o) (hAW.below (hB0 o))
    rwa [hn1] at this
  go_enter Tryd.func72, Tryd.ntmps72
  go_wp2_with (go_at_call 25; refine (hrows _).mono ?_; rintro e w2 ⟨rfl, hown, hb2⟩)
  have hH : Hw w W d W.heap.size zs w2 := by
    have hb2' : Below W.heap.size W w2 := (hB0 _).trans (hb2.mono (by omega))
    have hb3 := hb2
    refine ⟨⟨a, len, cap, h.next hb2'⟩, (hb2.block _ (by omega)).trans (heap_alloc_last W _), hAW.below hb2', grown_below hb2' _, hd, Nat.le_refl _, hpos⟩
  clear hb2 hrows hn1 hB0
  go_loopw [6] (fun p wr => ∃ k : Nat, k ≤ 4 ∧ 4 * k ≤ zs.length ∧ p = .int .i64 k ∧ wr.ownsMap Tryd.prog 23 rowR (W.heap.size + 1) 7 (Dp (lf zs k)) ∧ Hw w W d W.heap.size (zs.drop (4 * k)) wr ∧ hw zs = hwAt (5 - k) zs k)
    (fun p _ => 4 - (intOf p).toNat)
  case atStart => exact ⟨0, by omega, by omega, rfl, hown, by simpa using hH, (hw_eq zs).symm⟩
  case round =>
    obtain ⟨k, hk, hk4, rfl, hown, hH, hhw⟩ := hrel
    have hsz : Maps.size (Dp (lf zs k)) = (lf zs k).length := size_Dp _
    by_cases hm1 : (lf zs k).length ≤ 1
    · have hend : hw zs = hwEnd (lf zs k) k := by rw [hhw, show 5 - k = (4 - k) + 1 from by omega, hwAt, if_pos hm1]
      clear hhw
      have hcs : lf zs k = [] ∨ ∃ b, lf zs k = [b] := by
        match hL : lf zs k, hm1 with
        | [], _ => exact .inl rfl
        | [b], _ => exact .inr ⟨b, rfl⟩
        | _ :: _ :: _, h1 => simp at h1
      have hLm : ∀ a ∈ lf zs k, a ∈ hows := fun a ha => lf_mem ha
      generalize lf zs k = L at *
      have hwl := hown.lt
      generalize hm : L.length = m at *
      go_wp2_with (first
        | (at_len; refine wpList_len_own _ rfl _ 59 rfl 23 57 Tryd.underlying59 rowR (W.heap.size + 1) 7 _ rfl hown ?_; rw [hsz])
        | (at_range; refine wpList_range_own _ rfl _ 59 rfl 23 57 lawA Tryd.underlying59 rowR (W.heap.size + 1) 7 _ rfl hown ?_; intro w3 hrg0 hg3 hs3))
      go_frame
      have hH3 := hH.kept hg3 (fun j hj => by cases hj)
      refine wp_loop_rounds 1 ?_
      rw [rounds_succ]
      go_wp2_with (first
        | (at_next; refine wpList_next_rows _ rfl _ rfl (W.heap.size + 1) wr.heap.size 7 _ _ _ rfl hrg0 ?_ ?_)
        | go_in)
      · intro hl0
        have hL0 : L = [] := by
          rcases hcs with h0 | ⟨b, hb⟩
          · exact h0
          · have := hl0 (.int .u32 b)
            rw [hb, has_Dp] at this
            simp at this
        subst hL0
        have hC3 := hH3.res
        go_wp2_with (refine wpList_store_whole rfl 57 _ _ rfl W.heap.size _ rfl rfl _ _ hC3 infoR rfl (by simp [Value.oneCell']) ?_; intro w4 hC4 hg4 hs4)
        obtain ⟨z0, z1, z2, z3, z4, z5, z6, z7, z8, z9⟩ := ten_at hC4
        refine bodyPost_ret (v := .tuple #[.int .u32 0, rowV 999, .int .i64 5]) (by simp [results, Tryd.results72, go_sem, z0, z1, z2, z3, z4, z5, z6, z7, z8, z9]; decide) rfl ?_
        exact ⟨by first | rfl | (rw [hend]; rfl), ⟨hH3.grown.andThen hg4 (fun j hj => by cases hj; exact .inl (Nat.le_refl _)), fun e => by rw [hend] at e; cases e⟩⟩
      · intro x w4 cnt4 hxL hrg4 hlt4 hg4 hen
        have hLx : L = [x] := by
          rcases hcs with h0 | ⟨b, hb⟩
          · rw [h0] at hxL; cases hxL
          · rw [hb] at hxL
            rw [hb, List.mem_singleton.1 hxL]
        subst hLx
        have hH4 := hH3.kept hg4 (fun j hj => by cases hj; omega)
        go_wp2_with (refine wpList_store_whole rfl 57 _ _ rfl w4.heap.size _ rfl rfl _ _ (heap_alloc_last w4 _) infoR rfl (by simp [Value.oneCell']) ?_; intro w7 hC7 hg7 hs7; obtain ⟨z0, z1, z2, z3, z4, z5, z6, z7, z8, z9⟩ := ten_at hC7; have hH7 := hH4.kept ((World.grownBy_alloc w4 _ none).andThen hg7 (fun j hj => by cases hj; exact .inl (Nat.le_refl _))) (fun j hj => by cases hj); have hC8 := hH7.res; obtain ⟨y0, y1, y2, y3, y4, y5, y6, y7, y8, y9⟩ := ten_at hC8)
        have fz : ∀ i, w7.frozen? ⟨W.heap.size, i, none⟩ = false := fun i => frozen_at hC8
        go_region
        obtain ⟨hC9, hg9⟩ := ten_set hC8 (.int .u32 (fx0 x)) (.int .u32 (fx1 x)) (.int .u32 0) (.int .u32 (fx3 x)) (.int .i64 (mny x)) (.int .u32 (lo0 x)) (.int .u32 (lo1 x)) (.int .u32 0) (.int .u32 (hi1 x)) (.bool (bod x))
        generalize (((((((((((w7.setCell ⟨W.heap.size, 0, none⟩ (.int .u32 (fx0 x))).setCell ⟨W.heap.size, 1, none⟩ (.int .u32 (fx1 x))).setCell ⟨W.heap.size, 2, none⟩ (.int .u32 0)).setCell ⟨W.heap.size, 3, none⟩ (.int .u32 (fx3 x))).setCell ⟨W.heap.size, 4, none⟩ (.int .i64 (mny x))).setCell ⟨W.heap.size, 5, none⟩ (.int .u32 (lo0 x))).setCell ⟨W.heap.size, 6, none⟩ (.int .u32 (lo1 x))).setCell ⟨W.heap.size, 7, none⟩ (.int .u32 0)).setCell ⟨W.heap.size, 8, none⟩ (.int .u32 (hi1 x))).setCell ⟨W.heap.size, 9, none⟩ (.bool (bod x)))).drew = w9 at *
        clear y0 y1 y2 y3 y4 y5 y6 y7 y8 y9 z0 z1 z2 z3 z4 z5 z6 z7 z8 z9
        obtain ⟨z0, z1, z2, z3, z4, z5, z6, z7, z8, z9⟩ := ten_at hC9
        go_wp2
        refine bodyPost_ret (v := .tuple #[.int .u32 x, rowV x, .int .i64 0]) (by simp [results, Tryd.results72, go_sem, z0, z1, z2, z3, z4, z5, z6, z7, z8, z9]) rfl ?_
        have hlow7 := hH7.low
        refine ⟨by first | rfl | (rw [hend]; rfl), ⟨hH7.grown.andThen hg9 (fun j hj => by cases hj; exact .inl (Nat.le_refl _)), fun e => ?_⟩⟩
        obtain ⟨a9, len9, cap9, hr9⟩ := hH7.rd
        exact ⟨a9, len9, cap9, by rw [hend]; exact hr9.stay (hg9.block d (by have := hH7.grown.size; omega) (fun e => by cases e; omega)) (hr9.below.grown hg9 hr9.below.size (fun k e => by cases e; omega))⟩
    · have hk3 : k ≤ 3 := by
        rcases Nat.lt_or_ge k 4 with h1 | h1
        · omega
        · obtain rfl : k = 4 := by omega
          exact absurd (lf4 zs) hm1
      obtain ⟨a1, len1, cap1, hrd⟩ := hH.rd
      have c0 := hH.any.c0
      have c1 := hH.any.c1
      have hlen1 : (zs.drop (4 * k)).length = zs.length - 4 * k := List.length_drop
      have hstep : hw zs = if zs.length < 4 * (k + 1) then ⟨4, 0, k⟩ else hwAt (4 - k) zs (k + 1) := by rw [hhw, show 5 - k = (4 - k) + 1 from by omega, hwAt, if_neg hm1]
      generalize (lf zs k).length = m at *
      have hnum := number_any d 0 4294967295 a1 len1 cap1 _ w wr hrd
      by_cases hsh : zs.length < 4 * (k + 1)
      · have hE : nuE 0 4294967295 (zs.drop (4 * k)) = 4 := by rw [nuE, if_neg (by decide), if_pos (by omega)]
        have hN : nuN 0 4294967295 (zs.drop (4 * k)) = 0 := by rw [nuN, if_neg (by decide), hE]; rfl
        rw [if_pos hsh] at hstep
        rw [hE, hN] at hnum
        rw [hstep]
        clear hE hN hsh hlen1 hhw
        go_wp2_with (first
          | (at_len; refine wpList_len_own _ rfl _ 59 rfl 23 57 Tryd.underlying59 rowR (W.heap.size + 1) 7 _ rfl hown ?_; rw [hsz])
          | (go_at_call 71; refine hnum.mono ?_; rintro e w3 ⟨rfl, hP⟩; obtain ⟨hg3, hC3⟩ := hH.err hP)
          | (refine wpList_store_whole rfl 57 _ _ rfl W.heap.size _ rfl rfl _ _ hC3 infoR rfl (by simp [Value.oneCell']) ?_; intro w4 hC4 hg4 hs4))
        obtain ⟨z0, z1, z2, z3, z4, z5, z6, z7, z8, z9⟩ := ten_at hC4
        refine bodyPost_ret (v := .tuple #[.int .u32 0, rowV 999, .int .i64 4]) (by simp [results, Tryd.results72, go_sem, z0, z1, z2, z3, z4, z5, z6, z7, z8, z9]; decide) rfl ?_
        exact ⟨by first | rfl | (rw [hstep]; rfl), ⟨hg3.andThen hg4 (fun j hj => by cases hj; exact .inl (Nat.le_refl _)), fun e => by rw [hstep] at e; cases e⟩⟩
      · have hnr := num_range h.byt k (by omega)
        have hE : nuE 0 4294967295 (zs.drop (4 * k)) = 0 := by
          rw [nuE, if_neg (by decide), if_neg (by omega), if_neg]
          show ¬ (num zs k < 0 ∨ 4294967295 < num zs k)
          omega
        have hN : nuN 0 4294967295 (zs.drop (4 * k)) = num zs k := by rw [nuN, if_neg (by decide), if_pos hE]; rfl
        have hZ : nuZ 0 4294967295 (zs.drop (4 * k)) = zs.drop (4 * (k + 1)) := by rw [nuZ, if_neg (by decide), List.drop_drop]; rfl
        rw [if_neg hsh] at hstep
        rw [hE, hN] at hnum
        have hlf : lf zs (k + 1) = (lf zs k).filter fun a => bgn a k (num zs k) := rfl
        have hLm : ∀ a ∈ lf zs k, a ∈ hows := fun a ha => lf_mem ha
        generalize num zs k = n at *
        generalize lf zs k = L at *
        clear hN hlen1 hhw hrd
        go_wp2_with (first
          | (at_len; refine wpList_len_own _ rfl _ 59 rfl 23 57 Tryd.underlying59 rowR (W.heap.size + 1) 7 _ rfl hown ?_; rw [hsz])
          | (go_at_call 71; refine hnum.mono ?_; rintro e w3 ⟨rfl, hP⟩; have hH3 := hH.num hP hE; rw [hZ] at hH3; have hown3 := hown.kept hP.grown (fun e => by cases e; omega); have hs3 := hP.grown.size)
          | (at_range; refine wpList_range_own _ rfl _ 59 rfl 23 57 lawA Tryd.underlying59 rowR (W.heap.size + 1) 7 _ rfl hown3 ?_; intro w4 hrg0 hg4 hs4))
        go_frame
        have hH4 := hH3.kept hg4 (fun j hj => by cases hj)
        have hr3 : W.heap.size + 1 < w3.heap.size := hown3.lt
        have hstep' := hstep
        clear hP hH3 hown3 hnum hH hown c0 c1 hsz
        generalize w3.heap.size = r at *
        go_loopw [31] (fun _ wr => ∃ left cnt, wr.ranges Tryd.prog 23 rowR (W.heap.size + 1) r 7 (Dp (mid L k n left)) left cnt ∧ Hw w W d W.heap.size (zs.drop (4 * (k + 1))) wr) (fun _ wr => wr.rangeLeft (W.heap.size + 1) r)
        case atStart => exact ⟨_, _, by rw [mid_start]; exact hrg0, hH4⟩
        case round =>
          obtain ⟨left, cnt, hrg, hH5⟩ := hrel
          go_wp2_with (first
            | (at_next; refine wpList_next_rows _ rfl _ rfl (W.heap.size + 1) r 7 _ _ _ rfl hrg ?_ ?_)
            | go_in)
          · intro hl0
            rw [mid_end hl0, ← hlf] at hrg
            have hown5 := hrg.owns
            clear hrg hrg0 hE hZ hlf
            go_wp2
            go_roundw
            case rel => exact ⟨k + 1, by omega, by omega, by go_num, hown5, hH5, by rw [hstep]; congr 1; omega⟩
            case measure => simp [intOf]; omega
          · intro x w6 cnt6 hxL hrg6 hlt6 hg6 hen
            have hH6 := hH5.kept hg6 (fun j hj => by cases hj; omega)
            have hxr := hows_range x (hLm x (List.mem_filter.1 hxL).1)
            have hkx := keyA hxr.1 hxr.2
            cases hbg : bgn x k n with
            | false =>
              have hbeg : ∀ W, Calls Tryd.prog 79 #[rowV x, .int .i64 k, .int .u32 n] W fun e w' => e = .returned (.bool false) ∧ Below W.heap.size W w' := fun W => by
                have := begins_any x k (by omega) n W
                rwa [hbg] at this
              go_wp2_with (first
                | (refine wpList_store_whole rfl 57 _ _ rfl w6.heap.size _ rfl rfl _ _ (heap_alloc_last w6 _) infoR rfl (by simp [Value.oneCell']) ?_; intro w7 hC7 hg7 hs7; obtain ⟨z0, z1, z2, z3, z4, z5, z6, z7, z8, z9⟩ := ten_at hC7)
                | (go_at_call 79; refine (hbeg w7).mono ?_; rintro e w8 ⟨rfl, hb8⟩; have hg8 := ((World.grownBy_alloc w6 _ none).andThen hg7 (fun j hj => by cases hj; exact .inl (Nat.le_refl _))).andThen (grown_below hb8 none) (fun j hj => by cases hj); have hrg8 := hrg6.kept hg8 (by simp) (by simp); have hH8 := hH6.kept hg8 (fun j hj => by cases hj))
                | (at_delete; refine wpList_delete_ranges _ rfl _ _ 59 23 rfl 57 lawA Tryd.underlying59 rowR (W.heap.size + 1) r 7 _ _ _ rfl hrg8 _ _ rfl hkx ?_; intro w9 cnt9 hrg9 hle9 hturn9; go_frame)
                | go_in)
              rw [strike_twice, del_Dp, ← mid_goes hbg] at hrg9
              have hH9 := hH8.kept hturn9.grown (fun j hj => by cases hj; omega)
              go_roundw
              case rel => exact ⟨_, cnt9, hrg9, hH9⟩
              case measure => rw [hrg9.left_eq, hrg.left_eq]; omega
            | true =>
              have hbeg : ∀ W, Calls Tryd.prog 79 #[rowV x, .int .i64 k, .int .u32 n] W fun e w' => e = .returned (.bool true) ∧ Below W.heap.size W w' := fun W => by
                have := begins_any x k (by omega) n W
                rwa [hbg] at this
              go_wp2_with (first
                | (refine wpList_store_whole rfl 57 _ _ rfl w6.heap.size _ rfl rfl _ _ (heap_alloc_last w6 _) infoR rfl (by simp [Value.oneCell']) ?_; intro w7 hC7 hg7 hs7; obtain ⟨z0, z1, z2, z3, z4, z5, z6, z7, z8, z9⟩ := ten_at hC7)
                | (go_at_call 79; refine (hbeg w7).mono ?_; rintro e w8 ⟨rfl, hb8⟩; have hg8 := ((World.grownBy_alloc w6 _ none).andThen hg7 (fun j hj => by cases hj; exact .inl (Nat.le_refl _))).andThen (grown_below hb8 none) (fun j hj => by cases hj); have hrg8 := hrg6.kept hg8 (by simp) (by simp); have hH8 := hH6.kept hg8 (fun j hj => by cases hj))
                | go_in)
              rw [← mid_stays (x := x) (left := left) hbg] at hrg8
              go_roundw
              case rel => exact ⟨_, cnt6, hrg8, hH8⟩
              case measure => rw [hrg8.left_eq, hrg.left_eq]; omega
end Go.Proofs.YtmjhgpmeikpbkaaDoor
