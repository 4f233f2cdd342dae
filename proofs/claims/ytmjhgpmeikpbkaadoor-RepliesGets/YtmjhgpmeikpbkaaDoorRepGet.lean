/- 'Get': the reply that any bytes are, or the error; nothing that was there turns. -/
import Derived.Test.YtmjhgpmeikpbkaaDoorRepReply
namespace Go.Proofs.YtmjhgpmeikpbkaaDoor
set_option linter.unusedVariables false
open Go.RowKit

/-- What Get leaves: the answer y, its Body in memory of its own. -/
structure GotR (w : World) (y : RP) (e : Ending) (W' : World) : Prop where
  below : Below w.heap.size w W'
  told : ∃ va vn vc, e = .returned (.tuple #[.agg #[.int .u32 y.x, .int .u32 y.h, .int .u32 y.l, .int .u32 y.g, .slice va vn vc], .int .i64 y.e]) ∧
    W'.ownsRow w.heap.size 5 1 (.slice va vn vc) y.b.length (y.b.map (Value.int .u8))

theorem own_keep {w w' : World} {base e n : Nat} {v : Value} {xs : List Value} (h : w.ownsRow base e 1 v n xs) (hg : w.grownBy w' none) : w'.ownsRow base e 1 v n xs :=
  own_below h ⟨hg.os, hg.tape, hg.output, hg.size, fun k hk => hg.block k hk (by simp)⟩

theorem get_rd (a : Option Addr) (len cap : Nat) (zs : List Int) (w : World) (A : Obj) (hlc : len ≤ cap) (hm : cap ≤ 9223372036854775807) (hz : zs.length = len) (hb : Byt zs) (hs : Seg w a zs) (hn : a = none → len = 0 ∧ cap = 0) :
    Rd w ((w.alloc A).alloc (.cells #[.slice a len cap] 66)) (w.heap.size + 1) a len cap zs := by
  obtain ⟨h1, h2, h3, h4⟩ := two_boxes w A (.cells #[.slice a len cap] 66)
  exact ⟨h2, hz, hlc, hm, hb, hs, hn, by omega, h3⟩

set_option maxRecDepth 100000 in
set_option maxHeartbeats 4000000 in
theorem rget_any (a : Option Addr) (len cap : Nat) (zs : List Int) (w : World) (hlc : len ≤ cap) (hm : cap ≤ 9223372036854775807) (hz : zs.length = len) (hb : Byt zs) (hs : Seg w a zs) (hn : a = none → len = 0 ∧ cap = 0) (hA : Any w) :
    Calls Tryd.prog 18 #[.slice a len cap] w fun e W' => GotR w (rp zs) e W' := by
  by_cases hbig : 65536 < len
  · have hy : rp zs = rpNo 3 := by rw [rp, if_pos (by omega)]
    go_enter Tryd.func18, Tryd.ntmps18
    go_wp2_with (refine wpList_store_whole rfl 26 _ _ rfl w.heap.size #[.int .u32 0, .int .u32 0, .int .u32 0, .int .u32 0, .slice none 0 0] rfl rfl _ _ (heap_alloc_last w _) infoP rfl (by simp [Value.oneCell']) ?_; intro w9 hC9 hg9 hs9)
    obtain ⟨⟨v0, v1, v2, v3, v4⟩, _⟩ := five_cells hC9
    refine bodyPost_ret (v := .tuple #[.agg #[.int .u32 0, .int .u32 0, .int .u32 0, .int .u32 0, .slice none 0 0], .int .i64 3]) (by simp [results, Tryd.results18, go_sem, v0, v1, v2, v3, v4]) rfl ?_
    rw [hy]
    exact ⟨((Below.refl _ w).alloc (Nat.le_refl _) _).grown hg9 (by simp) (fun k e => by cases e; exact Nat.le_refl _), none, 0, 0, rfl, rfl, .inl ⟨rfl, rfl⟩⟩
  · have hy : rp zs = rpC zs := (rpC_eq hb (by omega)).symm
    have hrep := fun A => reply_any (w.heap.size + 1) a len cap zs w _ (get_rd a len cap zs w A hlc hm hz hb hs hn) hA (by omega)
    rw [hy]
    by_cases he : (rpC zs).e = 0
    · go_enter Tryd.func18, Tryd.ntmps18
      go_wp2_with (first
        | (refine wpList_store_whole rfl 26 _ _ rfl w.heap.size #[.int .u32 (rpC zs).x, .int .u32 (rpC zs).h, .int .u32 (rpC zs).l, .int .u32 (rpC zs).g, .slice va vn vc] rfl rfl _ _ (hC4 _) infoP rfl (by simp [Value.oneCell']) ?_; intro w9 hC9 hg9 hs9)
        | (go_at_call 51; refine (hrep _).mono ?_; rintro e w3 ⟨hg3, xx, hh, ll, gg, va, vn, vc, rfl, hok⟩; obtain ⟨rfl, rfl, rfl, rfl, ho⟩ := hok he; clear hok; have hC3 := (hg3.block w.heap.size (by simp; omega) (fun e => by injection e with e; omega)).trans (two_boxes w _ _).1; have hB3 := (two_boxes w _ _).2.2.1.grown hg3 (two_boxes w _ _).2.2.1.size (fun k e => by cases e; omega); have hC4 := fun o => ((MapKept.heap_alloc w3 o).2 _ (Array.getElem?_eq_some_iff.1 hC3).1).trans hC3))
      obtain ⟨⟨v0, v1, v2, v3, v4⟩, _⟩ := five_cells hC9
      refine bodyPost_ret (v := .tuple #[.agg #[.int .u32 (rpC zs).x, .int .u32 (rpC zs).h, .int .u32 (rpC zs).l, .int .u32 (rpC zs).g, .slice va vn vc], .int .i64 0]) (by simp [results, Tryd.results18, go_sem, v0, v1, v2, v3, v4]) rfl ?_
      have hB4 := hB3.grown (World.grownBy_alloc w3 (.cells #[.int .u32 (rpC zs).x, .int .u32 (rpC zs).h, .int .u32 (rpC zs).l, .int .u32 (rpC zs).g, .slice va vn vc] 26) none) hB3.size (fun k e => by cases e)
      refine ⟨hB4.grown hg9 hB4.size (fun k e => by cases e; exact Nat.le_refl _), va, vn, vc, by rw [he], ?_⟩
      have e2 : ∀ A B : Obj, ((w.alloc A).alloc B).heap.size = w.heap.size + 2 := fun A B => (two_boxes w A B).2.2.2
      rw [e2] at ho
      exact own_base (own_grown (own_keep ho (World.grownBy_alloc w3 _ none)) hg9 (by omega)) (by omega)
    · have hb0 := bne_true he
      go_enter Tryd.func18, Tryd.ntmps18
      go_wp2_with (first
        | (refine wpList_store_whole rfl 26 _ _ rfl w.heap.size #[.int .u32 0, .int .u32 0, .int .u32 0, .int .u32 0, .slice none 0 0] rfl rfl _ _ (hC4 _) infoP rfl (by simp [Value.oneCell']) ?_; intro w9 hC9 hg9 hs9)
        | (go_at_call 51; refine (hrep _).mono ?_; rintro e w3 ⟨hg3, xx, hh, ll, gg, va, vn, vc, rfl, hok⟩; clear hok; have hC3 := (hg3.block w.heap.size (by simp; omega) (fun e => by injection e with e; omega)).trans (two_boxes w _ _).1; have hB3 := (two_boxes w _ _).2.2.1.grown hg3 (two_boxes w _ _).2.2.1.size (fun k e => by cases e; omega); have hC4 := fun o => ((MapKept.heap_alloc w3 o).2 _ (Array.getElem?_eq_some_iff.1 hC3).1).trans hC3))
      obtain ⟨⟨v0, v1, v2, v3, v4⟩, _⟩ := five_cells hC9
      refine bodyPost_ret (v := .tuple #[.agg #[.int .u32 0, .int .u32 0, .int .u32 0, .int .u32 0, .slice none 0 0], .int .i64 (rpC zs).e]) (by simp [results, Tryd.results18, go_sem, v0, v1, v2, v3, v4]) rfl ?_
      have hB4 := hB3.grown (World.grownBy_alloc w3 (.cells #[.int .u32 xx, .int .u32 hh, .int .u32 ll, .int .u32 gg, .slice va vn vc] 26) none) hB3.size (fun k e => by cases e)
      have hB9 := hB4.grown hg9 hB4.size (fun k e => by cases e; exact Nat.le_refl _)
      rw [← hy] at he ⊢
      obtain ⟨hno, _⟩ := rp_err he
      generalize (rp zs).e = ee at *
      rw [hno]
      exact ⟨hB9, none, 0, 0, rfl, rfl, .inl ⟨rfl, rfl⟩⟩
end Go.Proofs.YtmjhgpmeikpbkaaDoor
