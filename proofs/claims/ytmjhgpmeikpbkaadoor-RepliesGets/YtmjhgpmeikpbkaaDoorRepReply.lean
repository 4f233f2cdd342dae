/- 'reader.reply': the reply that bytes are, read step by step. -/
import Derived.Test.YtmjhgpmeikpbkaaDoorRepGetMath
namespace Go.Proofs.YtmjhgpmeikpbkaaDoor
set_option linter.unusedVariables false
open Go.RowKit Go.Maps

/-- What stays in 'reply': block C is o. -/
structure Hx (w W : World) (d C : Nat) (cs : Array Value) (t : TypeId) (zs : List Int) (wr : World) : Prop where
  rd : ∃ a len cap, Rd w wr d a len cap zs
  res : wr.heap[C]? = some (.cells cs t (0, 0))
  grown : W.grownBy wr (some d)
  hd : d < W.heap.size
  hC : W.heap.size ≤ C

theorem Hx.low {w W : World} {d C : Nat} {cs : Array Value} {t : TypeId} {zs : List Int} {wr : World} (h : Hx w W d C cs t zs wr) : w.heap.size ≤ d := by
  obtain ⟨_, _, _, h⟩ := h.rd
  exact h.low

theorem Hx.kept {w W : World} {d C : Nat} {cs : Array Value} {t : TypeId} {zs : List Int} {wr wr' : World} (h : Hx w W d C cs t zs wr) {row : Option Nat} (hg : wr.grownBy wr' row) (hr : ∀ j, row = some j → W.heap.size ≤ j ∧ j ≠ C) : Hx w W d C cs t zs wr' := by
  have hlow := h.low
  have hs := h.grown.size
  have hd := h.hd
  have hlC := (Array.getElem?_eq_some_iff.1 h.res).1
  refine ⟨?_, ?_, ?_, h.hd, h.hC⟩
  · obtain ⟨a, len, cap, hr0⟩ := h.rd
    exact ⟨a, len, cap, hr0.stay (hg.block d (by omega) (fun e => by have := (hr d e.symm).1; omega)) (hr0.below.grown hg hr0.below.size (fun k e => by have := (hr k e).1; omega))⟩
  · exact (hg.block C hlC (fun e => (hr C e.symm).2 rfl)).trans h.res
  · exact h.grown.andThen hg (fun j hj => .inl (hr j hj).1)

/-- The reader goes on. -/
theorem Hx.step {w W : World} {d C : Nat} {cs : Array Value} {t : TypeId} {zs zs' : List Int} {wr w1 : World} (h : Hx w W d C cs t zs wr) (hg : wr.grownBy w1 (some d)) (hl : ∃ a len cap, Rd w w1 d a len cap zs') : Hx w W d C cs t zs' w1 := by
  have hd := h.hd
  have hC := h.hC
  have hlC := (Array.getElem?_eq_some_iff.1 h.res).1
  exact ⟨hl, (hg.block C hlC (fun e => by cases e; omega)).trans h.res, h.grown.andThen hg (fun j hj => .inr hj), h.hd, h.hC⟩

/-- .. or not: what has turned. -/
theorem Hx.err {w W : World} {d C : Nat} {cs : Array Value} {t : TypeId} {zs : List Int} {wr w1 : World} (h : Hx w W d C cs t zs wr) (hg : wr.grownBy w1 (some d)) : W.grownBy w1 (some d) ∧ w1.heap[C]? = some (.cells cs t (0, 0)) := by
  have hd := h.hd
  have hC := h.hC
  have hlC := (Array.getElem?_eq_some_iff.1 h.res).1
  exact ⟨h.grown.andThen hg (fun j hj => .inr hj), (hg.block C hlC (fun e => by cases e; omega)).trans h.res⟩

theorem Hx.errs {w W : World} {d C : Nat} {cs cs' : Array Value} {t : TypeId} {zs : List Int} {wr w1 : World} (h : Hx w W d C cs t zs wr) (hg : wr.grownBy w1 (some d)) (i : Nat) (v : Value) (hcs : cs.setIfInBounds i v = cs') :
    W.grownBy (w1.setCell ⟨C, i, none⟩ v) (some d) ∧ (w1.setCell ⟨C, i, none⟩ v).heap[C]? = some (.cells cs' t (0, 0)) := by
  obtain ⟨h1, h2⟩ := h.err hg
  have hC := h.hC
  exact ⟨h1.andThen (grown_set _ _ _ _) (fun j hj => by cases hj; exact .inl hC), by rw [← hcs]; exact setCell_same (k := i) h2 v⟩

/-- A cell of block C is stored. -/
theorem Hx.set {w W : World} {d C : Nat} {cs cs' : Array Value} {t : TypeId} {zs : List Int} {wr : World} (h : Hx w W d C cs t zs wr) (i : Nat) (v : Value) (hcs : cs.setIfInBounds i v = cs') : Hx w W d C cs' t zs (wr.setCell ⟨C, i, none⟩ v) := by
  have hlow := h.low
  have hC := h.hC
  have hd := h.hd
  obtain ⟨a, len, cap, hr0⟩ := h.rd
  refine ⟨⟨a, len, cap, hr0.stay (Below.heap_setCell _ _ _ _ (by show d ≠ C; omega)) (hr0.below.setCell (p := ⟨C, i, none⟩) (by show w.heap.size ≤ C; omega) _)⟩, ?_, h.grown.andThen (grown_set _ _ _ _) (fun j hj => by cases hj; exact .inl hC), h.hd, h.hC⟩
  rw [← hcs]
  exact setCell_same (k := i) h.res v

theorem set_kept {wr : World} {C k i : Nat} {v : Value} (hne : k ≠ C) : (wr.setCell ⟨C, i, none⟩ v).heap[k]? = wr.heap[k]? := Below.heap_setCell _ _ _ _ hne

theorem own_grown {w w' : World} {base e n C : Nat} {v : Value} {xs : List Value} (h : w.ownsRow base e 1 v n xs) (hg : w.grownBy w' (some C)) (hC : C < base) : w'.ownsRow base e 1 v n xs := by
  obtain ⟨h1, h2⟩ := h
  refine ⟨h1, ?_⟩
  rcases h2 with h2 | ⟨g, cap, cur, hv, hb, hh, r⟩
  · exact .inl h2
  · exact .inr ⟨g, cap, cur, hv, hb, (hg.block g (Array.getElem?_eq_some_iff.1 hh).1 (fun e => by injection e with e; omega)).trans hh, r⟩

theorem infoP : (Tryd.prog.info? 26).map (·.size) = some 5 := by kernel_rfl

theorem five_cells {W : World} {h : Nat} {x0 x1 x2 x3 x4 : Value} {t : TypeId} (hh : W.heap[h]? = some (.cells #[x0, x1, x2, x3, x4] t)) :
    (W.cell? ⟨h, 0, none⟩ = some x0 ∧ W.cell? ⟨h, 1, none⟩ = some x1 ∧ W.cell? ⟨h, 2, none⟩ = some x2 ∧ W.cell? ⟨h, 3, none⟩ = some x3 ∧ W.cell? ⟨h, 4, none⟩ = some x4) ∧ ∀ i, W.frozen? ⟨h, i, none⟩ = false :=
  ⟨five_at hh, fun i => frozen_at hh⟩

abbrev rowA (h : Int) : Array Value :=
  #[.int .u32 (fx0 h), .int .u32 (fx1 h), .int .u32 0, .int .u32 (fx3 h), .int .i64 (mny h), .int .u32 (lo0 h), .int .u32 (lo1 h), .int .u32 0, .int .u32 (hi1 h), .bool (bod h)]

theorem bne_true {e : Int} (h : e ≠ 0) : (e != 0) = true := by simp [h]

structure ReplyPost (W : World) (d : Nat) (y : RP) (e : Ending) (W' : World) : Prop where
  grown : W.grownBy W' (some d)
  told : ∃ x h l g va vn vc, e = .returned (.tuple #[.agg #[.int .u32 x, .int .u32 h, .int .u32 l, .int .u32 g, .slice va vn vc], .int .i64 y.e]) ∧
    (y.e = 0 → x = y.x ∧ h = y.h ∧ l = y.l ∧ g = y.g ∧ W'.ownsRow W.heap.size 5 1 (.slice va vn vc) y.b.length (y.b.map (Value.int .u8)))

set_option maxRecDepth 100000 in
set_option maxHeartbeats 8000000 in
theorem reply_any (d : Nat) (a : Option Addr) (len cap : Nat) (zs : List Int) (w W : World) (h : Rd w W d a len cap zs) (hA : Any w) (hlen : zs.length ≤ 65536) :
    Calls Tryd.prog 51 #[.pointer (some ⟨d, 0, none⟩)] W fun e W' => ReplyPost W d (rpC zs) e W' := by
  have hAW : Any W := ⟨(h.below.cell (p := ⟨0, 0, none⟩) hA.pos).trans hA.c0, (h.below.cell (p := ⟨0, 1, none⟩) hA.pos).trans hA.c1⟩
  have hd := h.lt
  have hlow := h.low
  have hbyt := h.byt
  have hX0 : ∀ cs t, Hx w W d W.heap.size cs t zs (W.alloc (.cells cs t)) := fun cs t => ⟨⟨a, len, cap, h.next ((Below.refl _ _).alloc (Nat.le_refl _) _)⟩, heap_alloc_last W _, (World.grownBy_alloc _ _ none).but _, hd, Nat.le_refl _⟩
  have c0 : ∀ o, (W.alloc o).cell? ⟨0, 0, none⟩ = some (.int .u32 0) := fun o => (hAW.below ((Below.refl _ _).alloc (Nat.le_refl _) _)).c0
  have c1 : ∀ o, (W.alloc o).cell? ⟨0, 1, none⟩ = some (.int .u32 4294967295) := fun o => (hAW.below ((Below.refl _ _).alloc (Nat.le_refl _) _)).c1
  by_cases hE1 : nuE 0 4294967295 zs ≠ 0
  · have hy : rpC zs = rpNo (nuE 0 4294967295 zs) := by rw [rpC, if_pos hE1]
    generalize hq : nuE 0 4294967295 zs = e1 at *
    have hz : nuN 0 4294967295 zs = 0 := by rw [nuN, if_neg (by decide), hq, if_neg hE1]
    have hb := bne_true hE1
    have hN1 : ∀ cs t, Calls Tryd.prog 71 #[.pointer (some ⟨d, 0, none⟩), .agg #[.int .u32 0, .int .u32 4294967295]] (W.alloc (.cells cs t)) fun e W' => e = .returned (.tuple #[.int .u32 0, .int .i64 e1]) ∧ NumPost w (W.alloc (.cells cs t)) d 0 4294967295 zs W' := fun cs t => by
      obtain ⟨ra, rl, rc, hrd⟩ := (hX0 cs t).rd
      have := number_any d 0 4294967295 ra rl rc zs w _ hrd
      rwa [hz, hq] at this
    clear hz hq
    go_enter Tryd.func51, Tryd.ntmps51
    go_wp2_with (first
      | (refine wpList_store_whole rfl 26 _ _ rfl W.heap.size _ rfl rfl _ _ hC8 infoP rfl (by simp [Value.oneCell']) ?_; intro w9 hC9 hg9 hs9)
      | (go_at_call 71; refine (hN1 _ _).mono ?_; rintro e w1 ⟨rfl, hP1⟩; obtain ⟨hgr0, hC80⟩ := (hX0 _ _).err hP1.grown; obtain ⟨⟨y0, y1, y2, y3, y4⟩, fz⟩ := five_cells hC80; obtain ⟨hgr, hC8⟩ := (hX0 _ _).errs hP1.grown 0 (.int .u32 0) rfl; have q8 := five_cells hC8))
    obtain ⟨⟨v0, v1, v2, v3, v4⟩, _⟩ := five_cells hC9
    refine bodyPost_ret (v := .tuple #[.agg #[.int .u32 0, .int .u32 0, .int .u32 0, .int .u32 0, .slice none 0 0], .int .i64 e1]) (by simp [results, Tryd.results51, go_sem, v0, v1, v2, v3, v4]) rfl ?_
    exact ⟨hgr.andThen hg9 (fun j hj => by cases hj; exact .inl (Nat.le_refl _)), _, _, _, _, _, _, _, by rw [hy]; rfl, fun e => by rw [hy] at e; exact absurd e hE1⟩
  replace hE1 : nuE 0 4294967295 zs = 0 := by simpa using hE1
  have hl4 : 4 ≤ zs.length := by
    rw [nuE_any hbyt] at hE1
    split at hE1
    · cases hE1
    · omega
  have hZ1 : nuZ 0 4294967295 zs = zs.drop 4 := nuZ_any zs
  have hV1 : nuN 0 4294967295 zs = num zs 0 := nuN_any hbyt hl4
  have hN1 : ∀ cs t, Calls Tryd.prog 71 #[.pointer (some ⟨d, 0, none⟩), .agg #[.int .u32 0, .int .u32 4294967295]] (W.alloc (.cells cs t)) fun e W' => e = .returned (.tuple #[.int .u32 (num zs 0), .int .i64 0]) ∧ NumPost w (W.alloc (.cells cs t)) d 0 4294967295 zs W' := fun cs t => by
    obtain ⟨ra, rl, rc, hrd⟩ := (hX0 cs t).rd
    have := number_any d 0 4294967295 ra rl rc zs w _ hrd
    rwa [hV1, hE1] at this
  clear hV1
  by_cases hE2 : nuE 1 1 (zs.drop 4) ≠ 0
  · have hy : rpC zs = rpNo (nuE 1 1 (zs.drop 4)) := by rw [rpC, if_neg (by simpa using hE1), if_pos hE2]
    generalize hq : nuE 1 1 (zs.drop 4) = e1 at *
    have hz : nuN 1 1 (zs.drop 4) = 0 := by rw [nuN, if_neg (by decide), hq, if_neg hE2]
    have hb := bne_true hE2
    have hN2 : ∀ wr, Hx w W d W.heap.size #[.int .u32 (num zs 0), .int .u32 0, .int .u32 0, .int .u32 0, .slice none 0 0] 26 (zs.drop 4) wr → Calls Tryd.prog 71 #[.pointer (some ⟨d, 0, none⟩), .agg #[.int .u32 1, .int .u32 1]] wr fun e W' => e = .returned (.tuple #[.int .u32 0, .int .i64 e1]) ∧ NumPost w wr d 1 1 (zs.drop 4) W' := fun wr hx => by
      obtain ⟨ra, rl, rc, hrd⟩ := hx.rd
      have := number_any d 1 1 ra rl rc (zs.drop 4) w _ hrd
      rwa [hz, hq] at this
    clear hz hq
    go_enter Tryd.func51, Tryd.ntmps51
    go_wp2_with (first
      | (refine wpList_store_whole rfl 26 _ _ rfl W.heap.size _ rfl rfl _ _ hC8 infoP rfl (by simp [Value.oneCell']) ?_; intro w9 hC9 hg9 hs9)
      | (go_at_call 71; refine (hN2 _ hX1s).mono ?_; rintro e w2 ⟨rfl, hP2⟩; obtain ⟨hgr, hC8⟩ := hX1s.err hP2.grown; clear y0 y1 y2 y3 y4 fz q1; obtain ⟨⟨y0, y1, y2, y3, y4⟩, fz⟩ := five_cells hC8)
      | (go_at_call 71; refine (hN1 _ _).mono ?_; rintro e w1 ⟨rfl, hP1⟩; have hX1 := (hX0 _ _).step hP1.grown (hP1.left hE1); rw [hZ1] at hX1; obtain ⟨⟨y0, y1, y2, y3, y4⟩, fz⟩ := five_cells hX1.res; have hX1s : Hx w W d W.heap.size #[.int .u32 (num zs 0), .int .u32 0, .int .u32 0, .int .u32 0, .slice none 0 0] 26 (zs.drop 4) _ := hX1.set 0 (.int .u32 (num zs 0)) rfl; have q1 := five_cells hX1s.res; clear hP1))
    obtain ⟨⟨v0, v1, v2, v3, v4⟩, _⟩ := five_cells hC9
    refine bodyPost_ret (v := .tuple #[.agg #[.int .u32 (num zs 0), .int .u32 0, .int .u32 0, .int .u32 0, .slice none 0 0], .int .i64 e1]) (by simp [results, Tryd.results51, go_sem, v0, v1, v2, v3, v4]) rfl ?_
    exact ⟨hgr.andThen hg9 (fun j hj => by cases hj; exact .inl (Nat.le_refl _)), _, _, _, _, _, _, _, by rw [hy]; rfl, fun e => by rw [hy] at e; exact absurd e hE2⟩
  replace hE2 : nuE 1 1 (zs.drop 4) = 0 := by simpa using hE2
  have hZ2 : nuZ 1 1 (zs.drop 4) = zs.drop 8 := by rw [nuZ, if_neg (by decide), List.drop_drop]
  have hN2 : ∀ wr, Hx w W d W.heap.size #[.int .u32 (num zs 0), .int .u32 0, .int .u32 0, .int .u32 0, .slice none 0 0] 26 (zs.drop 4) wr → Calls Tryd.prog 71 #[.pointer (some ⟨d, 0, none⟩), .agg #[.int .u32 1, .int .u32 1]] wr fun e W' => e = .returned (.tuple #[.int .u32 (nuN 1 1 (zs.drop 4)), .int .i64 0]) ∧ NumPost w wr d 1 1 (zs.drop 4) W' := fun wr hx => by
    obtain ⟨ra, rl, rc, hrd⟩ := hx.rd
    have := number_any d 1 1 ra rl rc (zs.drop 4) w _ hrd
    rwa [hE2] at this
  by_cases hE3 : (hw (zs.drop 8)).e ≠ 0
  · have hy : rpC zs = rpNo (hw (zs.drop 8)).e := by rw [rpC, if_neg (by simpa using hE1), if_neg (by simpa using hE2), if_pos hE3]
    obtain ⟨nn, hro⟩ : ∃ n, rowOf (hw (zs.drop 8)) = n := ⟨_, rfl⟩
    generalize hq : (hw (zs.drop 8)).e = e1 at *
    have hb := bne_true hE3
    have hN3 : ∀ wr, Hx w W d W.heap.size #[.int .u32 (num zs 0), .int .u32 0, .int .u32 0, .int .u32 0, .slice none 0 0] 26 (zs.drop 8) wr → Calls Tryd.prog 72 #[.pointer (some ⟨d, 0, none⟩)] wr fun e W' => e = .returned (.tuple #[.int .u32 (hw (zs.drop 8)).h, rowV nn, .int .i64 e1]) ∧ HowPost w wr d (zs.drop 8) W' := fun wr hx => by
      obtain ⟨ra, rl, rc, hrd⟩ := hx.rd
      have := how_any d ra rl rc (zs.drop 8) w _ hrd hA
      rwa [hro, hq] at this
    clear hro hq
    go_enter Tryd.func51, Tryd.ntmps51
    go_wp2_with (first
      | (refine wpList_store_whole rfl 26 _ _ rfl W.heap.size _ rfl rfl _ _ hC8 infoP rfl (by simp [Value.oneCell']) ?_; intro w9 hC9 hg9 hs9)
      | (refine wpList_store_whole rfl 57 _ _ rfl w2.heap.size (rowA nn) rfl rfl _ _ hR3s infoR rfl (by simp [rowA, Value.oneCell']) ?_; intro w4 hR4 hg4 hs4; have hgr := hgr1.andThen hg4 (fun j hj => by cases hj; exact .inl (by omega)); have hC8 : w4.heap[W.heap.size]? = some (.cells #[.int .u32 (num zs 0), .int .u32 (hw (zs.drop 8)).h, .int .u32 0, .int .u32 0, .slice none 0 0] 26) := (hg4.block W.heap.size (by simp [World.setCell]; have := (Array.getElem?_eq_some_iff.1 hC80).1; omega) (fun e => by injection e with e; omega)).trans hC81; clear y0 y1 y2 y3 y4 fz; obtain ⟨⟨y0, y1, y2, y3, y4⟩, fz⟩ := five_cells hC8)
      | (go_at_call 72; refine (hN3 _ (hX2a _)).mono ?_; rintro e w3 ⟨rfl, hP3⟩; obtain ⟨hgr0, hC80⟩ := (hX2a _).err hP3.grown; have hR3 := (hP3.grown.block w2.heap.size (by simp) (fun e => by cases e; omega)).trans (heap_alloc_last w2 _); obtain ⟨⟨y0, y1, y2, y3, y4⟩, fz⟩ := five_cells hC80; have hC81 : (w3.setCell ⟨W.heap.size, 1, none⟩ (.int .u32 (hw (zs.drop 8)).h)).heap[W.heap.size]? = some (.cells #[.int .u32 (num zs 0), .int .u32 (hw (zs.drop 8)).h, .int .u32 0, .int .u32 0, .slice none 0 0] 26) := setCell_same (k := 1) hC80 (.int .u32 (hw (zs.drop 8)).h); have hgr1 := hgr0.andThen (grown_set w3 W.heap.size 1 (.int .u32 (hw (zs.drop 8)).h)) (fun j hj => by cases hj; exact .inl (Nat.le_refl _)); have hR3s := (set_kept (i := 1) (v := .int .u32 (hw (zs.drop 8)).h) (show w2.heap.size ≠ W.heap.size by omega)).trans hR3)
      | (go_at_call 71; refine (hN2 _ hX1s).mono ?_; rintro e w2 ⟨rfl, hP2⟩; have hX2 := hX1s.step hP2.grown (hP2.left hE2); rw [hZ2] at hX2; clear y0 y1 y2 y3 y4 fz q1 hP2; have hX2a := fun o => hX2.kept (World.grownBy_alloc w2 o none) (fun j hj => by cases hj); have hw2 := hX2.grown.size; have hC2 := (Array.getElem?_eq_some_iff.1 hX2.res).1)
      | (go_at_call 71; refine (hN1 _ _).mono ?_; rintro e w1 ⟨rfl, hP1⟩; have hX1 := (hX0 _ _).step hP1.grown (hP1.left hE1); rw [hZ1] at hX1; obtain ⟨⟨y0, y1, y2, y3, y4⟩, fz⟩ := five_cells hX1.res; have hX1s : Hx w W d W.heap.size #[.int .u32 (num zs 0), .int .u32 0, .int .u32 0, .int .u32 0, .slice none 0 0] 26 (zs.drop 4) _ := hX1.set 0 (.int .u32 (num zs 0)) rfl; have q1 := five_cells hX1s.res; clear hP1))
    obtain ⟨⟨v0, v1, v2, v3, v4⟩, _⟩ := five_cells hC9
    refine bodyPost_ret (v := .tuple #[.agg #[.int .u32 (num zs 0), .int .u32 (hw (zs.drop 8)).h, .int .u32 0, .int .u32 0, .slice none 0 0], .int .i64 e1]) (by simp [results, Tryd.results51, go_sem, v0, v1, v2, v3, v4]) rfl ?_
    exact ⟨hgr.andThen hg9 (fun j hj => by cases hj; exact .inl (Nat.le_refl _)), _, _, _, _, _, _, _, by rw [hy]; rfl, fun e => by rw [hy] at e; exact absurd e hE3⟩
  replace hE3 : (hw (zs.drop 8)).e = 0 := by simpa using hE3
  have hro : rowOf (hw (zs.drop 8)) = (hw (zs.drop 8)).h := by rw [rowOf, if_pos hE3]
  have hZ3 : (zs.drop 8).drop (4 * (hw (zs.drop 8)).k) = z3 zs := by rw [List.drop_drop]; rfl
  have hN3 : ∀ wr, Hx w W d W.heap.size #[.int .u32 (num zs 0), .int .u32 0, .int .u32 0, .int .u32 0, .slice none 0 0] 26 (zs.drop 8) wr → Calls Tryd.prog 72 #[.pointer (some ⟨d, 0, none⟩)] wr fun e W' => e = .returned (.tuple #[.int .u32 (hw (zs.drop 8)).h, rowV (hw (zs.drop 8)).h, .int .i64 0]) ∧ HowPost w wr d (zs.drop 8) W' := fun wr hx => by
    obtain ⟨ra, rl, rc, hrd⟩ := hx.rd
    have := how_any d ra rl rc (zs.drop 8) w _ hrd hA
    rwa [hro, hE3] at this
  by_cases hE4 : rLo zs ≠ 0
  · have hy : rpC zs = rpNo (rLo zs) := by rw [rpC, if_neg (by simpa using hE1), if_neg (by simpa using hE2), if_neg (by simpa using hE3), if_pos hE4]
    have hq : nuE (lo0 (hw (zs.drop 8)).h) (lo1 (hw (zs.drop 8)).h) (z3 zs) = rLo zs := rfl
    generalize rLo zs = e1 at *
    have hz : ∃ n, nuN (lo0 (hw (zs.drop 8)).h) (lo1 (hw (zs.drop 8)).h) (z3 zs) = n := ⟨_, rfl⟩
    obtain ⟨nl, hz⟩ := hz
    have hb := bne_true hE4
    have hN4 : ∀ wr, Hx w W d W.heap.size #[.int .u32 (num zs 0), .int .u32 (hw (zs.drop 8)).h, .int .u32 0, .int .u32 0, .slice none 0 0] 26 (z3 zs) wr → Calls Tryd.prog 71 #[.pointer (some ⟨d, 0, none⟩), .agg #[.int .u32 (lo0 (hw (zs.drop 8)).h), .int .u32 (lo1 (hw (zs.drop 8)).h)]] wr fun e W' => e = .returned (.tuple #[.int .u32 nl, .int .i64 e1]) ∧ NumPost w wr d (lo0 (hw (zs.drop 8)).h) (lo1 (hw (zs.drop 8)).h) (z3 zs) W' := fun wr hx => by
      obtain ⟨ra, rl, rc, hrd⟩ := hx.rd
      have := number_any d (lo0 (hw (zs.drop 8)).h) (lo1 (hw (zs.drop 8)).h) ra rl rc (z3 zs) w _ hrd
      rwa [hz, hq] at this
    clear hz hq
    go_enter Tryd.func51, Tryd.ntmps51
    go_wp2_with (first
      | (refine wpList_store_whole rfl 26 _ _ rfl W.heap.size _ rfl rfl _ _ hC8 infoP rfl (by simp [Value.oneCell']) ?_; intro w9 hC9 hg9 hs9)
      | (go_at_call 71; refine (hN4 _ hX4).mono ?_; rintro e w5 ⟨rfl, hP5⟩; obtain ⟨hgr0, hC80⟩ := hX4.err hP5.grown; clear r0 r1 r2 r3 r4 r5 r6 r7 r8 r9; obtain ⟨⟨y0, y1, y2, y3, y4⟩, fz⟩ := five_cells hC80; obtain ⟨hgr, hC8⟩ := hX4.errs hP5.grown 2 (.int .u32 nl) rfl; have q8 := five_cells hC8)
      | (refine wpList_store_whole rfl 57 _ _ rfl w2.heap.size (rowA (hw (zs.drop 8)).h) rfl rfl _ _ hR3s infoR rfl (by simp [rowA, Value.oneCell']) ?_; intro w4 hR4 hg4 hs4; have hX4 := hX3s.kept hg4 (fun j hj => by cases hj; omega); clear y0 y1 y2 y3 y4 fz; obtain ⟨r0, r1, r2, r3, r4, r5, r6, r7, r8, r9⟩ := ten_at hR4)
      | (go_at_call 72; refine (hN3 _ (hX2a _)).mono ?_; rintro e w3 ⟨rfl, hP3⟩; have hX3 := (hX2a _).step hP3.grown (hP3.left hE3); have hR3 := (hP3.grown.block w2.heap.size (by simp) (fun e => by cases e; omega)).trans (heap_alloc_last w2 _); rw [hZ3] at hX3; clear hP3; obtain ⟨⟨y0, y1, y2, y3, y4⟩, fz⟩ := five_cells hX3.res; have hX3s : Hx w W d W.heap.size #[.int .u32 (num zs 0), .int .u32 (hw (zs.drop 8)).h, .int .u32 0, .int .u32 0, .slice none 0 0] 26 (z3 zs) _ := hX3.set 1 (.int .u32 (hw (zs.drop 8)).h) rfl; have hR3s := (set_kept (i := 1) (v := .int .u32 (hw (zs.drop 8)).h) (show w2.heap.size ≠ W.heap.size by omega)).trans hR3)
      | (go_at_call 71; refine (hN2 _ hX1s).mono ?_; rintro e w2 ⟨rfl, hP2⟩; have hX2 := hX1s.step hP2.grown (hP2.left hE2); rw [hZ2] at hX2; clear y0 y1 y2 y3 y4 fz q1 hP2; have hX2a := fun o => hX2.kept (World.grownBy_alloc w2 o none) (fun j hj => by cases hj); have hw2 := hX2.grown.size; have hC2 := (Array.getElem?_eq_some_iff.1 hX2.res).1)
      | (go_at_call 71; refine (hN1 _ _).mono ?_; rintro e w1 ⟨rfl, hP1⟩; have hX1 := (hX0 _ _).step hP1.grown (hP1.left hE1); rw [hZ1] at hX1; obtain ⟨⟨y0, y1, y2, y3, y4⟩, fz⟩ := five_cells hX1.res; have hX1s : Hx w W d W.heap.size #[.int .u32 (num zs 0), .int .u32 0, .int .u32 0, .int .u32 0, .slice none 0 0] 26 (zs.drop 4) _ := hX1.set 0 (.int .u32 (num zs 0)) rfl; have q1 := five_cells hX1s.res; clear hP1))
    obtain ⟨⟨v0, v1, v2, v3, v4⟩, _⟩ := five_cells hC9
    refine bodyPost_ret (v := .tuple #[.agg #[.int .u32 (num zs 0), .int .u32 (hw (zs.drop 8)).h, .int .u32 nl, .int .u32 0, .slice none 0 0], .int .i64 e1]) (by simp [results, Tryd.results51, go_sem, v0, v1, v2, v3, v4]) rfl ?_
    exact ⟨hgr.andThen hg9 (fun j hj => by cases hj; exact .inl (Nat.le_refl _)), _, _, _, _, _, _, _, by rw [hy]; rfl, fun e => by rw [hy] at e; exact absurd e hE4⟩
  replace hE4 : rLo zs = 0 := by simpa using hE4
  obtain ⟨nl, hnl⟩ : ∃ n, nuN (lo0 (hw (zs.drop 8)).h) (lo1 (hw (zs.drop 8)).h) (z3 zs) = n := ⟨_, rfl⟩
  have hE4' : nuE (lo0 (hw (zs.drop 8)).h) (lo1 (hw (zs.drop 8)).h) (z3 zs) = 0 := hE4
  have hN4 : ∀ wr, Hx w W d W.heap.size #[.int .u32 (num zs 0), .int .u32 (hw (zs.drop 8)).h, .int .u32 0, .int .u32 0, .slice none 0 0] 26 (z3 zs) wr → Calls Tryd.prog 71 #[.pointer (some ⟨d, 0, none⟩), .agg #[.int .u32 (lo0 (hw (zs.drop 8)).h), .int .u32 (lo1 (hw (zs.drop 8)).h)]] wr fun e W' => e = .returned (.tuple #[.int .u32 nl, .int .i64 0]) ∧ NumPost w wr d (lo0 (hw (zs.drop 8)).h) (lo1 (hw (zs.drop 8)).h) (z3 zs) W' := fun wr hx => by
    obtain ⟨ra, rl, rc, hrd⟩ := hx.rd
    have := number_any d (lo0 (hw (zs.drop 8)).h) (lo1 (hw (zs.drop 8)).h) ra rl rc (z3 zs) w _ hrd
    rwa [hnl, hE4'] at this
  by_cases hE5 : rHi zs ≠ 0
  · have hy : rpC zs = rpNo (rHi zs) := by rw [rpC, if_neg (by simpa using hE1), if_neg (by simpa using hE2), if_neg (by simpa using hE3), if_neg (by simpa using hE4), if_pos hE5]
    have hq : nuE 0 (hi1 (hw (zs.drop 8)).h) (z4 zs) = rHi zs := rfl
    generalize rHi zs = e1 at *
    obtain ⟨ng, hz⟩ : ∃ n, nuN 0 (hi1 (hw (zs.drop 8)).h) (z4 zs) = n := ⟨_, rfl⟩
    have hb := bne_true hE5
    have hN5 : ∀ wr, Hx w W d W.heap.size #[.int .u32 (num zs 0), .int .u32 (hw (zs.drop 8)).h, .int .u32 nl, .int .u32 0, .slice none 0 0] 26 (z4 zs) wr → Calls Tryd.prog 71 #[.pointer (some ⟨d, 0, none⟩), .agg #[.int .u32 0, .int .u32 (hi1 (hw (zs.drop 8)).h)]] wr fun e W' => e = .returned (.tuple #[.int .u32 ng, .int .i64 e1]) ∧ NumPost w wr d 0 (hi1 (hw (zs.drop 8)).h) (z4 zs) W' := fun wr hx => by
      obtain ⟨ra, rl, rc, hrd⟩ := hx.rd
      have := number_any d 0 (hi1 (hw (zs.drop 8)).h) ra rl rc (z4 zs) w _ hrd
      rwa [hz, hq] at this
    clear hz hq
    go_enter Tryd.func51, Tryd.ntmps51
    go_wp2_with (first
      | (refine wpList_store_whole rfl 26 _ _ rfl W.heap.size _ rfl rfl _ _ hC8 infoP rfl (by simp [Value.oneCell']) ?_; intro w9 hC9 hg9 hs9)
      | (go_at_call 71; refine (hN5 _ hX5s).mono ?_; rintro e w6 ⟨rfl, hP6⟩; obtain ⟨hgr0, hC80⟩ := hX5s.err hP6.grown; clear y0 y1 y2 y3 y4 fz r0 r1 r2 r3 r4 r5 r6 r7 r8 r9; obtain ⟨⟨y0, y1, y2, y3, y4⟩, fz⟩ := five_cells hC80; obtain ⟨hgr, hC8⟩ := hX5s.errs hP6.grown 3 (.int .u32 ng) rfl; have q8 := five_cells hC8)
      | (go_at_call 71; refine (hN4 _ hX4).mono ?_; rintro e w5 ⟨rfl, hP5⟩; have hX5 := hX4.step hP5.grown (hP5.left hE4); have hR5 := (hP5.grown.block w2.heap.size (by have := (Array.getElem?_eq_some_iff.1 hR4).1; omega) (fun e => by cases e; omega)).trans hR4; clear hP5 r0 r1 r2 r3 r4 r5 r6 r7 r8 r9; obtain ⟨⟨y0, y1, y2, y3, y4⟩, fz⟩ := five_cells hX5.res; have hX5s : Hx w W d W.heap.size #[.int .u32 (num zs 0), .int .u32 (hw (zs.drop 8)).h, .int .u32 nl, .int .u32 0, .slice none 0 0] 26 (z4 zs) _ := hX5.set 2 (.int .u32 nl) rfl; have hR5s := (set_kept (i := 2) (v := .int .u32 nl) (show w2.heap.size ≠ W.heap.size by omega)).trans hR5; obtain ⟨r0, r1, r2, r3, r4, r5, r6, r7, r8, r9⟩ := ten_at hR5s)
      | (refine wpList_store_whole rfl 57 _ _ rfl w2.heap.size (rowA (hw (zs.drop 8)).h) rfl rfl _ _ hR3s infoR rfl (by simp [rowA, Value.oneCell']) ?_; intro w4 hR4 hg4 hs4; have hX4 := hX3s.kept hg4 (fun j hj => by cases hj; omega); clear y0 y1 y2 y3 y4 fz; obtain ⟨r0, r1, r2, r3, r4, r5, r6, r7, r8, r9⟩ := ten_at hR4)
      | (go_at_call 72; refine (hN3 _ (hX2a _)).mono ?_; rintro e w3 ⟨rfl, hP3⟩; have hX3 := (hX2a _).step hP3.grown (hP3.left hE3); have hR3 := (hP3.grown.block w2.heap.size (by simp) (fun e => by cases e; omega)).trans (heap_alloc_last w2 _); rw [hZ3] at hX3; clear hP3; obtain ⟨⟨y0, y1, y2, y3, y4⟩, fz⟩ := five_cells hX3.res; have hX3s : Hx w W d W.heap.size #[.int .u32 (num zs 0), .int .u32 (hw (zs.drop 8)).h, .int .u32 0, .int .u32 0, .slice none 0 0] 26 (z3 zs) _ := hX3.set 1 (.int .u32 (hw (zs.drop 8)).h) rfl; have hR3s := (set_kept (i := 1) (v := .int .u32 (hw (zs.drop 8)).h) (show w2.heap.size ≠ W.heap.size by omega)).trans hR3)
      | (go_at_call 71; refine (hN2 _ hX1s).mono ?_; rintro e w2 ⟨rfl, hP2⟩; have hX2 := hX1s.step hP2.grown (hP2.left hE2); rw [hZ2] at hX2; clear y0 y1 y2 y3 y4 fz q1 hP2; have hX2a := fun o => hX2.kept (World.grownBy_alloc w2 o none) (fun j hj => by cases hj); have hw2 := hX2.grown.size; have hC2 := (Array.getElem?_eq_some_iff.1 hX2.res).1)
      | (go_at_call 71; refine (hN1 _ _).mono ?_; rintro e w1 ⟨rfl, hP1⟩; have hX1 := (hX0 _ _).step hP1.grown (hP1.left hE1); rw [hZ1] at hX1; obtain ⟨⟨y0, y1, y2, y3, y4⟩, fz⟩ := five_cells hX1.res; have hX1s : Hx w W d W.heap.size #[.int .u32 (num zs 0), .int .u32 0, .int .u32 0, .int .u32 0, .slice none 0 0] 26 (zs.drop 4) _ := hX1.set 0 (.int .u32 (num zs 0)) rfl; have q1 := five_cells hX1s.res; clear hP1))
    obtain ⟨⟨v0, v1, v2, v3, v4⟩, _⟩ := five_cells hC9
    refine bodyPost_ret (v := .tuple #[.agg #[.int .u32 (num zs 0), .int .u32 (hw (zs.drop 8)).h, .int .u32 nl, .int .u32 ng, .slice none 0 0], .int .i64 e1]) (by simp [results, Tryd.results51, go_sem, v0, v1, v2, v3, v4]) rfl ?_
    exact ⟨hgr.andThen hg9 (fun j hj => by cases hj; exact .inl (Nat.le_refl _)), _, _, _, _, _, _, _, by rw [hy]; rfl, fun e => by rw [hy] at e; exact absurd e hE5⟩
  replace hE5 : rHi zs = 0 := by simpa using hE5
  obtain ⟨ng, hng⟩ : ∃ n, nuN 0 (hi1 (hw (zs.drop 8)).h) (z4 zs) = n := ⟨_, rfl⟩
  have hE5' : nuE 0 (hi1 (hw (zs.drop 8)).h) (z4 zs) = 0 := hE5
  have hN5 : ∀ wr, Hx w W d W.heap.size #[.int .u32 (num zs 0), .int .u32 (hw (zs.drop 8)).h, .int .u32 nl, .int .u32 0, .slice none 0 0] 26 (z4 zs) wr → Calls Tryd.prog 71 #[.pointer (some ⟨d, 0, none⟩), .agg #[.int .u32 0, .int .u32 (hi1 (hw (zs.drop 8)).h)]] wr fun e W' => e = .returned (.tuple #[.int .u32 ng, .int .i64 0]) ∧ NumPost w wr d 0 (hi1 (hw (zs.drop 8)).h) (z4 zs) W' := fun wr hx => by
    obtain ⟨ra, rl, rc, hrd⟩ := hx.rd
    have := number_any d 0 (hi1 (hw (zs.drop 8)).h) ra rl rc (z4 zs) w _ hrd
    rwa [hng, hE5'] at this
  have hrw : rpC zs = if rEnd zs ≠ 0 then rpNo (rEnd zs) else ⟨0, num zs 0, (hw (zs.drop 8)).h, nl, ng, if bod (hw (zs.drop 8)).h then z5 zs else []⟩ := by
    rw [rpC, if_neg (by simpa using hE1), if_neg (by simpa using hE2), if_neg (by simpa using hE3), if_neg (by simpa using hE4), if_neg (by simpa using hE5), hnl, hng]
  have hl5 : (z5 zs).length ≤ 65536 := by
    have q3 : (z3 zs).length ≤ zs.length := by rw [z3, List.length_drop]; omega
    have q : ∀ s0 s1 ys, (nuZ s0 s1 ys).length ≤ ys.length := fun s0 s1 ys => by
      unfold nuZ
      split
      · exact Nat.le_refl _
      · rw [List.length_drop]; omega
    have q4 := q (lo0 (hw (zs.drop 8)).h) (lo1 (hw (zs.drop 8)).h) (z3 zs)
    have q5 := q 0 (hi1 (hw (zs.drop 8)).h) (z4 zs)
    exact Nat.le_trans q5 (Nat.le_trans q4 (Nat.le_trans q3 hlen))
  by_cases hbo : bod (hw (zs.drop 8)).h = true
  · have hy : rpC zs = ⟨0, num zs 0, (hw (zs.drop 8)).h, nl, ng, z5 zs⟩ := by rw [hrw, rEnd, if_pos hbo, if_neg (by decide), if_pos hbo]
    clear hrw
    have hN6 : ∀ wr bo, bo = true → Hx w W d W.heap.size #[.int .u32 (num zs 0), .int .u32 (hw (zs.drop 8)).h, .int .u32 nl, .int .u32 ng, .slice none 0 0] 26 (z5 zs) wr → Calls Tryd.prog 73 #[.pointer (some ⟨d, 0, none⟩), .bool bo] wr fun e W' => ∃ v, e = .returned (.tuple #[v, .int .i64 0]) ∧ W'.ownsRow wr.heap.size 5 1 v (z5 zs).length ((z5 zs).map (Value.int .u8)) ∧ Below wr.heap.size wr W' := fun wr bo hbt hx => by
      subst hbt
      obtain ⟨ra, rl, rc, hrd⟩ := hx.rd
      have hz := hrd.hz
      have := end_yes d ra rl rc (z5 zs) w _ hrd (by omega)
      rwa [← hz] at this
    go_enter Tryd.func51, Tryd.ntmps51
    go_wp2_with (first
      | (refine wpList_store_whole rfl 26 _ _ rfl W.heap.size _ rfl rfl _ _ hC8 infoP rfl (by simp [Value.oneCell']) ?_; intro w9 hC9 hg9 hs9)
      | (go_at_call 73; refine (hN6 _ _ (by with_reducible first | exact hbo | rfl) hX6s).mono ?_; rintro e w7 ⟨v, rfl, ho, hb7⟩; obtain ⟨va, vc, rfl, _⟩ := own_val ho rfl; have hC7 := box_next hX6s.res hb7; clear y0 y1 y2 y3 y4 fz r0 r1 r2 r3 r4 r5 r6 r7 r8 r9; obtain ⟨⟨y0, y1, y2, y3, y4⟩, fz⟩ := five_cells hC7; have hC8 : (w7.setCell ⟨W.heap.size, 4, none⟩ (.slice va (z5 zs).length vc)).heap[W.heap.size]? = some (.cells #[.int .u32 (num zs 0), .int .u32 (hw (zs.drop 8)).h, .int .u32 nl, .int .u32 ng, .slice va (z5 zs).length vc] 26) := setCell_same (k := 4) hC7 _; have hbase : W.heap.size < (w6.setCell ⟨W.heap.size, 3, none⟩ (.int .u32 ng)).heap.size := (Array.getElem?_eq_some_iff.1 hX6s.res).1; have ho8 := own_grown ho (grown_set w7 W.heap.size 4 (.slice va (z5 zs).length vc)) hbase; have hgr := (hX6s.grown.andThen (grown_below hb7 none) (fun j hj => by cases hj)).andThen (grown_set w7 W.heap.size 4 (.slice va (z5 zs).length vc)) (fun j hj => by cases hj; exact .inl (Nat.le_refl _)))
      | (go_at_call 71; refine (hN5 _ hX5s).mono ?_; rintro e w6 ⟨rfl, hP6⟩; have hX6 := hX5s.step hP6.grown (hP6.left hE5); have hR6 := (hP6.grown.block w2.heap.size (by have := (Array.getElem?_eq_some_iff.1 hR5s).1; omega) (fun e => by cases e; omega)).trans hR5s; clear hP6 y0 y1 y2 y3 y4 fz r0 r1 r2 r3 r4 r5 r6 r7 r8 r9; obtain ⟨⟨y0, y1, y2, y3, y4⟩, fz⟩ := five_cells hX6.res; have hX6s : Hx w W d W.heap.size #[.int .u32 (num zs 0), .int .u32 (hw (zs.drop 8)).h, .int .u32 nl, .int .u32 ng, .slice none 0 0] 26 (z5 zs) _ := hX6.set 3 (.int .u32 ng) rfl; have hR6s := (set_kept (i := 3) (v := .int .u32 ng) (show w2.heap.size ≠ W.heap.size by omega)).trans hR6; obtain ⟨r0, r1, r2, r3, r4, r5, r6, r7, r8, r9⟩ := ten_at hR6s)
      | (go_at_call 71; refine (hN4 _ hX4).mono ?_; rintro e w5 ⟨rfl, hP5⟩; have hX5 := hX4.step hP5.grown (hP5.left hE4); have hR5 := (hP5.grown.block w2.heap.size (by have := (Array.getElem?_eq_some_iff.1 hR4).1; omega) (fun e => by cases e; omega)).trans hR4; clear hP5 r0 r1 r2 r3 r4 r5 r6 r7 r8 r9; obtain ⟨⟨y0, y1, y2, y3, y4⟩, fz⟩ := five_cells hX5.res; have hX5s : Hx w W d W.heap.size #[.int .u32 (num zs 0), .int .u32 (hw (zs.drop 8)).h, .int .u32 nl, .int .u32 0, .slice none 0 0] 26 (z4 zs) _ := hX5.set 2 (.int .u32 nl) rfl; have hR5s := (set_kept (i := 2) (v := .int .u32 nl) (show w2.heap.size ≠ W.heap.size by omega)).trans hR5; obtain ⟨r0, r1, r2, r3, r4, r5, r6, r7, r8, r9⟩ := ten_at hR5s)
      | (refine wpList_store_whole rfl 57 _ _ rfl w2.heap.size (rowA (hw (zs.drop 8)).h) rfl rfl _ _ hR3s infoR rfl (by simp [rowA, Value.oneCell']) ?_; intro w4 hR4 hg4 hs4; have hX4 := hX3s.kept hg4 (fun j hj => by cases hj; omega); clear y0 y1 y2 y3 y4 fz; obtain ⟨r0, r1, r2, r3, r4, r5, r6, r7, r8, r9⟩ := ten_at hR4)
      | (go_at_call 72; refine (hN3 _ (hX2a _)).mono ?_; rintro e w3 ⟨rfl, hP3⟩; have hX3 := (hX2a _).step hP3.grown (hP3.left hE3); have hR3 := (hP3.grown.block w2.heap.size (by simp) (fun e => by cases e; omega)).trans (heap_alloc_last w2 _); rw [hZ3] at hX3; clear hP3; obtain ⟨⟨y0, y1, y2, y3, y4⟩, fz⟩ := five_cells hX3.res; have hX3s : Hx w W d W.heap.size #[.int .u32 (num zs 0), .int .u32 (hw (zs.drop 8)).h, .int .u32 0, .int .u32 0, .slice none 0 0] 26 (z3 zs) _ := hX3.set 1 (.int .u32 (hw (zs.drop 8)).h) rfl; have hR3s := (set_kept (i := 1) (v := .int .u32 (hw (zs.drop 8)).h) (show w2.heap.size ≠ W.heap.size by omega)).trans hR3)
      | (go_at_call 71; refine (hN2 _ hX1s).mono ?_; rintro e w2 ⟨rfl, hP2⟩; have hX2 := hX1s.step hP2.grown (hP2.left hE2); rw [hZ2] at hX2; clear y0 y1 y2 y3 y4 fz q1 hP2; have hX2a := fun o => hX2.kept (World.grownBy_alloc w2 o none) (fun j hj => by cases hj); have hw2 := hX2.grown.size; have hC2 := (Array.getElem?_eq_some_iff.1 hX2.res).1)
      | (go_at_call 71; refine (hN1 _ _).mono ?_; rintro e w1 ⟨rfl, hP1⟩; have hX1 := (hX0 _ _).step hP1.grown (hP1.left hE1); rw [hZ1] at hX1; obtain ⟨⟨y0, y1, y2, y3, y4⟩, fz⟩ := five_cells hX1.res; have hX1s : Hx w W d W.heap.size #[.int .u32 (num zs 0), .int .u32 0, .int .u32 0, .int .u32 0, .slice none 0 0] 26 (zs.drop 4) _ := hX1.set 0 (.int .u32 (num zs 0)) rfl; have q1 := five_cells hX1s.res; clear hP1))
    obtain ⟨⟨v0, v1, v2, v3, v4⟩, _⟩ := five_cells hC9
    refine bodyPost_ret (v := .tuple #[.agg #[.int .u32 (num zs 0), .int .u32 (hw (zs.drop 8)).h, .int .u32 nl, .int .u32 ng, .slice va (z5 zs).length vc], .int .i64 0]) (by simp [results, Tryd.results51, go_sem, v0, v1, v2, v3, v4]) rfl ?_
    refine ⟨hgr.andThen hg9 (fun j hj => by cases hj; exact .inl (Nat.le_refl _)), _, _, _, _, _, _, _, by rw [hy], fun _ => by rw [hy]; exact ⟨rfl, rfl, rfl, rfl, own_base (own_grown ho8 hg9 hbase) (by omega)⟩⟩
  replace hbo : bod (hw (zs.drop 8)).h = false := by simpa using hbo
  obtain ⟨e6, he6⟩ : ∃ e : Int, e = if 0 < (z5 zs).length then 5 else 0 := ⟨_, rfl⟩
  have hy : (rpC zs).e = e6 ∧ (e6 = 0 → rpC zs = ⟨0, num zs 0, (hw (zs.drop 8)).h, nl, ng, []⟩) := by
    have hre : rEnd zs = e6 := by rw [rEnd, hbo, he6]; rfl
    rw [hrw, hre]
    by_cases h6 : e6 = 0
    · rw [h6, if_neg (by decide), hbo]; exact ⟨rfl, fun _ => rfl⟩
    · rw [if_pos h6]; exact ⟨rfl, fun e => absurd e h6⟩
  clear hrw
  have hN6 : ∀ wr bo, bo = false → Hx w W d W.heap.size #[.int .u32 (num zs 0), .int .u32 (hw (zs.drop 8)).h, .int .u32 nl, .int .u32 ng, .slice none 0 0] 26 (z5 zs) wr → Calls Tryd.prog 73 #[.pointer (some ⟨d, 0, none⟩), .bool bo] wr fun e W' => e = .returned (.tuple #[.slice none 0 0, .int .i64 e6]) ∧ W' = wr := fun wr bo hbt hx => by
    subst hbt
    obtain ⟨ra, rl, rc, hrd⟩ := hx.rd
    have := end_no d ra rl rc (z5 zs) w _ hrd
    rwa [← he6] at this
  clear he6
  go_enter Tryd.func51, Tryd.ntmps51
  go_wp2_with (first
    | (refine wpList_store_whole rfl 26 _ _ rfl W.heap.size _ rfl rfl _ _ hC8 infoP rfl (by simp [Value.oneCell']) ?_; intro w9 hC9 hg9 hs9)
    | (go_at_call 73; refine (hN6 _ _ (by with_reducible first | exact hbo | rfl) hX6s).mono ?_; rintro e w7 ⟨rfl, hw7⟩; subst w7; clear y0 y1 y2 y3 y4 fz r0 r1 r2 r3 r4 r5 r6 r7 r8 r9; obtain ⟨⟨y0, y1, y2, y3, y4⟩, fz⟩ := five_cells hX6s.res; have hX8 : Hx w W d W.heap.size #[.int .u32 (num zs 0), .int .u32 (hw (zs.drop 8)).h, .int .u32 nl, .int .u32 ng, .slice none 0 0] 26 (z5 zs) _ := hX6s.set 4 (.slice none 0 0) rfl; have hC8 := hX8.res; have hgr := hX8.grown)
    | (go_at_call 71; refine (hN5 _ hX5s).mono ?_; rintro e w6 ⟨rfl, hP6⟩; have hX6 := hX5s.step hP6.grown (hP6.left hE5); have hR6 := (hP6.grown.block w2.heap.size (by have := (Array.getElem?_eq_some_iff.1 hR5s).1; omega) (fun e => by cases e; omega)).trans hR5s; clear hP6 y0 y1 y2 y3 y4 fz r0 r1 r2 r3 r4 r5 r6 r7 r8 r9; obtain ⟨⟨y0, y1, y2, y3, y4⟩, fz⟩ := five_cells hX6.res; have hX6s : Hx w W d W.heap.size #[.int .u32 (num zs 0), .int .u32 (hw (zs.drop 8)).h, .int .u32 nl, .int .u32 ng, .slice none 0 0] 26 (z5 zs) _ := hX6.set 3 (.int .u32 ng) rfl; have hR6s := (set_kept (i := 3) (v := .int .u32 ng) (show w2.heap.size ≠ W.heap.size by omega)).trans hR6; obtain ⟨r0, r1, r2, r3, r4, r5, r6, r7, r8, r9⟩ := ten_at hR6s)
    | (go_at_call 71; refine (hN4 _ hX4).mono ?_; rintro e w5 ⟨rfl, hP5⟩; have hX5 := hX4.step hP5.grown (hP5.left hE4); have hR5 := (hP5.grown.block w2.heap.size (by have := (Array.getElem?_eq_some_iff.1 hR4).1; omega) (fun e => by cases e; omega)).trans hR4; clear hP5 r0 r1 r2 r3 r4 r5 r6 r7 r8 r9; obtain ⟨⟨y0, y1, y2, y3, y4⟩, fz⟩ := five_cells hX5.res; have hX5s : Hx w W d W.heap.size #[.int .u32 (num zs 0), .int .u32 (hw (zs.drop 8)).h, .int .u32 nl, .int .u32 0, .slice none 0 0] 26 (z4 zs) _ := hX5.set 2 (.int .u32 nl) rfl; have hR5s := (set_kept (i := 2) (v := .int .u32 nl) (show w2.heap.size ≠ W.heap.size by omega)).trans hR5; obtain ⟨r0, r1, r2, r3, r4, r5, r6, r7, r8, r9⟩ := ten_at hR5s)
    | (refine wpList_store_whole rfl 57 _ _ rfl w2.heap.size (rowA (hw (zs.drop 8)).h) rfl rfl _ _ hR3s infoR rfl (by simp [rowA, Value.oneCell']) ?_; intro w4 hR4 hg4 hs4; have hX4 := hX3s.kept hg4 (fun j hj => by cases hj; omega); clear y0 y1 y2 y3 y4 fz; obtain ⟨r0, r1, r2, r3, r4, r5, r6, r7, r8, r9⟩ := ten_at hR4)
    | (go_at_call 72; refine (hN3 _ (hX2a _)).mono ?_; rintro e w3 ⟨rfl, hP3⟩; have hX3 := (hX2a _).step hP3.grown (hP3.left hE3); have hR3 := (hP3.grown.block w2.heap.size (by simp) (fun e => by cases e; omega)).trans (heap_alloc_last w2 _); rw [hZ3] at hX3; clear hP3; obtain ⟨⟨y0, y1, y2, y3, y4⟩, fz⟩ := five_cells hX3.res; have hX3s : Hx w W d W.heap.size #[.int .u32 (num zs 0), .int .u32 (hw (zs.drop 8)).h, .int .u32 0, .int .u32 0, .slice none 0 0] 26 (z3 zs) _ := hX3.set 1 (.int .u32 (hw (zs.drop 8)).h) rfl; have hR3s := (set_kept (i := 1) (v := .int .u32 (hw (zs.drop 8)).h) (show w2.heap.size ≠ W.heap.size by omega)).trans hR3)
    | (go_at_call 71; refine (hN2 _ hX1s).mono ?_; rintro e w2 ⟨rfl, hP2⟩; have hX2 := hX1s.step hP2.grown (hP2.left hE2); rw [hZ2] at hX2; clear y0 y1 y2 y3 y4 fz q1 hP2; have hX2a := fun o => hX2.kept (World.grownBy_alloc w2 o none) (fun j hj => by cases hj); have hw2 := hX2.grown.size; have hC2 := (Array.getElem?_eq_some_iff.1 hX2.res).1)
    | (go_at_call 71; refine (hN1 _ _).mono ?_; rintro e w1 ⟨rfl, hP1⟩; have hX1 := (hX0 _ _).step hP1.grown (hP1.left hE1); rw [hZ1] at hX1; obtain ⟨⟨y0, y1, y2, y3, y4⟩, fz⟩ := five_cells hX1.res; have hX1s : Hx w W d W.heap.size #[.int .u32 (num zs 0), .int .u32 0, .int .u32 0, .int .u32 0, .slice none 0 0] 26 (zs.drop 4) _ := hX1.set 0 (.int .u32 (num zs 0)) rfl; have q1 := five_cells hX1s.res; clear hP1))
  obtain ⟨⟨v0, v1, v2, v3, v4⟩, _⟩ := five_cells hC9
  refine bodyPost_ret (v := .tuple #[.agg #[.int .u32 (num zs 0), .int .u32 (hw (zs.drop 8)).h, .int .u32 nl, .int .u32 ng, .slice none 0 0], .int .i64 e6]) (by simp [results, Tryd.results51, go_sem, v0, v1, v2, v3, v4]) rfl ?_
  refine ⟨hgr.andThen hg9 (fun j hj => by cases hj; exact .inl (Nat.le_refl _)), _, _, _, _, _, _, _, by rw [hy.1], fun e => by rw [hy.2 (hy.1.symm.trans e)]; exact ⟨rfl, rfl, rfl, rfl, rfl, .inl ⟨rfl, rfl⟩⟩⟩
end Go.Proofs.YtmjhgpmeikpbkaaDoor
