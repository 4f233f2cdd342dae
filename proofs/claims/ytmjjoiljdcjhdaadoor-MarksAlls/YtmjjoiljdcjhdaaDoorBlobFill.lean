/- 'fillBlob' of a Book that holds one list of messages: it is filled with marks; nothing else turns. -/
import Derived.Test.YtmjjoiljdcjhdaaDoorBlobKeep
import Derived.Test.YtmjjoiljdcjhdaaDoorBookFill
namespace Go.Proofs.YtmjjoiljdcjhdaaDoor
set_option linter.unusedVariables false
open Go.RowKit

theorem cell_lt {w : World} {p : Addr} {u : Value} (h : w.cell? p = some u) : p.block < w.heap.size := by
  rcases Nat.lt_or_ge p.block w.heap.size with h1 | h1
  · exact h1
  · simp [World.cell?, Array.getElem?_eq_none h1] at h

/-- Marks lie in this row up to t, behind them what lay there. -/
structure Fl (base lo : Nat) (W2 : World) (v : Value) (el : Nat) (m : Int) (xs : List Value) (H : Nat) (en : Int) (t : Nat) (wi : World) : Prop where
  row : ∃ ys, ys.length = t ∧ wi.ownsRow base 22 1 v el (ys ++ xs.drop t) ∧ ∀ y ∈ ys, Mk lo m wi y
  kept : Kept (fun b => v.ownBlock = some b) W2 wi
  c0 : wi.cell? ⟨H, 0, none⟩ = some v
  c2 : wi.cell? ⟨H, 2, none⟩ = some (.int .i64 en)

theorem Fl.drew {base lo : Nat} {W2 : World} {v : Value} {el : Nat} {m : Int} {xs : List Value} {H : Nat} {en : Int} {t : Nat} {wi : World} (h : Fl base lo W2 v el m xs H en t wi) : Fl base lo W2 v el m xs H en t wi.drew := by
  obtain ⟨⟨ys, h1, h2, h3⟩, hk, c0, c2⟩ := h
  exact ⟨⟨ys, h1, h2.drew, h3⟩, hk.drew, c0, c2⟩

theorem Fl.call {base lo : Nat} {W2 : World} {v : Value} {el : Nat} {m : Int} {xs : List Value} {H : Nat} {en : Int} {t : Nat} {wi w' : World} (h : Fl base lo W2 v el m xs H en t wi) (hk : Kept (fun _ => False) wi w') : Fl base lo W2 v el m xs H en t w' := by
  obtain ⟨⟨ys, h1, h2, h3⟩, hk0, c0, c2⟩ := h
  refine ⟨⟨ys, h1, own_kept h2 hk (fun _ _ h => h), fun y hy => (h3 y hy).kept hk (fun _ _ _ _ _ h => h)⟩, hk0.trans (hk.mono (fun _ _ h => h.elim)), ?_, ?_⟩
  · exact (hk.cell (p := ⟨H, 0, none⟩) (cell_lt c0) (fun h => h)).trans c0
  · exact (hk.cell (p := ⟨H, 2, none⟩) (cell_lt c2) (fun h => h)).trans c2

theorem Fl.mark {base lo : Nat} {W2 : World} {v : Value} {el : Nat} {xs : List Value} {H : Nat} {en : Int} {t : Nat} {wi : World} (h : Fl base lo W2 v el (markOf en) xs H en t wi) (hlo : lo ≤ W2.heap.size) (h0 : 0 ≤ en) (h1 : en ≤ 1000000) :
    Calls Tryd.prog 54 #[.int .i64 en] wi fun e w' => ∃ g, e = .returned (.slice (some ⟨g, 0, none⟩) 1 1) ∧ Mk lo (markOf en) w' (.slice (some ⟨g, 0, none⟩) 1 1) ∧ Fl base lo W2 v el (markOf en) xs H en t w' := by
  refine (markM_any en wi h0 h1).mono ?_
  rintro e w' ⟨x, rfl, ⟨g, fz, rfl, hl, hg⟩, hk⟩
  exact ⟨g, rfl, ⟨g, fz, rfl, by have := h.kept.size; omega, hg⟩, h.call hk⟩

theorem Fl.store {base lo : Nat} {W2 : World} {g el cap : Nat} {m : Int} {xs : List Value} {H : Nat} {en : Int} {t : Nat} {wi : World} {x : Value} (h : Fl base lo W2 (.slice (some ⟨g, 0, none⟩) el cap) el m xs H en t wi) (hx : Mk lo m wi x) (ht : t < xs.length) (hgH : g ≠ H) :
    Fl base lo W2 (.slice (some ⟨g, 0, none⟩) el cap) el m xs H en (t + 1) (wi.setCell ⟨g, t, none⟩ x) := by
  obtain ⟨⟨ys, h1, h2, h3⟩, hk0, c0, c2⟩ := h
  have hks : Kept (fun b => b = g) wi (wi.setCell ⟨g, t, none⟩ x) := (Kept.refl (fun b => b = g) wi).setCell (p := ⟨g, t, none⟩) (.inl rfl) _
  have hmk : ∀ y, Mk lo m wi y → Mk lo m (wi.setCell ⟨g, t, none⟩ x) y := fun y hy => hy.kept hks (fun k cs fz _ hb e => by
    subst e
    exact own_not h2 hb (by decide) rfl)
  have hst := (h2.stored t x).1
  rw [List.set_append_right _ _ (by omega), List.drop_eq_getElem_cons ht, h1, Nat.sub_self, List.set_cons_zero] at hst
  refine ⟨⟨ys ++ [x], by simp [h1], by rw [List.append_assoc]; exact hst, fun y hy => ?_⟩, hk0.setCell (p := ⟨g, t, none⟩) (.inl rfl) _, ?_, ?_⟩
  · rcases List.mem_append.1 hy with hy | hy
    · exact hmk y (h3 y hy)
    · rw [List.mem_singleton.1 hy]; exact hmk x hx
  · exact (hks.cell (p := ⟨H, 0, none⟩) (cell_lt c0) (fun e => hgH e.symm)).trans c0
  · exact (hks.cell (p := ⟨H, 2, none⟩) (cell_lt c2) (fun e => hgH e.symm)).trans c2

/-- What the step needs of the world. -/
abbrev Fs (base lo : Nat) (W2 : World) (g el cap : Nat) (m : Int) (xs : List Value) (H : Nat) (en : Int) (t : Nat) (xt : Value) (wi : World) : Prop :=
  wi.cell? ⟨H, 0, none⟩ = some (.slice (some ⟨g, 0, none⟩) el cap) ∧ wi.cell? ⟨H, 2, none⟩ = some (.int .i64 en) ∧ wi.cell? ⟨g, t, none⟩ = some xt ∧ wi.frozen? ⟨g, t, none⟩ = false ∧ Fl base lo W2 (.slice (some ⟨g, 0, none⟩) el cap) el m xs H en t wi

theorem Fl.fs {base lo : Nat} {W2 : World} {g el cap : Nat} {m : Int} {xs : List Value} {H : Nat} {en : Int} {t : Nat} {wi : World} (h : Fl base lo W2 (.slice (some ⟨g, 0, none⟩) el cap) el m xs H en t wi) (ht : t < xs.length) (hx : xs.length = el) : Fs base lo W2 g el cap m xs H en t xs[t] wi := by
  obtain ⟨ys, h1, h2, h3⟩ := h.row
  exact ⟨h.c0, h.c2, by rw [h2.cellAt t (by omega), List.getElem?_append_right (by omega), List.drop_eq_getElem_cons ht]; simp [h1], h2.frozenAt t, h⟩

theorem Fs.mark {base lo : Nat} {W2 : World} {g el cap : Nat} {xs : List Value} {H : Nat} {en : Int} {t : Nat} {xt : Value} {wi : World} (h : Fs base lo W2 g el cap (markOf en) xs H en t xt wi) (hlo : lo ≤ W2.heap.size) (h0 : 0 ≤ en) (h1 : en ≤ 1000000) (ht : t < xs.length) (hx : xs.length = el) (hxt : xs[t] = xt) :
    Calls Tryd.prog 54 #[.int .i64 en] wi fun e w' => ∃ k, e = .returned (.slice (some ⟨k, 0, none⟩) 1 1) ∧ Mk lo (markOf en) w' (.slice (some ⟨k, 0, none⟩) 1 1) ∧ Fs base lo W2 g el cap (markOf en) xs H en t xt w' := by
  refine (h.2.2.2.2.mark hlo h0 h1).mono ?_
  rintro e w' ⟨k, rfl, hm, hF⟩
  subst hxt
  exact ⟨k, rfl, hm, hF.fs ht hx⟩

set_option maxRecDepth 100000 in
set_option maxHeartbeats 2000000 in
theorem fillM_any {r : Nat → Value} (B : Nat) (n : Int) (vl : Value) (gm cm : Nat) (ea : Option Addr) (el ec : Nat) (en : Int) (xs : List Value) (base : Nat) (W : World) (hb : BookAt W B n vl r) (hr : r 4 = .slice (some ⟨gm, 0, none⟩) 1 cm)
    (hown : W.ownsRow base 75 3 (.slice (some ⟨gm, 0, none⟩) 1 cm) 1 (flat3 [(.slice ea el ec, .slice none 0 0, en)])) (hL : W.ownsRow base 22 1 (.slice ea el ec) el xs) (hl : el ≤ 1073741824) (h0 : 0 ≤ en) (h1 : en ≤ 1000000) :
    Calls Tryd.prog 27 #[.pointer (some ⟨B, 0, none⟩)] W fun e W' => e = .returned (.tuple #[]) ∧ (∃ ys, W'.ownsRow base 22 1 (.slice ea el ec) el ys ∧ ∀ y ∈ ys, Mk W.heap.size (markOf en) W' y) ∧
      Kept (fun k => (Value.slice ea el ec).ownBlock = some k) W W' := by
  have hsepB : (Value.slice ea el ec).ownBlock ≠ some B := own_not hL hb (by decide)
  have hsepM : (Value.slice ea el ec).ownBlock ≠ some gm := fun h => own_sep hL hown (by decide) h rfl
  have hxl : xs.length = el := by have := hL.1; simpa using this
  have c4 : W.cell? ⟨B, 4, none⟩ = some (.slice (some ⟨gm, 0, none⟩) 1 cm) := by rw [← hr]; exact hb.rest 4 (by omega) (by omega)
  have d0 : W.cell? ⟨gm, 0, none⟩ = some (.slice ea el ec) := hown.cellAt 0 (by omega)
  have d1 : W.cell? ⟨gm, 1, none⟩ = some (.slice none 0 0) := hown.cellAt 1 (by omega)
  have d2 : W.cell? ⟨gm, 2, none⟩ = some (.int .i64 en) := hown.cellAt 2 (by omega)
  have hlB : B < W.heap.size := hb.lt
  have hblk : ∀ b, (Value.slice ea el ec).ownBlock = some b → b < W.heap.size := fun b hb => (own_lt hL hb).2
  have hF : Fl base W.heap.size (W.alloc (.cells #[.slice ea el ec, .slice none 0 0, .int .i64 en] 75)) (.slice ea el ec) el (markOf en) xs W.heap.size en 0 (W.alloc (.cells #[.slice ea el ec, .slice none 0 0, .int .i64 en] 75)) :=
    ⟨⟨[], rfl, hL.alloc _, by simp⟩, Kept.refl _ _, by simp, by simp⟩
  have hK0 : Kept (fun k => (Value.slice ea el ec).ownBlock = some k) W (W.alloc (.cells #[.slice ea el ec, .slice none 0 0, .int .i64 en] 75)) := (Kept.refl _ _).alloc _
  have HB : Hid (BookAt W B n vl r) := hb
  have HK : Hid (Kept (fun k => (Value.slice ea el ec).ownBlock = some k) W (W.alloc (.cells #[.slice ea el ec, .slice none 0 0, .int .i64 en] 75))) := hK0
  clear hK0 hb
  go_enter Tryd.func27, Tryd.ntmps27
  go_wp2
  refine wp_loop_rounds 2 ?_
  rw [rounds_succ]
  go_wp2
  have hlo : W.heap.size ≤ (W.alloc (.cells #[.slice ea el ec, .slice none 0 0, .int .i64 en] 75)).heap.size := by simp
  generalize W.alloc (.cells #[.slice ea el ec, .slice none 0 0, .int .i64 en] 75) = W2 at *
  have hneH : ∀ g, (Value.slice ea el ec).ownBlock = some g → g ≠ W.heap.size := fun g hg e => by have := hblk g hg; omega
  clear d0 d1 d2 c4 hblk
  go_loopw [4] (fun j wi => ∃ t : Nat, t ≤ el ∧ j = .int .i64 t ∧ Fl base W.heap.size W2 (.slice ea el ec) el (markOf en) xs W.heap.size en t wi) (fun j _ => el - (intOf j).toNat)
  case atStart => exact ⟨0, by omega, rfl, hF⟩
  case round =>
    obtain ⟨t, ht, rfl, hFt⟩ := hrel
    have r0 := hFt.c0
    have r2 := hFt.c2
    by_cases htl : t < el
    · obtain ⟨ys, hyl, hot, hmt⟩ := hFt.row
      obtain ⟨g, rfl⟩ := own_some hot (by omega)
      have hgH := hneH g rfl
      have hti : (t : Int) < (el : Int) := by omega
      have ht0 : (0 : Int) ≤ (t : Int) := by omega
      have htx : t < xs.length := by omega
      obtain ⟨xt, hxt⟩ : ∃ xt, xs[t] = xt := ⟨_, rfl⟩
      have hS : Fs base W.heap.size W2 g el ec (markOf en) xs W.heap.size en t xt wr.drew := hxt ▸ hFt.drew.fs htx hxl
      clear hot hmt hFt
      go_wp2_with fail
      clear r0 r2
      have hS1 := hS
      obtain ⟨r0, r2, rt, rf, hFt⟩ := hS
      go_region_with (go_at_call 54; refine (Fs.mark (by assumption) hlo h0 h1 htx hxl hxt).mono ?_; rintro e w' ⟨k, rfl, hmk, ⟨q0, q2, qt, qf, hF1⟩⟩)
      all_goals
        have hF2 := hF1.store hmk htx hgH
        go_wp2
        go_roundw
        case rel => exact ⟨t + 1, by omega, by go_num, hF2⟩
        case measure => simp [intOf]; omega
    · obtain rfl : t = el := by omega
      have hKf := HK.out.trans hFt.kept
      have hbf := HB.out.kept hKf hsepB
      have c4 : wr.cell? ⟨B, 4, none⟩ = some (.slice (some ⟨gm, 0, none⟩) 1 cm) := by rw [← hr]; exact hbf.rest 4 (by omega) (by omega)
      obtain ⟨ys, hyl, hot, hmt⟩ := hFt.row
      rw [List.drop_eq_nil_of_le (by omega), List.append_nil] at hot
      clear hbf
      go_wp2
      rw [rounds_succ]
      go_wp2
      go_end0
      exact ⟨rfl, ⟨ys, hot, hmt⟩, hKf⟩
end Go.Proofs.YtmjjoiljdcjhdaaDoor
