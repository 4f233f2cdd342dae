/- 'growBlob' of a Book that holds one list of messages: forty marks are put behind it; none of its marks turns. -/
import Derived.Test.YtmjjoiljdcjhdaaDoorBlobFill
import Derived.Test.YtmjjoiljdcjhdaaDoorBookGrow
import Derived.ArgAppend
namespace Go.Proofs.YtmjjoiljdcjhdaaDoor
set_option linter.unusedVariables false
open Go.RowKit

theorem infoB : (Tryd.prog.info? 22).map (fun i => (i.zero, i.size, i.bytes)) = some (some (.slice none 0 0), 1, 24) := by kernel_rfl

/-- Marks lie in the first el cells. -/
def LsM (lo : Nat) (m : Int) (w : World) (ea : Option Addr) (el : Nat) : Prop := ∀ j, j < el → ∃ g y, ea = some ⟨g, 0, none⟩ ∧ w.cell? ⟨g, j, none⟩ = some y ∧ Mk lo m w y

theorem LsM.of_own {lo : Nat} {m : Int} {w : World} {base : Nat} {ea : Option Addr} {el n c : Nat} {ys : List Value} (h : w.ownsRow base 22 1 (.slice ea n c) n ys) (hy : ∀ y ∈ ys, Mk lo m w y) (hn : el ≤ n) : LsM lo m w ea el := by
  intro j hj
  have hl : ys.length = n := by have := h.1; simpa using this
  obtain ⟨g, rfl⟩ := own_some h (by omega)
  have hc := h.cellAt j (by omega)
  rw [List.getElem?_eq_getElem (by omega)] at hc
  exact ⟨g, ys[j], rfl, hc, hy _ (List.getElem_mem _)⟩

theorem LsM.kept {D : Nat → Prop} {lo : Nat} {m : Int} {w w' : World} {ea : Option Addr} {el : Nat} (h : LsM lo m w ea el) (hk : Kept D w w') (hD : ∀ g cs fz, lo ≤ g → w.heap[g]? = some (.cells cs 5 fz) → ¬ D g) (hE : ∀ g, ea = some ⟨g, 0, none⟩ → ¬ D g) : LsM lo m w' ea el := by
  intro j hj
  obtain ⟨g, y, e, hc, hm⟩ := h j hj
  exact ⟨g, y, e, (hk.cell (p := ⟨g, j, none⟩) (cell_lt hc) (hE g e)).trans hc, hm.kept hk hD⟩

/-- So many marks behind the list: what holds then. -/
structure GrM (base lo : Nat) (W2 : World) (ea : Option Addr) (el ec : Nat) (m : Int) (t : Nat) (u : Value) (wi : World) : Prop where
  own : ∃ ys, wi.ownsRow base 22 1 u (el + t) ys ∧ ∀ y ∈ ys, Mk lo m wi y
  l : LsM lo m wi ea el
  kept : Kept (fun b => (Value.slice ea el ec).ownBlock = some b) W2 wi
  new : ∀ b, u.ownBlock = some b → (Value.slice ea el ec).ownBlock = some b ∨ W2.heap.size ≤ b

theorem GrM.call {base lo : Nat} {W2 : World} {ea : Option Addr} {el ec : Nat} {m : Int} {t : Nat} {u : Value} {wi w' : World} (h : GrM base lo W2 ea el ec m t u wi) (hk : Kept (fun _ => False) wi w') : GrM base lo W2 ea el ec m t u w' := by
  obtain ⟨⟨ys, ho, hy⟩, hl, hk0, hn⟩ := h
  exact ⟨⟨ys, own_kept ho hk (fun _ _ h => h), fun y hm => (hy y hm).kept hk (fun _ _ _ _ _ h => h)⟩, hl.kept hk (fun _ _ _ _ _ h => h) (fun _ _ h => h), hk0.trans (hk.mono (fun _ _ h => h.elim)), hn⟩

theorem GrM.mark {base lo : Nat} {W2 : World} {ea : Option Addr} {el ec : Nat} {t : Nat} {u : Value} {wi : World} {en : Int} (h : GrM base lo W2 ea el ec (markOf en) t u wi) (hlo : lo ≤ W2.heap.size) (h0 : 0 ≤ en) (h1 : en ≤ 1000000) :
    Calls Tryd.prog 54 #[.int .i64 en] wi fun e w' => ∃ k, e = .returned (.slice (some ⟨k, 0, none⟩) 1 1) ∧ Mk lo (markOf en) w' (.slice (some ⟨k, 0, none⟩) 1 1) ∧ GrM base lo W2 ea el ec (markOf en) t u w' ∧ Kept (fun _ => False) wi w' := by
  refine (markM_any en wi h0 h1).mono ?_
  rintro e w' ⟨x, rfl, ⟨g, fz, rfl, hl, hg⟩, hk⟩
  exact ⟨_, rfl, ⟨g, fz, rfl, by have := h.kept.size; omega, hg⟩, h.call hk, hk⟩

theorem grM_fits {base lo : Nat} {W2 w1 w2 : World} {ea : Option Addr} {el ec : Nat} {m : Int} {t g uc : Nat} {o : Obj} {x : Value} {ys : List Value} (h : GrM base lo W2 ea el ec m t (.slice (some ⟨g, 0, none⟩) (el + t) uc) w1) (hx : Mk lo m w1 x)
    (ho : w1.ownsRow base 22 1 (.slice (some ⟨g, 0, none⟩) (el + t) uc) (el + t) ys) (hy : ∀ y ∈ ys, Mk lo m w1 y)
    (hown : w2.ownsRow base 22 1 (.slice (some ⟨g, 0, none⟩) (el + t + 1) uc) (el + t + 1) (ys ++ [x])) (hg : (w1.alloc o).grownBy w2 (some g)) :
    GrM base lo W2 ea el ec m (t + 1) (.slice (some ⟨g, 0, none⟩) (el + t + 1) uc) w2 := by
  have hk : Kept (fun b => b = g) w1 w2 := ((Kept.refl _ _).alloc o).grown hg (fun k e => by cases e; exact .inl rfl)
  have hD : ∀ k cs fz, lo ≤ k → w1.heap[k]? = some (.cells cs 5 fz) → ¬ k = g := fun k cs fz _ hb e => by subst e; exact own_not ho hb (by decide) rfl
  have hy2 : ∀ y ∈ ys ++ [x], Mk lo m w2 y := fun y hm => by
    rcases List.mem_append.1 hm with hm | hm
    · exact (hy y hm).kept hk hD
    · rw [List.mem_singleton.1 hm]; exact hx.kept hk hD
  refine ⟨⟨_, hown, hy2⟩, ?_, (h.kept.alloc o).grown hg (fun k e => by cases e; exact h.new g rfl), fun b hb => h.new b (by simpa [Value.ownBlock] using hb)⟩
  by_cases he : ea = some ⟨g, 0, none⟩
  · rw [he]
    exact LsM.of_own hown hy2 (by omega)
  · exact h.l.kept hk hD (fun k e1 e2 => he (by rw [e1, e2]))

theorem grM_grows {base lo : Nat} {W2 w1 w2 : World} {ea : Option Addr} {el ec : Nat} {m : Int} {t : Nat} {u v' : Value} {o : Obj} {x : Value} {ys : List Value} (h : GrM base lo W2 ea el ec m t u w1) (hbase : base ≤ W2.heap.size) (hx : Mk lo m w1 x)
    (hy : ∀ y ∈ ys, Mk lo m w1 y) (hown : w2.ownsRow (w1.alloc o).heap.size 22 1 v' (el + t + 1) (ys ++ [x])) (hg : (w1.alloc o).grownBy w2 none) :
    GrM base lo W2 ea el ec m (t + 1) v' w2 := by
  have hsz := h.kept.size
  have hnew : ∀ b, v'.ownBlock = some b → W2.heap.size ≤ b := fun b hb => by have := (own_lt hown hb).1; simp at this; omega
  have hk : Kept (fun _ => False) w1 w2 := ((Kept.refl _ _).alloc o).grown hg (by simp)
  have hy2 : ∀ y ∈ ys ++ [x], Mk lo m w2 y := fun y hm => by
    rcases List.mem_append.1 hm with hm | hm
    · exact (hy y hm).kept hk (fun _ _ _ _ _ h => h)
    · rw [List.mem_singleton.1 hm]; exact hx.kept hk (fun _ _ _ _ _ h => h)
  refine ⟨⟨_, own_base hown (by simp; omega), hy2⟩, h.l.kept hk (fun _ _ _ _ _ h => h) (fun _ _ h => h), (h.kept.alloc o).grown hg (by simp), fun b hb => .inr (hnew b hb)⟩

/-- The list was grown. -/
structure GrownM (base lo : Nat) (W : World) (gm cm : Nat) (ea : Option Addr) (el ec : Nat) (en : Int) (W' : World) : Prop where
  row : ∃ u, W'.ownsRow base 75 3 (.slice (some ⟨gm, 0, none⟩) 1 cm) 1 (flat3 [(.slice ea el ec, u, en)]) ∧ ∃ ys, W'.ownsRow base 22 1 u (el + 40) ys ∧ ∀ y ∈ ys, Mk lo (markOf en) W' y
  l : LsM lo (markOf en) W' ea el
  kept : Kept (fun k => (Value.slice ea el ec).ownBlock = some k ∨ k = gm) W W'

set_option maxRecDepth 100000 in
set_option maxHeartbeats 4000000 in
theorem growM_any {r : Nat → Value} (B : Nat) (n : Int) (vl : Value) (gm cm : Nat) (ea : Option Addr) (el ec : Nat) (en : Int) (ys : List Value) (base lo : Nat) (W : World) (hb : BookAt W B n vl r) (hr : r 4 = .slice (some ⟨gm, 0, none⟩) 1 cm)
    (hown : W.ownsRow base 75 3 (.slice (some ⟨gm, 0, none⟩) 1 cm) 1 (flat3 [(.slice ea el ec, .slice none 0 0, en)])) (hL : W.ownsRow base 22 1 (.slice ea el ec) el ys) (hy : ∀ y ∈ ys, Mk lo (markOf en) W y) (hlo : lo ≤ W.heap.size) (hbase : base ≤ W.heap.size)
    (hl : el ≤ 1073741824) (h0 : 0 ≤ en) (h1 : en ≤ 1000000) :
    Calls Tryd.prog 34 #[.pointer (some ⟨B, 0, none⟩)] W fun e W' => e = .returned (.tuple #[]) ∧ GrownM base lo W gm cm ea el ec en W' := by
  obtain ⟨i0, hi, hz0, hz1, hz2⟩ := info_parts infoB
  have hsepB : (Value.slice ea el ec).ownBlock ≠ some B := own_not hL hb (by decide)
  have hsepM : (Value.slice ea el ec).ownBlock ≠ some gm := fun h => own_sep hL hown (by decide) h rfl
  have hBm : gm ≠ B := fun e => own_not hown hb (by decide) (by rw [e]; rfl)
  have hmlt : gm < W.heap.size := (own_lt hown rfl).2
  have c4 : W.cell? ⟨B, 4, none⟩ = some (.slice (some ⟨gm, 0, none⟩) 1 cm) := by rw [← hr]; exact hb.rest 4 (by omega) (by omega)
  have d0 : W.cell? ⟨gm, 0, none⟩ = some (.slice ea el ec) := hown.cellAt 0 (by omega)
  have d1 : W.cell? ⟨gm, 1, none⟩ = some (.slice none 0 0) := hown.cellAt 1 (by omega)
  have d2 : W.cell? ⟨gm, 2, none⟩ = some (.int .i64 en) := hown.cellAt 2 (by omega)
  have hlB : B < W.heap.size := hb.lt
  have hblk : ∀ b, (Value.slice ea el ec).ownBlock = some b → b < W.heap.size := fun b hb => (own_lt hL hb).2
  have hK0 : Kept (fun k => (Value.slice ea el ec).ownBlock = some k) W (W.alloc (.cells #[.slice ea el ec, .slice none 0 0, .int .i64 en] 75)) := (Kept.refl _ _).alloc _
  have hG0 : GrM base lo (W.alloc (.cells #[.slice ea el ec, .slice none 0 0, .int .i64 en] 75)) ea el ec (markOf en) 0 (.slice ea el ec) (W.alloc (.cells #[.slice ea el ec, .slice none 0 0, .int .i64 en] 75)) := by
    have hk : Kept (fun _ => False) W (W.alloc (.cells #[.slice ea el ec, .slice none 0 0, .int .i64 en] 75)) := (Kept.refl _ _).alloc _
    have hy2 : ∀ y ∈ ys, Mk lo (markOf en) (W.alloc (.cells #[.slice ea el ec, .slice none 0 0, .int .i64 en] 75)) y := fun y hm => (hy y hm).kept hk (fun _ _ _ _ _ h => h)
    exact ⟨⟨ys, hL.alloc _, hy2⟩, LsM.of_own (hL.alloc _) hy2 (Nat.le_refl _), Kept.refl _ _, fun b hb => .inl hb⟩
  have HB : Hid (BookAt W B n vl r) := hb
  have HK : Hid (Kept (fun k => (Value.slice ea el ec).ownBlock = some k) W (W.alloc (.cells #[.slice ea el ec, .slice none 0 0, .int .i64 en] 75))) := hK0
  have HO : Hid (W.ownsRow base 75 3 (.slice (some ⟨gm, 0, none⟩) 1 cm) 1 (flat3 [(.slice ea el ec, .slice none 0 0, en)])) := hown
  clear hK0 hb hown hL hy
  go_enter Tryd.func34, Tryd.ntmps34
  go_wp2
  refine wp_loop_rounds 2 ?_
  rw [rounds_succ]
  go_wp2
  have q0 : (W.alloc (.cells #[.slice ea el ec, .slice none 0 0, .int .i64 en] 75)).cell? ⟨W.heap.size, 2, none⟩ = some (.int .i64 en) := by simp
  have hHlt : W.heap.size < (W.alloc (.cells #[.slice ea el ec, .slice none 0 0, .int .i64 en] 75)).heap.size := by simp
  generalize W.alloc (.cells #[.slice ea el ec, .slice none 0 0, .int .i64 en] 75) = W2 at *
  have hneH : (Value.slice ea el ec).ownBlock ≠ some W.heap.size := fun h => by have := hblk _ h; omega
  have hbase2 : base ≤ W2.heap.size := by omega
  have hlo2 : lo ≤ W2.heap.size := by omega
  clear d0 d1 d2 c4 hblk
  go_loopw [4, 5] (fun u j wi => ∃ t : Nat, t ≤ 40 ∧ j = .int .i64 t ∧ ∃ ua uc, u = .slice ua (el + t) uc ∧ GrM base lo W2 ea el ec (markOf en) t (.slice ua (el + t) uc) wi) (fun _ j _ => 40 - (intOf j).toNat)
  case atStart => exact ⟨0, by omega, rfl, ea, ec, rfl, hG0⟩
  case round =>
    obtain ⟨t, ht, rfl, ua, uc, rfl, hG⟩ := hrel
    by_cases htl : t < 40
    · have r2 : wr.cell? ⟨W.heap.size, 2, none⟩ = some (.int .i64 en) := (hG.kept.cell (p := ⟨W.heap.size, 2, none⟩) hHlt hneH).trans q0
      by_cases hfit : el + t + 1 ≤ uc
      · cases ua with
        | none => obtain ⟨ys, ho, _⟩ := hG.own; have := own_nil ho; omega
        | some ub =>
          have hu : ∃ g, ub = ⟨g, 0, none⟩ := by
            obtain ⟨ys0, ho0, _⟩ := hG.own
            exact own_addr ho0
          obtain ⟨g, rfl⟩ := hu
          go_wp2_with fail
          refine (hG.mark hlo2 h0 h1).mono ?_
          rintro e w1 ⟨k, rfl, hx, hG1, hkx⟩
          obtain ⟨ys, ho1, hy1⟩ := hG1.own
          clear hG r2
          go_wp2_with (at_builtin; refine wpList_append_fits _ rfl _ _ 44 rfl base 22 i0 1 Tryd.underlying44 hi hz1 g (el + t) uc _ rfl (ho1.alloc _) ⟨_, 0, none⟩ 1 1 [.slice (some ⟨k, 0, none⟩) 1 1] rfl rfl (cell_one_new _ _ _) (by simp [Value.oneCell']) hfit ?_; intro w2 hown2 hgrow2)
          have hG' := grM_fits hG1 hx ho1 hy1 hown2 hgrow2
          go_wp2
          go_roundw
          case rel => exact ⟨t + 1, by omega, by go_num, _, _, rfl, hG'⟩
          case measure => simp [intOf]; omega
      · go_wp2_with fail
        refine (hG.mark hlo2 h0 h1).mono ?_
        rintro e w1 ⟨k, rfl, hx, hG1, hkx⟩
        obtain ⟨ys, ho1, hy1⟩ := hG1.own
        have hyl : ys.length = el + t := by have := ho1.1; simpa using this
        have hw1 : base ≤ w1.heap.size := by have := hG1.kept.size; omega
        clear hG r2
        go_wp2_with (at_builtin; refine wpList_append_grows _ rfl _ _ 44 rfl 22 i0 (.slice none 0 0) 1 24 Tryd.underlying44 hi hz0 hz1 hz2 rfl (by decide) ua (el + t) uc ys rfl (fun e => by subst e; exact own_nil ho1) (by omega) (own_olds ho1 _) ⟨_, 0, none⟩ 1 1 [.slice (some ⟨k, 0, none⟩) 1 1] rfl rfl (cell_one_new _ _ _) (by simp [Value.oneCell']) (by omega) (by unfold maxLen; omega) (by omega) ?_; intro v' w2 hown2 hgrow2)
        have hG' := grM_grows hG1 hbase2 hx hy1 hown2 hgrow2
        obtain ⟨ua', uc', rfl⟩ := own_form hown2
        go_wp2
        go_roundw
        case rel => exact ⟨t + 1, by omega, by go_num, _, _, rfl, hG'⟩
        case measure => simp [intOf]; omega
    · obtain rfl : t = 40 := by omega
      have hKi := HK.out.trans hG.kept
      have hbf := HB.out.kept hKi hsepB
      have c4 : wr.cell? ⟨B, 4, none⟩ = some (.slice (some ⟨gm, 0, none⟩) 1 cm) := by rw [← hr]; exact hbf.rest 4 (by omega) (by omega)
      have hrow := own_kept HO.out hKi (fun g hg e => hsepM (by have e2 : gm = g := Option.some.inj hg; rw [e2]; exact e))
      have d1 : wr.cell? ⟨gm, 1, none⟩ = some (.slice none 0 0) := hrow.cellAt 1 (by omega)
      have f1 := hrow.frozenAt 1
      have hst := (hrow.stored 1 (.slice ua (el + 40) uc)).1
      have hKs : Kept (fun b => b = gm) wr (wr.setCell ⟨gm, 1, none⟩ (.slice ua (el + 40) uc)) := (Kept.refl (fun b => b = gm) wr).setCell (p := ⟨gm, 1, none⟩) (.inl rfl) _
      have hbf2 := hbf.kept hKs (fun e => hBm e.symm)
      have c42 : (wr.setCell ⟨gm, 1, none⟩ (.slice ua (el + 40) uc)).cell? ⟨B, 4, none⟩ = some (.slice (some ⟨gm, 0, none⟩) 1 cm) := by rw [← hr]; exact hbf2.rest 4 (by omega) (by omega)
      have hfin : GrownM base lo W gm cm ea el ec en (wr.setCell ⟨gm, 1, none⟩ (.slice ua (el + 40) uc)) := by
        obtain ⟨ys, ho, hy⟩ := hG.own
        have hD : ∀ k cs fz, lo ≤ k → wr.heap[k]? = some (.cells cs 5 fz) → ¬ k = gm := fun k cs fz _ hb e => by subst e; exact own_not hrow hb (by decide) rfl
        refine ⟨⟨_, hst, ys, own_kept ho hKs (fun g hg e => own_sep ho hrow (by decide) hg (by rw [e]; rfl)), fun y hm => (hy y hm).kept hKs hD⟩, hG.l.kept hKs hD (fun g e1 e2 => hsepM (by rw [e1, e2]; rfl)), (hKi.mono (fun _ _ h => .inl h)).trans (hKs.mono (fun _ _ h => .inr h))⟩
      clear hbf hbf2 hrow hG hst hKs
      go_wp2
      rw [rounds_succ]
      go_wp2
      go_end0
      exact ⟨rfl, hfin⟩
end Go.Proofs.YtmjjoiljdcjhdaaDoor
