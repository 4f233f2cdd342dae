/- 'Apart' of a Book that holds lists of bytes and one list of messages, each in a block of its own: true; nothing turns but the Book's rows and its lists. -/
import Derived.Test.YtmjjoiljdcjhdaaDoorBlobLook
import Derived.Test.YtmjjoiljdcjhdaaDoorBookLook
import Derived.Test.YtmjjoiljdcjhdaaDoorBookIdle
namespace Go.Proofs.YtmjjoiljdcjhdaaDoor
set_option linter.unusedVariables false
open Go.RowKit

theorem BookAt.only4 {W : World} {B : Nat} {n : Int} {vb vm : Value} (h : BookAt W B n vb (upd noRest 4 vm)) (k : Nat) (h2 : 2 ≤ k) (h7 : k ≤ 7) (h4 : k ≠ 4) : W.cell? ⟨B, k, none⟩ = some (.slice none 0 0) := by
  have := h.rest k h2 h7
  simpa [upd, noRest, h4] using this

theorem GrowInv.carry {base : Nat} {vb : Value} {W0 W W' : World} {es : List Ent} {us : Nat → Value} {D : Nat → Prop} (h : GrowInv base vb W0 es us es.length W) (hk : Kept D W W') (hV : ∀ g, vb.ownBlock = some g → ¬ D g) (hE : ∀ g, InLists es g → ¬ D g)
    (hU : ∀ {v : Value} {n : Nat} {xs : List Value}, W.ownsRow base 5 1 v n xs → ∀ g, v.ownBlock = some g → ¬ D g) : ∃ W1, GrowInv base vb W1 es us es.length W' := by
  refine ⟨W', own_kept h.row hk hV, fun j hj hlt => absurd hlt (by omega), fun j hj hlt => ?_, Kept.refl _ _, h.unset⟩
  have hd := h.fin j hj hlt
  exact ⟨own_kept hd.own hk (hU hd.own), seg_kept hd.seg hk (fun b off e => hE b ⟨j, hj, hd.block b off e⟩), hd.block, hd.apart⟩

theorem GrownM.carry {base lo : Nat} {W0 W W' : World} {gm cm : Nat} {ea : Option Addr} {el ec : Nat} {en : Int} (h : GrownM base lo W0 gm cm ea el ec en W) (hk : Kept (fun _ => False) W W') : GrownM base lo W0 gm cm ea el ec en W' := by
  obtain ⟨⟨u, h1, ys, h2, h3⟩, hl, hk0⟩ := h
  exact ⟨⟨u, own_kept h1 hk (fun _ _ h => h), ys, own_kept h2 hk (fun _ _ h => h), fun y hy => (h3 y hy).kept hk (fun _ _ _ _ _ h => h)⟩, hl.kept hk (fun _ _ _ _ _ h => h) (fun _ _ h => h), hk0.trans (hk.mono (fun _ _ h => h.elim))⟩

set_option maxRecDepth 100000 in
set_option maxHeartbeats 4000000 in
theorem apartM_any (B : Nat) (n : Int) (vb : Value) (es : List Ent) (gm cm : Nat) (ea : Option Addr) (el ec : Nat) (en : Int) (xs : List Value) (base : Nat) (W : World) (hb : BookAt W B n vb (upd noRest 4 (.slice (some ⟨gm, 0, none⟩) 1 cm)))
    (hown : W.ownsRow base 64 3 vb es.length (flat3 (es.map held0))) (hL : Lists base W es 0) (hA : Apt es) (hS : Small es)
    (hM : W.ownsRow base 75 3 (.slice (some ⟨gm, 0, none⟩) 1 cm) 1 (flat3 [(.slice ea el ec, .slice none 0 0, en)])) (hX : W.ownsRow base 22 1 (.slice ea el ec) el xs) (hl : el ≤ 1073741824) (h0 : 0 ≤ en) (h1 : en ≤ 1000000) (hbase : base ≤ W.heap.size) :
    Calls Tryd.prog 14 #[.pointer (some ⟨B, 0, none⟩)] W fun e W' => e = .returned (.bool true) ∧ Kept (fun k => (InLists es k ∨ vb.ownBlock = some k) ∨ ((Value.slice ea el ec).ownBlock = some k ∨ k = gm)) W W' := by
  have sLB : ¬ InLists es B := fun ⟨j, hj, h⟩ => own_not (hL j hj) hb (by decide) h
  have sVB : vb.ownBlock ≠ some B := own_not hown hb (by decide)
  have sXB : (Value.slice ea el ec).ownBlock ≠ some B := own_not hX hb (by decide)
  have sMB : gm ≠ B := fun e => own_not hM hb (by decide) (by rw [e]; rfl)
  have sVL : ∀ g, vb.ownBlock = some g → ¬ InLists es g := fun g hg ⟨j, hj, h⟩ => own_sep hown (hL j hj) (by decide) hg h
  have sXL : ∀ g, (Value.slice ea el ec).ownBlock = some g → ¬ InLists es g := fun g hg ⟨j, hj, h⟩ => own_sep hX (hL j hj) (by decide) hg h
  have sML : ¬ InLists es gm := fun ⟨j, hj, h⟩ => own_sep hM (hL j hj) (by decide) rfl h
  have sXV : ∀ g, (Value.slice ea el ec).ownBlock = some g → vb.ownBlock ≠ some g := fun g hg h => own_sep hX hown (by decide) hg h
  have sMV : vb.ownBlock ≠ some gm := fun h => own_sep hM hown (by decide) rfl h
  have sXM : (Value.slice ea el ec).ownBlock ≠ some gm := fun h => own_sep hX hM (by decide) h rfl
  have hlt : ∀ g, InLists es g → g < W.heap.size := fun g ⟨j, hj, h⟩ => (own_lt (hL j hj) h).2
  have hVlt : ∀ g, vb.ownBlock = some g → g < W.heap.size := fun g h => (own_lt hown h).2
  go_enter Tryd.func14, Tryd.ntmps14
  go_wp2_with fail
  refine (fill_any B n vb es base W hb hown hL hA hS hbase).mono ?_
  rintro e W1 ⟨rfl, hL1, hK1⟩
  have hb1 := hb.kept hK1 sLB
  have hown1 := own_kept hown hK1 sVL
  have hM1 := own_kept hM hK1 (fun g hg h => sML (by have e : gm = g := Option.some.inj hg; rw [e]; exact h))
  have hX1 := own_kept hX hK1 sXL
  have hsz1 := hK1.size
  obtain ⟨lo, hlo⟩ : ∃ lo, W1.heap.size = lo := ⟨_, rfl⟩
  clear hL hb hown hM hX
  go_wp2_with fail
  refine (fillNumber_idle B _ (hb1.only4 2 (by omega) (by omega) (by omega))).mono ?_
  rintro e w' ⟨rfl, rfl⟩
  go_wp2_with fail
  refine (fillText_idle B _ (hb1.only4 3 (by omega) (by omega) (by omega))).mono ?_
  rintro e w' ⟨rfl, rfl⟩
  go_wp2_with fail
  refine (fillM_any B n vb gm cm ea el ec en xs base _ hb1 rfl hM1 hX1 hl h0 h1).mono ?_
  rintro e W2 ⟨rfl, ⟨ys, hX2, hy2⟩, hK2⟩
  simp only [hlo] at hy2
  have hb2 := hb1.kept hK2 sXB
  have hown2 := own_kept hown1 hK2 (fun g hg h => sXV g h hg)
  have hM2 := own_kept hM1 hK2 (fun g hg h => sXM (by have e : gm = g := Option.some.inj hg; rw [e]; exact h))
  have hL2 : Lists base W2 es es.length := fun j hj => own_kept (hL1 j hj) hK2 (fun g hg h => sXL g h ⟨j, hj, hg⟩)
  have hsz2 := hK2.size
  have hT2 := (hK1.mono (E := fun k => (InLists es k ∨ vb.ownBlock = some k) ∨ ((Value.slice ea el ec).ownBlock = some k ∨ k = gm)) (fun _ _ h => .inl (.inl h))).trans (hK2.mono (fun _ _ h => .inr (.inl h)))
  clear hb1 hown1 hM1 hX1 hL1 hK1 hK2
  go_wp2_with fail
  refine (fillItem_idle B _ (hb2.only4 5 (by omega) (by omega) (by omega))).mono ?_
  rintro e w' ⟨rfl, rfl⟩
  go_wp2_with fail
  refine (fillEntry_idle B _ (hb2.only4 6 (by omega) (by omega) (by omega))).mono ?_
  rintro e w' ⟨rfl, rfl⟩
  go_wp2_with fail
  refine (fillNode_idle B _ (hb2.only4 7 (by omega) (by omega) (by omega))).mono ?_
  rintro e w' ⟨rfl, rfl⟩
  go_wp2_with fail
  refine (grow_any B n vb es base _ hb2 hown2 hL2 hA hS (by omega)).mono ?_
  rintro e W3 ⟨rfl, us, hI⟩
  have hb3 := hb2.kept hI.kept (fun h => by rcases h with h | h; exact sLB h; exact sVB h)
  have hM3 := own_kept hM2 hI.kept (fun g hg h => by
    have e : gm = g := Option.some.inj hg
    subst e
    rcases h with h | h
    · exact sML h
    · exact sMV h)
  have hX3 := own_kept hX2 hI.kept (fun g hg h => by rcases h with h | h; exact sXL g hg h; exact sXV g hg h)
  have hy3 : ∀ y ∈ ys, Mk lo (markOf en) W3 y := fun y hm => (hy2 y hm).kept hI.kept (fun g cs fz hg _ h => by
    rcases h with h | h
    · have := hlt g h; omega
    · have := hVlt g h; omega)
  have hsz3 := hI.kept.size
  have hT3 := hT2.trans (hI.kept.mono (fun _ _ h => .inl h))
  clear hb2 hown2 hM2 hL2 hX2 hy2 hT2
  go_wp2_with fail
  refine (growNumber_idle B _ (hb3.only4 2 (by omega) (by omega) (by omega))).mono ?_
  rintro e w' ⟨rfl, rfl⟩
  go_wp2_with fail
  refine (growText_idle B _ (hb3.only4 3 (by omega) (by omega) (by omega))).mono ?_
  rintro e w' ⟨rfl, rfl⟩
  go_wp2_with fail
  refine (growM_any B n vb gm cm ea el ec en ys base lo _ hb3 rfl hM3 hX3 hy3 (by omega) (by omega) hl h0 h1).mono ?_
  rintro e W4 ⟨rfl, hG⟩
  have hb4 := hb3.kept hG.kept (fun h => by rcases h with h | h; exact sXB h; exact sMB h.symm)
  have hI4 : ∃ V, GrowInv base vb V es us es.length W4 := hI.carry hG.kept (fun g hg h => by
      rcases h with h | h
      · exact sXV g h hg
      · exact sMV (by rw [← h]; exact hg)) (fun g hg h => by
      rcases h with h | h
      · exact sXL g h hg
      · exact sML (by rw [← h]; exact hg)) (fun ho g hg h => by
      rcases h with h | h
      · exact own_sep ho hX3 (by decide) hg h
      · exact own_sep ho hM3 (by decide) hg (by rw [h]; rfl))
  obtain ⟨V, hI4⟩ := hI4
  have hT4 := hT3.trans (hG.kept.mono (fun _ _ h => .inr h))
  clear hb3 hM3 hX3 hy3 hI hT3
  go_wp2_with fail
  refine (growItem_idle B _ (hb4.only4 5 (by omega) (by omega) (by omega))).mono ?_
  rintro e w' ⟨rfl, rfl⟩
  go_wp2_with fail
  refine (growEntry_idle B _ (hb4.only4 6 (by omega) (by omega) (by omega))).mono ?_
  rintro e w' ⟨rfl, rfl⟩
  go_wp2_with fail
  refine (growNode_idle B _ (hb4.only4 7 (by omega) (by omega) (by omega))).mono ?_
  rintro e w' ⟨rfl, rfl⟩
  go_wp2_with fail
  refine (look_any B n vb es us base _ _ hb4 hI4 hS).mono ?_
  rintro e W5 ⟨rfl, hK5⟩
  have hb5 := hb4.kept hK5 (fun h => h)
  have hG5 := hG.carry hK5
  have hT5 := hT4.trans (hK5.mono (fun _ _ h => h.elim))
  clear hb4 hI4 hG hT4 hK5
  go_wp2_with fail
  refine (lookNumber_idle B _ (hb5.only4 2 (by omega) (by omega) (by omega))).mono ?_
  rintro e w' ⟨rfl, rfl⟩
  go_wp2_with fail
  refine (lookText_idle B _ (hb5.only4 3 (by omega) (by omega) (by omega))).mono ?_
  rintro e w' ⟨rfl, rfl⟩
  go_wp2_with fail
  refine (lookM_any B n vb gm cm ea el ec en base _ _ _ hb5 rfl hG5 hl h0 h1).mono ?_
  rintro e W6 ⟨rfl, hK6⟩
  have hb6 := hb5.kept hK6 (fun h => h)
  have hT6 := hT5.trans (hK6.mono (fun _ _ h => h.elim))
  clear hb5 hG5 hT5 hK6
  go_wp2_with fail
  refine (lookItem_idle B _ (hb6.only4 5 (by omega) (by omega) (by omega))).mono ?_
  rintro e w' ⟨rfl, rfl⟩
  go_wp2_with fail
  refine (lookEntry_idle B _ (hb6.only4 6 (by omega) (by omega) (by omega))).mono ?_
  rintro e w' ⟨rfl, rfl⟩
  go_wp2_with fail
  refine (lookNode_idle B _ (hb6.only4 7 (by omega) (by omega) (by omega))).mono ?_
  rintro e w' ⟨rfl, rfl⟩
  go_wp2
  go_ret
  exact ⟨rfl, hT6⟩
end Go.Proofs.YtmjjoiljdcjhdaaDoor
