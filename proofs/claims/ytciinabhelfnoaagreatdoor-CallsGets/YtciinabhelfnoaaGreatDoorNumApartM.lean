/- 'Apart' of a Book that holds lists of bytes and lists of numbers, each in a block of its own: true; nothing turns but the Book's rows and its lists. -/
import Derived.Test.YtciinabhelfnoaaGreatDoorNumLookM
import Derived.Test.YtciinabhelfnoaaGreatDoorBookLookM
import Derived.Test.YtciinabhelfnoaaGreatDoorBookIdleM
namespace Go.Proofs.YtciinabhelfnoaaGreatDoor
set_option linter.unusedVariables false
open Go.RowKit

theorem BookAt.only2 {W : World} {B : Nat} {n : Int} {vb vn : Value} (h : BookAt W B n vb (upd noRest 2 vn)) (k : Nat) (h3 : 3 ≤ k) (h7 : k ≤ 7) : W.cell? ⟨B, k, none⟩ = some (.slice none 0 0) := by
  have := h.rest k (by omega) h7
  simpa [upd, noRest, show k ≠ 2 from by omega] using this

theorem grown_carry {base : Nat} {vb : Value} {W0 W W' : World} {es : List Ent} {us : Nat → Value} {D : Nat → Prop} (h : GrowInv base vb W0 es us es.length W) (hk : Kept D W W') (hV : ∀ g, vb.ownBlock = some g → ¬ D g) (hE : ∀ g, InLists es g → ¬ D g)
    (hU : ∀ {v : Value} {n : Nat} {xs : List Value}, W.ownsRow base 5 1 v n xs → ∀ g, v.ownBlock = some g → ¬ D g) : ∃ W1, GrowInv base vb W1 es us es.length W' := by
  refine ⟨W', own_kept h.row hk hV, fun j hj hlt => absurd hlt (by omega), fun j hj hlt => ?_, Kept.refl _ _, h.unset⟩
  have hd := h.fin j hj hlt
  exact ⟨own_kept hd.own hk (hU hd.own), seg_kept hd.seg hk (fun b off e => hE b ⟨j, hj, hd.block b off e⟩), hd.block, hd.apart⟩

theorem grown4_carry {base : Nat} {vb : Value} {W0 W W' : World} {es : List Ent} {us : Nat → Value} (h : GrowInv4 base vb W0 es us es.length W) (hk : Kept (fun _ => False) W W') : ∃ W1, GrowInv4 base vb W1 es us es.length W' := by
  refine ⟨W', own_kept h.row hk (fun _ _ h => h), fun j hj hlt => absurd hlt (by omega), fun j hj hlt => ?_, Kept.refl _ _, h.unset⟩
  have hd := h.fin j hj hlt
  exact ⟨own_kept hd.own hk (fun _ _ h => h), seg4_kept hd.seg hk (fun _ _ _ h => h), hd.block, hd.apart⟩

set_option maxRecDepth 100000 in
set_option maxHeartbeats 4000000 in
theorem apart4_any (B : Nat) (n : Int) (vb vn : Value) (es fs : List Ent) (base : Nat) (W : World) (hb : BookAt W B n vb (upd noRest 2 vn))
    (hown : W.ownsRow base 73 3 vb es.length (flat3 (es.map held0))) (hL : Lists base W es 0) (hA : Apt es) (hS : Small es)
    (hM : W.ownsRow base 77 3 vn fs.length (flat3 (fs.map held0))) (hX : Lists4 base W fs 0) (hA4 : Apt fs) (hS4 : Small fs) (hbase : base ≤ W.heap.size) :
    Calls Tryz.prog 11 #[.pointer (some ⟨B, 0, none⟩)] W fun e W' => e = .returned (.bool true) ∧ Kept (fun k => (InLists es k ∨ vb.ownBlock = some k) ∨ (InLists fs k ∨ vn.ownBlock = some k)) W W' := by
  have sLB : ¬ InLists es B := fun ⟨j, hj, h⟩ => own_not (hL j hj) hb (by decide) h
  have sVB : vb.ownBlock ≠ some B := own_not hown hb (by decide)
  have sXB : ¬ InLists fs B := fun ⟨j, hj, h⟩ => own_not (hX j hj) hb (by decide) h
  have sMB : vn.ownBlock ≠ some B := own_not hM hb (by decide)
  have sVL : ∀ g, vb.ownBlock = some g → ¬ InLists es g := fun g hg ⟨j, hj, h⟩ => own_sep hown (hL j hj) (by decide) hg h
  have sXL : ∀ g, InLists fs g → ¬ InLists es g := fun g ⟨i, hi, hg⟩ ⟨j, hj, h⟩ => own_sep (hX i hi) (hL j hj) (by decide) hg h
  have sML : ∀ g, vn.ownBlock = some g → ¬ InLists es g := fun g hg ⟨j, hj, h⟩ => own_sep hM (hL j hj) (by decide) hg h
  have sXV : ∀ g, InLists fs g → vb.ownBlock ≠ some g := fun g ⟨i, hi, hg⟩ h => own_sep (hX i hi) hown (by decide) hg h
  have sMV : ∀ g, vn.ownBlock = some g → vb.ownBlock ≠ some g := fun g hg h => own_sep hM hown (by decide) hg h
  have sXM : ∀ g, InLists fs g → vn.ownBlock ≠ some g := fun g ⟨i, hi, hg⟩ h => own_sep (hX i hi) hM (by decide) hg h
  go_enter Tryz.func11, Tryz.ntmps11
  go_wp2_with fail
  refine (fill_any B n vb es base W hb hown hL hA hS hbase).mono ?_
  rintro e W1 ⟨rfl, hL1, hK1⟩
  have hb1 := hb.kept hK1 sLB
  have hown1 := own_kept hown hK1 sVL
  have hM1 := own_kept hM hK1 sML
  have hX1 : Lists4 base W1 fs 0 := fun j hj => own_kept (hX j hj) hK1 (fun g hg h => sXL g ⟨j, hj, hg⟩ h)
  have hsz1 := hK1.size
  clear hL hb hown hM hX
  go_wp2_with fail
  refine (fill4_any B n vb vn fs base _ hb1 rfl hM1 hX1 hA4 hS4 (by omega)).mono ?_
  rintro e W2 ⟨rfl, hX2, hK2⟩
  have hb2 := hb1.kept hK2 sXB
  have hown2 := own_kept hown1 hK2 (fun g hg h => sXV g h hg)
  have hM2 := own_kept hM1 hK2 (fun g hg h => sXM g h hg)
  have hL2 : Lists base W2 es es.length := fun j hj => own_kept (hL1 j hj) hK2 (fun g hg h => sXL g h ⟨j, hj, hg⟩)
  have hsz2 := hK2.size
  have hT2 := (hK1.mono (E := fun k => (InLists es k ∨ vb.ownBlock = some k) ∨ (InLists fs k ∨ vn.ownBlock = some k)) (fun _ _ h => .inl (.inl h))).trans (hK2.mono (fun _ _ h => .inr (.inl h)))
  clear hb1 hown1 hM1 hX1 hL1 hK1 hK2
  go_wp2_with fail
  refine (fillText_idle B _ (hb2.only2 3 (by omega) (by omega))).mono ?_
  rintro e w' ⟨rfl, rfl⟩
  go_wp2_with fail
  refine (fillBlob_idle B _ (hb2.only2 4 (by omega) (by omega))).mono ?_
  rintro e w' ⟨rfl, rfl⟩
  go_wp2_with fail
  refine (fillItem_idle B _ (hb2.only2 5 (by omega) (by omega))).mono ?_
  rintro e w' ⟨rfl, rfl⟩
  go_wp2_with fail
  refine (fillEntry_idle B _ (hb2.only2 6 (by omega) (by omega))).mono ?_
  rintro e w' ⟨rfl, rfl⟩
  go_wp2_with fail
  refine (fillNode_idle B _ (hb2.only2 7 (by omega) (by omega))).mono ?_
  rintro e w' ⟨rfl, rfl⟩
  go_wp2_with fail
  refine (grow_any B n vb es base _ hb2 hown2 hL2 hA hS (by omega)).mono ?_
  rintro e W3 ⟨rfl, us, hI⟩
  have hb3 := hb2.kept hI.kept (fun h => by rcases h with h | h; exact sLB h; exact sVB h)
  have hM3 := own_kept hM2 hI.kept (fun g hg h => by
    rcases h with h | h
    · exact sML g hg h
    · exact sMV g hg h)
  have hX3 : Lists4 base W3 fs fs.length := fun j hj => own_kept (hX2 j hj) hI.kept (fun g hg h => by
    rcases h with h | h
    · exact sXL g ⟨j, hj, hg⟩ h
    · exact sXV g ⟨j, hj, hg⟩ h)
  have hsz3 := hI.kept.size
  have hT3 := hT2.trans (hI.kept.mono (fun _ _ h => .inl h))
  clear hb2 hown2 hM2 hL2 hX2 hT2
  go_wp2_with fail
  refine (grow4_any B n vb vn fs base _ hb3 rfl hM3 hX3 hA4 hS4 (by omega)).mono ?_
  rintro e W4 ⟨rfl, us4, hG⟩
  have hb4 := hb3.kept hG.kept (fun h => by rcases h with h | h; exact sXB h; exact sMB h)
  have hI4 : ∃ V, GrowInv base vb V es us es.length W4 := grown_carry hI hG.kept (fun g hg h => by
      rcases h with h | h
      · exact sXV g h hg
      · exact sMV g h hg) (fun g hg h => by
      rcases h with h | h
      · exact sXL g h hg
      · exact sML g h hg) (fun ho g hg h => by
      rcases h with ⟨j, hj, h⟩ | h
      · exact own_sep ho (hX3 j hj) (by decide) hg h
      · exact own_sep ho hM3 (by decide) hg h)
  obtain ⟨V, hI4⟩ := hI4
  have hT4 := hT3.trans (hG.kept.mono (fun _ _ h => .inr h))
  clear hb3 hM3 hX3 hI hT3
  go_wp2_with fail
  refine (growText_idle B _ (hb4.only2 3 (by omega) (by omega))).mono ?_
  rintro e w' ⟨rfl, rfl⟩
  go_wp2_with fail
  refine (growBlob_idle B _ (hb4.only2 4 (by omega) (by omega))).mono ?_
  rintro e w' ⟨rfl, rfl⟩
  go_wp2_with fail
  refine (growItem_idle B _ (hb4.only2 5 (by omega) (by omega))).mono ?_
  rintro e w' ⟨rfl, rfl⟩
  go_wp2_with fail
  refine (growEntry_idle B _ (hb4.only2 6 (by omega) (by omega))).mono ?_
  rintro e w' ⟨rfl, rfl⟩
  go_wp2_with fail
  refine (growNode_idle B _ (hb4.only2 7 (by omega) (by omega))).mono ?_
  rintro e w' ⟨rfl, rfl⟩
  go_wp2_with fail
  refine (look_any B n vb es us base _ _ hb4 hI4 hS).mono ?_
  rintro e W5 ⟨rfl, hK5⟩
  have hb5 := hb4.kept hK5 (fun h => h)
  obtain ⟨V5, hG5⟩ := grown4_carry hG hK5
  have hT5 := hT4.trans (hK5.mono (fun _ _ h => h.elim))
  clear hb4 hI4 hG hT4 hK5
  go_wp2_with fail
  refine (look4_any B n vb vn fs us4 base _ _ hb5 rfl hG5 hS4).mono ?_
  rintro e W6 ⟨rfl, hK6⟩
  have hb6 := hb5.kept hK6 (fun h => h)
  have hT6 := hT5.trans (hK6.mono (fun _ _ h => h.elim))
  clear hb5 hG5 hT5 hK6
  go_wp2_with fail
  refine (lookText_idle B _ (hb6.only2 3 (by omega) (by omega))).mono ?_
  rintro e w' ⟨rfl, rfl⟩
  go_wp2_with fail
  refine (lookBlob_idle B _ (hb6.only2 4 (by omega) (by omega))).mono ?_
  rintro e w' ⟨rfl, rfl⟩
  go_wp2_with fail
  refine (lookItem_idle B _ (hb6.only2 5 (by omega) (by omega))).mono ?_
  rintro e w' ⟨rfl, rfl⟩
  go_wp2_with fail
  refine (lookEntry_idle B _ (hb6.only2 6 (by omega) (by omega))).mono ?_
  rintro e w' ⟨rfl, rfl⟩
  go_wp2_with fail
  refine (lookNode_idle B _ (hb6.only2 7 (by omega) (by omega))).mono ?_
  rintro e w' ⟨rfl, rfl⟩
  go_wp2
  go_ret
  exact ⟨rfl, hT6⟩
end Go.Proofs.YtciinabhelfnoaaGreatDoor
