/- 'Apart' of a Book that holds lists of bytes that lie in blocks of their own: true; nothing turns but the Book, its row and its lists. -/
import Derived.Test.YtecbhhfncklefaaDoorBookLook
import Derived.Test.YtecbhhfncklefaaDoorBookIdle
namespace Go.Proofs.YtecbhhfncklefaaDoor
set_option linter.unusedVariables false
open Go.RowKit

set_option maxRecDepth 100000 in
set_option maxHeartbeats 2000000 in
theorem apart_any (B : Nat) (n : Int) (vb : Value) (es : List Ent) (base : Nat) (W : World) (hb : BookAt W B n vb noRest)
    (hown : W.ownsRow base 91 3 vb es.length (flat3 (es.map held0))) (hL : Lists base W es 0) (hA : Apt es) (hS : Small es) (hbase : base ≤ W.heap.size) :
    Calls Tryd.prog 19 #[.pointer (some ⟨B, 0, none⟩)] W fun e W' => e = .returned (.bool true) ∧ Kept (fun k => InLists es k ∨ vb.ownBlock = some k) W W' := by
  have hsepB : ¬ InLists es B := fun ⟨j, hj, h⟩ => own_not (hL j hj) hb (by decide) h
  have hsepV : ∀ g, vb.ownBlock = some g → ¬ InLists es g := fun g hg ⟨j, hj, h⟩ => own_sep hown (hL j hj) (by decide) hg h
  have hvB : vb.ownBlock ≠ some B := own_not hown hb (by decide)
  go_enter Tryd.func19, Tryd.ntmps19
  go_wp2_with fail
  refine (fill_any B n vb es base W hb hown hL hA hS hbase).mono ?_
  rintro e W1 ⟨rfl, hL1, hK1⟩
  have hb1 := hb.kept hK1 hsepB
  have hown1 := own_kept hown hK1 hsepV
  have hbase1 : base ≤ W1.heap.size := Nat.le_trans hbase hK1.size
  clear hL hb hown
  go_wp2_with fail
  refine (fillNumber_idle B _ (hb1.idle 2 (by omega) (by omega))).mono ?_
  rintro e w' ⟨rfl, rfl⟩
  go_wp2_with fail
  refine (fillText_idle B _ (hb1.idle 3 (by omega) (by omega))).mono ?_
  rintro e w' ⟨rfl, rfl⟩
  go_wp2_with fail
  refine (fillBlob_idle B _ (hb1.idle 4 (by omega) (by omega))).mono ?_
  rintro e w' ⟨rfl, rfl⟩
  go_wp2_with fail
  refine (fillItem_idle B _ (hb1.idle 5 (by omega) (by omega))).mono ?_
  rintro e w' ⟨rfl, rfl⟩
  go_wp2_with fail
  refine (fillEntry_idle B _ (hb1.idle 6 (by omega) (by omega))).mono ?_
  rintro e w' ⟨rfl, rfl⟩
  go_wp2_with fail
  refine (fillNode_idle B _ (hb1.idle 7 (by omega) (by omega))).mono ?_
  rintro e w' ⟨rfl, rfl⟩
  go_wp2_with fail
  refine (grow_any B n vb es base _ hb1 hown1 hL1 hA hS hbase1).mono ?_
  rintro e W2 ⟨rfl, us, hI⟩
  have hK2 := (hK1.mono (fun _ _ h => .inl h)).trans hI.kept
  have hb2 := hb1.kept hI.kept (fun h => by rcases h with h | h; exact hsepB h; exact hvB h)
  clear hL1 hb1 hown1 hK1
  go_wp2_with fail
  refine (growNumber_idle B _ (hb2.idle 2 (by omega) (by omega))).mono ?_
  rintro e w' ⟨rfl, rfl⟩
  go_wp2_with fail
  refine (growText_idle B _ (hb2.idle 3 (by omega) (by omega))).mono ?_
  rintro e w' ⟨rfl, rfl⟩
  go_wp2_with fail
  refine (growBlob_idle B _ (hb2.idle 4 (by omega) (by omega))).mono ?_
  rintro e w' ⟨rfl, rfl⟩
  go_wp2_with fail
  refine (growItem_idle B _ (hb2.idle 5 (by omega) (by omega))).mono ?_
  rintro e w' ⟨rfl, rfl⟩
  go_wp2_with fail
  refine (growEntry_idle B _ (hb2.idle 6 (by omega) (by omega))).mono ?_
  rintro e w' ⟨rfl, rfl⟩
  go_wp2_with fail
  refine (growNode_idle B _ (hb2.idle 7 (by omega) (by omega))).mono ?_
  rintro e w' ⟨rfl, rfl⟩
  go_wp2_with fail
  refine (look_any B n vb es us base _ _ hb2 hI hS).mono ?_
  rintro e W3 ⟨rfl, hK3⟩
  have hK4 := hK2.trans (hK3.mono (fun _ _ h => h.elim))
  have hb3 := hb2.kept hK3 (fun h => h)
  clear hb2 hI hK2 hK3
  go_wp2_with fail
  refine (lookNumber_idle B _ (hb3.idle 2 (by omega) (by omega))).mono ?_
  rintro e w' ⟨rfl, rfl⟩
  go_wp2_with fail
  refine (lookText_idle B _ (hb3.idle 3 (by omega) (by omega))).mono ?_
  rintro e w' ⟨rfl, rfl⟩
  go_wp2_with fail
  refine (lookBlob_idle B _ (hb3.idle 4 (by omega) (by omega))).mono ?_
  rintro e w' ⟨rfl, rfl⟩
  go_wp2_with fail
  refine (lookItem_idle B _ (hb3.idle 5 (by omega) (by omega))).mono ?_
  rintro e w' ⟨rfl, rfl⟩
  go_wp2_with fail
  refine (lookEntry_idle B _ (hb3.idle 6 (by omega) (by omega))).mono ?_
  rintro e w' ⟨rfl, rfl⟩
  go_wp2_with fail
  refine (lookNode_idle B _ (hb3.idle 7 (by omega) (by omega))).mono ?_
  rintro e w' ⟨rfl, rfl⟩
  go_wp2
  go_ret
  exact ⟨rfl, hK4⟩
end Go.Proofs.YtecbhhfncklefaaDoor
