/- The walk of 'WordsPuts': true for any numbers of both kinds, yes and no; nothing that was there turns. -/
import Derived.Test.YtkknlfmkhckgcaaDoorPut
import Derived.Test.YtkknlfmkhckgcaaDoorSame
import Derived.Test.YtkknlfmkhckgcaaDoorRefPut
import Derived.Test.YtkknlfmkhckgcaaDoorBookApart
import Derived.WalkSmall
namespace Go.Proofs.YtkknlfmkhckgcaaDoor
set_option linter.unusedVariables false
open Go.RowKit

/-- The four answers, in memory of their own. -/
structure Four (w : World) (n m k : Int) (ga gb gc gd : Nat) (W : World) : Prop where
  below : Below w.heap.size w W
  oa : W.ownsRow w.heap.size 5 1 (.slice (some ⟨ga, 0, none⟩) 4 4) 4 ((bytesOf n 4).map (Value.int .u8))
  ob : W.ownsRow w.heap.size 5 1 (.slice (some ⟨gb, 0, none⟩) 4 4) 4 ((bytesOf n 4).map (Value.int .u8))
  oc : W.ownsRow w.heap.size 5 1 (.slice (some ⟨gc, 0, none⟩) 8 8) 8 ((bytesOf m 8).map (Value.int .u8))
  od : W.ownsRow w.heap.size 5 1 (.slice (some ⟨gd, 0, none⟩) 4 4) 4 ((bytesOf k 4).map (Value.int .u8))

theorem Four.next {w : World} {n m k : Int} {ga gb gc gd : Nat} {W W' : World} (h : Four w n m k ga gb gc gd W) (hb : Below W.heap.size W W') : Four w n m k ga gb gc gd W' :=
  ⟨h.below.trans (hb.mono h.below.size), own_below h.oa hb, own_below h.ob hb, own_below h.oc hb, own_below h.od hb⟩
theorem Four.drewN {w : World} {n m k : Int} {ga gb gc gd : Nat} {W : World} (h : Four w n m k ga gb gc gd W) (j : Nat) : Four w n m k ga gb gc gd (W.drewN j) := h.next (below_drewN (Below.refl _ _) j)

/-- The four lists as a Book holds them. -/
def fourEs (n m k : Int) (ga gb gc gd : Nat) : List Ent :=
  [⟨some ⟨ga, 0, none⟩, 4, 4, 0 + 1, bytesOf n 4⟩, ⟨some ⟨gb, 0, none⟩, 4, 4, 0 + 1 + 1, bytesOf n 4⟩, ⟨some ⟨gc, 0, none⟩, 8, 8, 0 + 1 + 1 + 1, bytesOf m 8⟩, ⟨some ⟨gd, 0, none⟩, 4, 4, 0 + 1 + 1 + 1 + 1, bytesOf k 4⟩]

theorem four_lists {w : World} {n m k : Int} {ga gb gc gd : Nat} {W : World} (h : Four w n m k ga gb gc gd W) : Lists w.heap.size W (fourEs n m k ga gb gc gd) 0 := by
  intro j hj
  rw [if_neg (by omega)]
  match j, hj with
  | 0, _ => exact h.oa
  | 1, _ => exact h.ob
  | 2, _ => exact h.oc
  | 3, _ => exact h.od

theorem four_apt {n m k : Int} {ga gb gc gd : Nat} (h1 : ga < gb) (h2 : gb < gc) (h3 : gc < gd) : Apt (fourEs n m k ga gb gc gd) := by
  intro i j hi hj hij g hg hg2
  have key : ∀ (i : Nat) (hi : i < (fourEs n m k ga gb gc gd).length), (fourEs n m k ga gb gc gd)[i].v.ownBlock = some (if i = 0 then ga else if i = 1 then gb else if i = 2 then gc else gd) := by
    intro i hi
    match i, hi with
    | 0, _ => rfl
    | 1, _ => rfl
    | 2, _ => rfl
    | 3, _ => rfl
  rw [key i hi] at hg
  rw [key j hj] at hg2
  have hi4 : i < 4 := hi
  have hj4 : j < 4 := hj
  have := hg.trans hg2.symm
  simp only [Option.some.injEq] at this
  split at this <;> split at this <;> (try omega) <;> (repeat (split at this <;> try omega))

theorem four_small (n m k : Int) (ga gb gc gd : Nat) : Small (fourEs n m k ga gb gc gd) := by
  refine ⟨by simp [fourEs], fun j hj => ?_⟩
  match j, hj with
  | 0, _ => exact ⟨by simp [fourEs], by simp [fourEs], by simp [fourEs]⟩
  | 1, _ => exact ⟨by simp [fourEs], by simp [fourEs], by simp [fourEs]⟩
  | 2, _ => exact ⟨by simp [fourEs], by simp [fourEs], by simp [fourEs]⟩
  | 3, _ => exact ⟨by simp [fourEs], by simp [fourEs], by simp [fourEs]⟩

/-- A Book that holds more and more; the four answers stay. -/
structure Held (w : World) (n m k : Int) (ga gb gc gd B : Nat) (i : Int) (vb : Value) (hs : List (Value × Value × Int)) (W : World) : Prop where
  four : Four w n m k ga gb gc gd W
  book : BookAt W B i vb
  row : W.ownsRow w.heap.size 47 3 vb hs.length (flat3 hs)
  new : w.heap.size ≤ B

theorem held_step {w : World} {n m k : Int} {ga gb gc gd B : Nat} {i i' : Int} {vb vb' : Value} {hs hs' : List (Value × Value × Int)} {W W' : World} (h : Held w n m k ga gb gc gd B i vb hs W)
    (hb : BookAt W' B i' vb') (hr : W'.ownsRow w.heap.size 47 3 vb' hs'.length (flat3 hs')) (hk : Kept (fun b => b = B ∨ vb.ownBlock = some b) W W') : Held w n m k ga gb gc gd B i' vb' hs' W' := by
  have far : ∀ {v : Value} {l : Nat} {xs : List Value}, W.ownsRow w.heap.size 5 1 v l xs → W'.ownsRow w.heap.size 5 1 v l xs := fun ho => own_kept ho hk (fun g hg hD => by
    rcases hD with rfl | hD
    · exact own_not ho h.book (by decide) hg
    · exact own_sep ho h.row (by decide) hg hD)
  have hbel : Below w.heap.size W W' := hk.below (fun b hD => by
    rcases hD with rfl | hD
    · exact h.new
    · exact (own_lt h.row hD).1) h.four.below.size
  exact ⟨⟨h.four.below.trans hbel, far h.four.oa, far h.four.ob, far h.four.oc, far h.four.od⟩, hb, hr, h.new⟩

set_option maxRecDepth 100000 in
set_option maxHeartbeats 2000000 in
theorem puts_walk (n m : Int) (y : Bool) (w : World) (hn0 : 0 ≤ n) (hn1 : n ≤ 4294967295) (hm0 : 0 ≤ m) (hm1 : m ≤ 18446744073709551615) :
    Calls Tryd.prog 3 #[.int .u32 n, .int .u64 m, .bool y] w fun e w' => e = .returned (.bool true) ∧ Below w.heap.size w w' := by
  go_enter Tryd.func3, Tryd.ntmps3
  go_wp2_with fail
  refine (Put_any n hn0 hn1 w).mono ?_
  rintro e w1 ⟨rfl, o1, b1⟩
  go_wp2_with fail
  refine (Put_any n hn0 hn1 w1).mono ?_
  rintro e w2 ⟨rfl, o2, b2⟩
  go_wp2_with fail
  refine (PutLong_any m hm0 hm1 w2).mono ?_
  rintro e w3 ⟨rfl, o3, b3⟩
  go_wp2_with fail
  refine (PutYes_any y w3).mono ?_
  rintro e w4 ⟨rfl, o4, b4⟩
  have B2 := b1.trans (b2.mono b1.size)
  have B3 := B2.trans (b3.mono B2.size)
  have B4 := B3.trans (b4.mono B3.size)
  have l1 : w.heap.size < w1.heap.size := (own_lt o1 rfl).2
  have l2 : w1.heap.size < w2.heap.size := (own_lt o2 rfl).2
  have l3 : w2.heap.size < w3.heap.size := (own_lt o3 rfl).2
  have hF : Four w n m (if y then 1 else 0) w.heap.size w1.heap.size w2.heap.size w3.heap.size w4 :=
    ⟨B4, own_below (own_below (own_below o1 b2) b3) b4, own_base (own_below (own_below o2 b3) b4) (by omega), own_base (own_below o3 b4) (by omega), own_base o4 (by omega)⟩
  clear o1 o2 o3 o4 b1 b2 b3 b4 B2 B3 B4
  generalize hkk : (if y = true then (1 : Int) else 0) = kk at *
  have HY : Hid ((if y = true then (1 : Int) else 0) = kk) := hkk
  clear hkk
  generalize w3.heap.size = gd at l3 hF ⊢
  generalize w2.heap.size = gc at l2 l3 hF ⊢
  generalize w1.heap.size = gb at l1 l2 hF ⊢
  generalize w.heap.size = ga at l1 hF ⊢
  go_wp2_with fail
  refine (refPut_seg n hn0 hn1 _).mono ?_
  rintro e w5 ⟨g5, rfl, s5, b5⟩
  have F5 := hF.next b5
  clear hF b5
  go_wp2_with fail
  refine (same_true _ _ 4 4 4 (bytesOf n 4) _ (by omega) (bytesOf_length _ _) (seg_own F5.oa (bytesOf_length _ _)) s5).mono ?_
  rintro e w' ⟨rfl, j5, rfl⟩
  have F6 := F5.drewN j5
  generalize w5.drewN j5 = w6 at F6 ⊢
  clear F5 s5
  go_wp2_with fail
  refine (same_true _ _ 4 4 4 (bytesOf n 4) _ (by omega) (bytesOf_length _ _) (seg_own F6.ob (bytesOf_length _ _)) (seg_own F6.oa (bytesOf_length _ _))).mono ?_
  rintro e w' ⟨rfl, j6, rfl⟩
  have F7 := F6.drewN j6
  generalize w6.drewN j6 = w7 at F7 ⊢
  clear F6
  go_wp2_with fail
  refine (refPutLong_any m hm0 hm1 _).mono ?_
  rintro e w8 ⟨g8, cap8, rfl, s8, b8⟩
  have F8 := F7.next b8
  clear F7 b8
  go_wp2_with fail
  refine (same_true _ _ 8 8 cap8 (bytesOf m 8) _ (by omega) (bytesOf_length _ _) (seg_own F8.oc (bytesOf_length _ _)) s8).mono ?_
  rintro e w' ⟨rfl, j8, rfl⟩
  have F9 := F8.drewN j8
  generalize w8.drewN j8 = w9 at F9 ⊢
  clear F8 s8
  go_wp2_with fail
  refine (refPutYes_any y _).mono ?_
  rintro e w10 ⟨g10, rfl, s10, b10⟩
  rw [HY.out] at s10
  have F10 := F9.next b10
  clear F9 b10
  go_wp2_with fail
  refine (same_true _ _ 4 4 4 (bytesOf kk 4) _ (by omega) (bytesOf_length _ _) (seg_own F10.od (bytesOf_length _ _)) s10).mono ?_
  rintro e w' ⟨rfl, j10, rfl⟩
  have F11 := F10.drewN j10
  generalize w10.drewN j10 = w11 at F11 ⊢
  clear F10 s10
  go_wp2_with fail
  have hB0 : BookAt (w11.alloc (.cells #[.int .i64 0, .slice none 0 0, .slice none 0 0, .slice none 0 0, .slice none 0 0, .slice none 0 0, .slice none 0 0, .slice none 0 0] 37)) w11.heap.size 0 (.slice none 0 0) := by
    show (w11.heap.push _)[w11.heap.size]? = _
    simp
  have h0 : Held w n m kk ga gb gc gd w11.heap.size 0 (.slice none 0 0) [] (w11.alloc (.cells #[.int .i64 0, .slice none 0 0, .slice none 0 0, .slice none 0 0, .slice none 0 0, .slice none 0 0, .slice none 0 0, .slice none 0 0] 37)) := ⟨F11.next ((Below.refl _ _).alloc (Nat.le_refl _) _), hB0, World.ownsRow_nil _ _ _ _, F11.below.size⟩
  generalize w11.alloc (.cells #[.int .i64 0, .slice none 0 0, .slice none 0 0, .slice none 0 0, .slice none 0 0, .slice none 0 0, .slice none 0 0, .slice none 0 0] 37) = v0 at h0 ⊢
  generalize w11.heap.size = B at h0 ⊢
  clear hB0 F11
  refine (bytes_any B _ _ _ w.heap.size (some ⟨ga, 0, none⟩) 4 4 _ h0.book h0.row h0.four.below.size (by omega) (by omega) (by simp)).mono ?_
  rintro e v1 ⟨rfl, vb1, hb1, hr1, hk1⟩
  have h1 := held_step h0 hb1 (by rw [List.length_append]; exact hr1) hk1
  clear hb1 hr1 hk1 h0
  go_wp2_with fail
  refine (bytes_any B _ _ _ w.heap.size (some ⟨gb, 0, none⟩) 4 4 _ h1.book h1.row h1.four.below.size (by omega) (by omega) (by simp)).mono ?_
  rintro e v2 ⟨rfl, vb2, hb2, hr2, hk2⟩
  have h2 := held_step h1 hb2 (by rw [List.length_append]; exact hr2) hk2
  clear hb2 hr2 hk2 h1
  go_wp2_with fail
  refine (bytes_any B _ _ _ w.heap.size (some ⟨gc, 0, none⟩) 8 8 _ h2.book h2.row h2.four.below.size (by omega) (by omega) (by simp)).mono ?_
  rintro e v3 ⟨rfl, vb3, hb3, hr3, hk3⟩
  have h3 := held_step h2 hb3 (by rw [List.length_append]; exact hr3) hk3
  clear hb3 hr3 hk3 h2
  go_wp2_with fail
  refine (bytes_any B _ _ _ w.heap.size (some ⟨gd, 0, none⟩) 4 4 _ h3.book h3.row h3.four.below.size (by omega) (by omega) (by simp)).mono ?_
  rintro e v4 ⟨rfl, vb4, hb4, hr4, hk4⟩
  have h4 := held_step h3 hb4 (by rw [List.length_append]; exact hr4) hk4
  clear hb4 hr4 hk4 h3
  go_wp2_with fail
  have hap : Lists w.heap.size v4 (fourEs n m kk ga gb gc gd) 0 := four_lists h4.four
  refine (apart_any B _ vb4 (fourEs n m kk ga gb gc gd) w.heap.size v4 h4.book h4.row hap (four_apt l1 l2 l3) (four_small _ _ _ _ _ _ _) h4.four.below.size).mono ?_
  rintro e v5 ⟨rfl, hk5⟩
  have hfin : Below w.heap.size w v5 := h4.four.below.trans (hk5.below (fun b hD => by
    rcases hD with ⟨j, hj, hD⟩ | hD
    · exact (own_lt (hap j hj) hD).1
    · exact (own_lt h4.row hD).1) h4.four.below.size)
  clear hk5 h4 hap
  go_wp2
  go_ret
  exact ⟨rfl, hfin⟩
end Go.Proofs.YtkknlfmkhckgcaaDoor
