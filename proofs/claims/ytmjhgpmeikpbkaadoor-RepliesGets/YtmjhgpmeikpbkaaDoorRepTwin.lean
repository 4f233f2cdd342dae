/- 'TwinReply', 'LeftReply': a reply's twin in memory of its own, and that it is as it was. -/
import Derived.Test.YtmjhgpmeikpbkaaDoorRepSmall
import Derived.Test.YtmjhgpmeikpbkaaDoorBookBase
import Derived.Test.YtmjhgpmeikpbkaaDoorTwin
import Derived.Test.YtmjhgpmeikpbkaaDoorLeft
import Derived.Test.YtmjhgpmeikpbkaaDoorTwinOwn
import Derived.Deep.RegionHeld3
import Derived.Deep.WholeRow
namespace Go.Proofs.YtmjhgpmeikpbkaaDoor
set_option linter.unusedVariables false
open Go.RowKit

theorem five_store {W : World} {h : Nat} {x0 x1 x2 x3 x4 : Value} {t : TypeId} (hh : W.heap[h]? = some (.cells #[x0, x1, x2, x3, x4] t)) (y0 y1 y2 y3 y4 : Value) :
    (((((W.setCell ⟨h, 0, none⟩ y0).setCell ⟨h, 1, none⟩ y1).setCell ⟨h, 2, none⟩ y2).setCell ⟨h, 3, none⟩ y3).setCell ⟨h, 4, none⟩ y4).heap[h]? = some (.cells #[y0, y1, y2, y3, y4] t) ∧
    W.grownBy (((((W.setCell ⟨h, 0, none⟩ y0).setCell ⟨h, 1, none⟩ y1).setCell ⟨h, 2, none⟩ y2).setCell ⟨h, 3, none⟩ y3).setCell ⟨h, 4, none⟩ y4) (some h) := by
  have h0 : (W.setCell ⟨h, 0, none⟩ y0).heap[h]? = some (.cells #[y0, x1, x2, x3, x4] t) := setCell_same hh y0
  have h1 : ((W.setCell ⟨h, 0, none⟩ y0).setCell ⟨h, 1, none⟩ y1).heap[h]? = some (.cells #[y0, y1, x2, x3, x4] t) := setCell_same h0 y1
  have h2 : (((W.setCell ⟨h, 0, none⟩ y0).setCell ⟨h, 1, none⟩ y1).setCell ⟨h, 2, none⟩ y2).heap[h]? = some (.cells #[y0, y1, y2, x3, x4] t) := setCell_same h1 y2
  have h3 : ((((W.setCell ⟨h, 0, none⟩ y0).setCell ⟨h, 1, none⟩ y1).setCell ⟨h, 2, none⟩ y2).setCell ⟨h, 3, none⟩ y3).heap[h]? = some (.cells #[y0, y1, y2, y3, x4] t) := setCell_same h2 y3
  have h4 : (((((W.setCell ⟨h, 0, none⟩ y0).setCell ⟨h, 1, none⟩ y1).setCell ⟨h, 2, none⟩ y2).setCell ⟨h, 3, none⟩ y3).setCell ⟨h, 4, none⟩ y4).heap[h]? = some (.cells #[y0, y1, y2, y3, y4] t) := setCell_same h3 y4
  have g : ∀ (V : World) (k : Nat) (v : Value), V.grownBy (V.setCell ⟨h, k, none⟩ v) (some h) := fun V k v => ⟨by simp [World.setCell], by simp [World.setCell], by simp [World.setCell], by simp [World.setCell], fun k hk hne => Below.heap_setCell _ _ _ _ (fun e => hne (by rw [e]))⟩
  have tr : ∀ {a b c : World}, a.grownBy b (some h) → b.grownBy c (some h) → a.grownBy c (some h) := fun p q => p.andThen q (fun j hj => .inr hj)
  exact ⟨h4, tr (tr (tr (tr (g _ 0 _) (g _ 1 _)) (g _ 2 _)) (g _ 3 _)) (g _ 4 _)⟩

set_option maxRecDepth 100000 in
set_option maxHeartbeats 2000000 in
theorem twinreply_any (x h l g : Int) (ba : Option Addr) (bl bc : Nat) (bs : List Int) (w : World) (hbl : bl ≤ 1048576) (hbz : bs.length = bl) (hbs : Seg w ba bs) :
    Calls Tryd.prog 9 #[.agg #[.int .u32 x, .int .u32 h, .int .u32 l, .int .u32 g, .slice ba bl bc]] w fun e w' => ∃ gb, w.heap.size ≤ gb ∧ e = .returned (.agg #[.int .u32 x, .int .u32 h, .int .u32 l, .int .u32 g, .slice (some ⟨gb, 0, none⟩) bl (bl + 1)]) ∧ Below w.heap.size w w' ∧
      w'.ownsRow gb 5 1 (.slice (some ⟨gb, 0, none⟩) (bl + 1) (bl + 1)) (bl + 1) ((bs ++ [77]).map (Value.int .u8)) := by
  obtain ⟨k1, k2, hB, hsz⟩ := two_boxes w (.cells #[.int .u32 x, .int .u32 h, .int .u32 l, .int .u32 g, .slice ba bl bc] 26) (.cells #[.int .u32 0, .int .u32 0, .int .u32 0, .int .u32 0, .slice none 0 0] 26)
  replace hsz : w.heap.size + 1 < ((w.alloc (.cells #[.int .u32 x, .int .u32 h, .int .u32 l, .int .u32 g, .slice ba bl bc] 26)).alloc (.cells #[.int .u32 0, .int .u32 0, .int .u32 0, .int .u32 0, .slice none 0 0] 26)).heap.size := by omega
  go_enter Tryd.func9, Tryd.ntmps9
  go_wp2_with fail
  have hb2 := hbs.below hB
  generalize (w.alloc (.cells #[.int .u32 x, .int .u32 h, .int .u32 l, .int .u32 g, .slice ba bl bc] 26)).alloc (.cells #[.int .u32 0, .int .u32 0, .int .u32 0, .int .u32 0, .slice none 0 0] 26) = W at *
  obtain ⟨b, hh⟩ : ∃ b, b = w.heap.size := ⟨_, rfl⟩
  rw [← hh] at k1 k2 hsz hB ⊢
  have HH : Hid (b = w.heap.size) := hh
  clear hh
  have hbW : Below W.heap.size W W.drew := ⟨rfl, rfl, rfl, Nat.le_refl _, fun _ _ => rfl⟩
  have k1d := (hbW.block _ (by omega)).trans k1
  have k2d := (hbW.block _ hsz).trans k2
  have S1 := five_at k1d
  have hb3 := hb2.below hbW
  go_region_held3 (fun w' => w'.cell? ⟨b, 0, none⟩ = some (.int .u32 x) ∧ w'.cell? ⟨b, 1, none⟩ = some (.int .u32 h) ∧ w'.cell? ⟨b, 2, none⟩ = some (.int .u32 l) ∧ w'.cell? ⟨b, 3, none⟩ = some (.int .u32 g) ∧ w'.cell? ⟨b, 4, none⟩ = some (.slice ba bl bc)) (first | with_reducible exact S1 | with_reducible exact S2 | with_reducible exact S3) (first
    | (go_at_call 17; refine (twin_any ba bl bc bs _ hbl hbz ?_).mono ?_; exact hb3; rintro e w2 ⟨rfl, hb5, ho2⟩; have k1b := (hb5.block b (Nat.lt_of_succ_lt hsz)).trans k1d; have k2b := (hb5.block (b + 1) hsz).trans k2d; have S2 := five_at k1b; have fz : ∀ i, w2.frozen? ⟨b + 1, i, none⟩ = false := (fun i => by simp [World.frozen?, k2b]); have z3 := five_at k2b
       obtain ⟨kR, hgR⟩ := five_store k2b (.int .u32 x) (.int .u32 h) (.int .u32 l) (.int .u32 g) (.slice (some ⟨W.heap.size, 0, none⟩) bl (bl + 1))
       have S3 := five_at ((hgR.block b (Array.getElem?_eq_some_iff.1 k1b).1 (fun e => by injection e with e; omega)).trans k1b)))
  all_goals
    have hBw : Below b w w2 := (hB.trans (hbW.mono (by omega))).trans (hb5.mono (by have := hbW.size; omega))
    have hfin := hBw.grown hgR (by have := hBw.size; rw [HH.out]; omega) (fun k e => by cases e; omega)
    have hfo := (show (((((w2.setCell ⟨b + 1, 0, none⟩ (.int .u32 x)).setCell ⟨b + 1, 1, none⟩ (.int .u32 h)).setCell ⟨b + 1, 2, none⟩ (.int .u32 l)).setCell ⟨b + 1, 3, none⟩ (.int .u32 g)).setCell ⟨b + 1, 4, none⟩ (.slice (some ⟨W.heap.size, 0, none⟩) bl (bl + 1))).ownsRow W.heap.size 5 1 (.slice (some ⟨W.heap.size, 0, none⟩) (bl + 1) (bl + 1)) (bl + 1) ((bs ++ [77]).map (Value.int .u8)) from own_kept ho2 (D := fun k => k = b + 1) ⟨hgR.os, hgR.tape, hgR.output, hgR.size, fun k hk hD => hgR.block k hk (fun e => hD (by injection e))⟩ (fun k e1 e2 => by have := (own_lt ho2 e1).1; have e3 : W.heap.size ≤ k := this; omega))
    clear S1 S2 S3 z3 fz k1b k2b k1d k2d hb5 hbW ho2 hBw hb3 hgR hb2
    generalize (((((w2.setCell ⟨b + 1, 0, none⟩ (.int .u32 x)).setCell ⟨b + 1, 1, none⟩ (.int .u32 h)).setCell ⟨b + 1, 2, none⟩ (.int .u32 l)).setCell ⟨b + 1, 3, none⟩ (.int .u32 g)).setCell ⟨b + 1, 4, none⟩ (.slice (some ⟨W.heap.size, 0, none⟩) bl (bl + 1))) = Wf at *
    obtain ⟨z0, z1, z2, z3, z4⟩ := five_at kR
    go_wp2
    refine bodyPost_ret (v := .agg #[.int .u32 x, .int .u32 h, .int .u32 l, .int .u32 g, .slice (some ⟨W.heap.size, 0, none⟩) bl (bl + 1)]) (by simp [results, Tryd.results9, go_sem, z0, z1, z2, z3, z4]) rfl ⟨W.heap.size, ?_, rfl, ?_, hfo⟩
    · rw [← HH.out]; omega
    · rw [← HH.out]; exact hfin
end Go.Proofs.YtmjhgpmeikpbkaaDoor
