/- 'two' of the law: the same bytes twice, each in memory of its own; true; nothing that was there turns. -/
import Derived.Test.YtecbhhfncklefaaDoorBookMany
import Derived.Test.YtecbhhfncklefaaDoorSame
import Derived.Test.YtecbhhfncklefaaDoorOwnGot
namespace Go.Proofs.YtecbhhfncklefaaDoor
set_option linter.unusedVariables false
open Go.RowKit

theorem hd_drewN {w : World} {es : List Ent} {B : Nat} {i : Int} {vb : Value} {hs : List (Value × Value × Int)} {W : World} (h : Hd w es B i vb hs W) (j : Nat) : Hd w es B i vb hs (W.drewN j) :=
  have hd := below_drewN (Below.refl W.heap.size W) j
  ⟨h.kp.next hd, (hd.block B (Array.getElem?_eq_some_iff.1 h.book).1).trans h.book, own_below h.row hd, h.new⟩

theorem hd_two {w : World} {e1 e2 e3 : Ent} {B : Nat} {i : Int} {vb : Value} {hs : List (Value × Value × Int)} {W : World} (h : Hd w [e1, e2, e3] B i vb hs W) : Hd w [e1, e2] B i vb hs W :=
  ⟨⟨h.kp.below, lists2 (by have := h.kp.lists 0 (by simp); simpa using this) (by have := h.kp.lists 1 (by simp); simpa using this)⟩, h.book, h.row, h.new⟩

theorem ent_seg {W : World} {base q c : Nat} {a : Option Addr} {zs : List Int} (h : W.ownsRow base 5 1 (.slice a q c) q (zs.map (Value.int .u8))) (hz : zs.length = q) : Seg W a zs := by
  obtain ⟨a', c', e, hs, _⟩ := got_val h hz
  cases e
  exact hs

set_option maxRecDepth 100000 in
set_option maxHeartbeats 1000000 in
theorem two_any {w : World} {ax ay az : Option Addr} {q cx cy cz : Nat} {zs : List Int} (W : World) (hq : zs.length = q) (hq2 : q ≤ 1000000) (K : Kp w [⟨ax, q, cx, 1, zs⟩, ⟨ay, q, cy, 2, zs⟩, ⟨az, q, cz, 3, zs⟩] W) (hA : Apt [⟨ax, q, cx, 1, zs⟩, ⟨ay, q, cy, 2, zs⟩]) :
    Calls Tryd.prog 8 #[.slice ax q cx, .slice ay q cy, .slice az q cz] W fun e W' => e = .returned (.bool true) ∧ Below w.heap.size w W' := by
  have H0 := Hd.start K
  go_enter Tryd.func8, Tryd.ntmps8
  go_wp2_with fail
  generalize W.alloc (.cells #[.int .i64 0, .slice none 0 0, .slice none 0 0, .slice none 0 0, .slice none 0 0, .slice none 0 0, .slice none 0 0, .slice none 0 0] 57) = v0 at *
  generalize W.heap.size = B at *
  clear K
  refine (H0.bytes ax q cx (by omega) (by omega) (by simp)).mono ?_
  rintro e v1 ⟨rfl, vb1, H1⟩
  clear H0
  go_wp2_with fail
  refine (H1.bytes ay q cy (by omega) (by omega) (by simp)).mono ?_
  rintro e v2 ⟨rfl, vb2, H2⟩
  clear H1
  have sx := ent_seg (a := ax) (c := cx) (by have t := H2.kp.lists 0 (by simp); simp at t; exact t) hq
  have sz := ent_seg (a := az) (c := cz) (by have t := H2.kp.lists 2 (by simp); simp at t; exact t) hq
  go_wp2_with fail
  refine (same_true _ _ q cx cz zs v2 (by omega) hq sx sz).mono ?_
  rintro e w' ⟨rfl, j, rfl⟩
  have H3 := hd_drewN H2 j
  generalize v2.drewN j = v3 at *
  clear H2 sx sz
  have sy := ent_seg (a := ay) (c := cy) (by have t := H3.kp.lists 1 (by simp); simp at t; exact t) hq
  have sz := ent_seg (a := az) (c := cz) (by have t := H3.kp.lists 2 (by simp); simp at t; exact t) hq
  go_wp2_with fail
  refine (same_true _ _ q cy cz zs v3 (by omega) hq sy sz).mono ?_
  rintro e w' ⟨rfl, j2, rfl⟩
  have H4 := hd_two (hd_drewN H3 j2)
  generalize v3.drewN j2 = v4 at *
  clear H3 sy sz
  go_wp2_with fail
  refine (H4.apart rfl hA (small2 (by show q ≤ _; omega) (by show q ≤ _; omega) rfl rfl)).mono ?_
  rintro e v5 ⟨rfl, hfin⟩
  clear H4
  go_wp2
  go_ret
  exact ⟨rfl, hfin⟩
end Go.Proofs.YtecbhhfncklefaaDoor
