/- A Book that holds more and more lists of bytes, each in memory of its own: what stays from call to call; nothing is claimed of the program here. -/
import Derived.Test.YtecbhhfncklefaaDoorBookApart
import Derived.WalkSmall
namespace Go.Proofs.YtecbhhfncklefaaDoor
set_option linter.unusedVariables false
open Go.RowKit

/-- These lists lie in memory that is new since w. -/
structure Kp (w : World) (es : List Ent) (W : World) : Prop where
  below : Below w.heap.size w W
  lists : Lists w.heap.size W es 0

theorem lists_below {base : Nat} {es : List Ent} {W W' : World} (h : Lists base W es 0) (hb : Below W.heap.size W W') : Lists base W' es 0 := fun j hj => own_below (h j hj) hb

theorem Kp.next {w : World} {es : List Ent} {W W' : World} (h : Kp w es W) (hb : Below W.heap.size W W') : Kp w es W' := ⟨h.below.trans (hb.mono h.below.size), lists_below h.lists hb⟩
theorem Kp.drewN {w : World} {es : List Ent} {W : World} (h : Kp w es W) (j : Nat) : Kp w es (W.drewN j) := h.next (below_drewN (Below.refl _ _) j)

/-- And a Book that holds some of them. -/
structure Hd (w : World) (es : List Ent) (B : Nat) (i : Int) (vb : Value) (hs : List (Value × Value × Int)) (W : World) : Prop where
  kp : Kp w es W
  book : BookAt W B i vb noRest
  row : W.ownsRow w.heap.size 91 3 vb hs.length (flat3 hs)
  new : w.heap.size ≤ B

theorem Hd.start {w : World} {es : List Ent} {W : World} (h : Kp w es W) : Hd w es W.heap.size 0 (.slice none 0 0) [] (W.alloc (.cells #[.int .i64 0, .slice none 0 0, .slice none 0 0, .slice none 0 0, .slice none 0 0, .slice none 0 0, .slice none 0 0, .slice none 0 0] 57)) := by
  refine ⟨h.next ((Below.refl _ _).alloc (Nat.le_refl _) _), ?_, World.ownsRow_nil _ _ _ _, h.below.size⟩
  show (W.heap.push _)[W.heap.size]? = _
  simp [noRest]

theorem Hd.step {w : World} {es : List Ent} {B : Nat} {i i' : Int} {vb vb' : Value} {hs hs' : List (Value × Value × Int)} {W W' : World} (h : Hd w es B i vb hs W)
    (hb : BookAt W' B i' vb' noRest) (hr : W'.ownsRow w.heap.size 91 3 vb' hs'.length (flat3 hs')) (hk : Kept (fun b => b = B ∨ vb.ownBlock = some b) W W') : Hd w es B i' vb' hs' W' := by
  have hbel : Below w.heap.size W W' := hk.below (fun b hD => by
    rcases hD with rfl | hD
    · exact h.new
    · exact (own_lt h.row hD).1) h.kp.below.size
  refine ⟨⟨h.kp.below.trans hbel, fun j hj => own_kept (h.kp.lists j hj) hk (fun g hg hD => ?_)⟩, hb, hr, h.new⟩
  rcases hD with rfl | hD
  · exact own_not (h.kp.lists j hj) h.book (by decide) hg
  · exact own_sep (h.kp.lists j hj) h.row (by decide) hg hD

theorem Hd.bytes {w : World} {es : List Ent} {B : Nat} {i : Int} {vb : Value} {hs : List (Value × Value × Int)} {W : World} (h : Hd w es B i vb hs W) (a : Option Addr) (len cap : Nat) (h0 : 0 ≤ i) (h1 : i ≤ 1000000) (hl : hs.length ≤ 1000000) :
    Calls Tryd.prog 17 #[.pointer (some ⟨B, 0, none⟩), .slice a len cap] W fun e W' => e = .returned (.tuple #[]) ∧ ∃ vb', Hd w es B (i + 1) vb' (hs ++ [(.slice a len cap, .slice none 0 0, i + 1)]) W' := by
  refine (bytes_any B i vb hs w.heap.size a len cap W h.book h.row h.kp.below.size h0 h1 hl).mono ?_
  rintro e W' ⟨rfl, vb', hb, hr, hk⟩
  exact ⟨rfl, vb', h.step hb (by rw [List.length_append]; exact hr) hk⟩

theorem Hd.apart {w : World} {es : List Ent} {B : Nat} {i : Int} {vb : Value} {hs : List (Value × Value × Int)} {W : World} (h : Hd w es B i vb hs W) (he : hs = es.map held0) (hA : Apt es) (hS : Small es) :
    Calls Tryd.prog 19 #[.pointer (some ⟨B, 0, none⟩)] W fun e W' => e = .returned (.bool true) ∧ Below w.heap.size w W' := by
  subst he
  refine (apart_any B i vb es w.heap.size W h.book (by have := h.row; rwa [List.length_map] at this) h.kp.lists hA hS h.kp.below.size).mono ?_
  rintro e W' ⟨rfl, hk⟩
  exact ⟨rfl, h.kp.below.trans (hk.below (fun b hD => by
    rcases hD with ⟨j, hj, hD⟩ | hD
    · exact (own_lt (h.kp.lists j hj) hD).1
    · exact (own_lt h.row hD).1) h.kp.below.size)⟩

theorem lists2 {base : Nat} {W : World} {e1 e2 : Ent} (o1 : W.ownsRow base 5 1 e1.v e1.len (e1.xs.map (Value.int .u8))) (o2 : W.ownsRow base 5 1 e2.v e2.len (e2.xs.map (Value.int .u8))) : Lists base W [e1, e2] 0 := by
  intro j hj
  rw [if_neg (by omega)]
  match j, hj with
  | 0, _ => exact o1
  | 1, _ => exact o2

theorem apt2 {e1 e2 : Ent} (h12 : ∀ g, e1.v.ownBlock = some g → e2.v.ownBlock ≠ some g) : Apt [e1, e2] := by
  intro i j hi hj hij g hg hg2
  match i, j, hi, hj with
  | 0, 0, _, _ => exact absurd rfl hij
  | 0, 1, _, _ => exact h12 g hg hg2
  | 1, 0, _, _ => exact h12 g hg2 hg
  | 1, 1, _, _ => exact absurd rfl hij

theorem small2 {e1 e2 : Ent} (h1 : e1.len ≤ 1073741824) (h2 : e2.len ≤ 1073741824) (n1 : e1.num = 1) (n2 : e2.num = 2) : Small [e1, e2] := by
  refine ⟨by simp, fun j hj => ?_⟩
  match j, hj with
  | 0, _ => exact ⟨h1, by show 0 ≤ e1.num; omega, by show e1.num ≤ 1000000; omega⟩
  | 1, _ => exact ⟨h2, by show 0 ≤ e2.num; omega, by show e2.num ≤ 1000000; omega⟩

theorem lists3 {base : Nat} {W : World} {e1 e2 e3 : Ent} (o1 : W.ownsRow base 5 1 e1.v e1.len (e1.xs.map (Value.int .u8))) (o2 : W.ownsRow base 5 1 e2.v e2.len (e2.xs.map (Value.int .u8))) (o3 : W.ownsRow base 5 1 e3.v e3.len (e3.xs.map (Value.int .u8))) : Lists base W [e1, e2, e3] 0 := by
  intro j hj
  rw [if_neg (by omega)]
  match j, hj with
  | 0, _ => exact o1
  | 1, _ => exact o2
  | 2, _ => exact o3

theorem apt3 {e1 e2 e3 : Ent} (h12 : ∀ g, e1.v.ownBlock = some g → e2.v.ownBlock ≠ some g) (h13 : ∀ g, e1.v.ownBlock = some g → e3.v.ownBlock ≠ some g) (h23 : ∀ g, e2.v.ownBlock = some g → e3.v.ownBlock ≠ some g) : Apt [e1, e2, e3] := by
  intro i j hi hj hij g hg hg2
  match i, j, hi, hj with
  | 0, 0, _, _ => exact absurd rfl hij
  | 0, 1, _, _ => exact h12 g hg hg2
  | 0, 2, _, _ => exact h13 g hg hg2
  | 1, 0, _, _ => exact h12 g hg2 hg
  | 1, 1, _, _ => exact absurd rfl hij
  | 1, 2, _, _ => exact h23 g hg hg2
  | 2, 0, _, _ => exact h13 g hg2 hg
  | 2, 1, _, _ => exact h23 g hg2 hg
  | 2, 2, _, _ => exact absurd rfl hij

theorem small3 {e1 e2 e3 : Ent} (h1 : e1.len ≤ 1073741824) (h2 : e2.len ≤ 1073741824) (h3 : e3.len ≤ 1073741824) (n1 : e1.num = 1) (n2 : e2.num = 2) (n3 : e3.num = 3) : Small [e1, e2, e3] := by
  refine ⟨by simp, fun j hj => ?_⟩
  match j, hj with
  | 0, _ => exact ⟨h1, by show 0 ≤ e1.num; omega, by show e1.num ≤ 1000000; omega⟩
  | 1, _ => exact ⟨h2, by show 0 ≤ e2.num; omega, by show e2.num ≤ 1000000; omega⟩
  | 2, _ => exact ⟨h3, by show 0 ≤ e3.num; omega, by show e3.num ≤ 1000000; omega⟩

/-- A row that is cut is owned as far. -/
theorem own_cut {w : World} {base e g n cap m : Nat} {xs : List Value} (h : w.ownsRow base e 1 (.slice (some ⟨g, 0, none⟩) n cap) n xs) (hm : m ≤ n) : w.ownsRow base e 1 (.slice (some ⟨g, 0, none⟩) m cap) m (xs.take m) := by
  rcases h.2 with ⟨h1, _⟩ | ⟨g', cap', cur, hv, hg, hh, h1, h2, hsz, hx⟩
  · cases h1
  · cases hv
    refine ⟨by have := h.1; simp; omega, .inr ⟨g, cap, cur, rfl, hg, hh, by omega, h2, hsz, ?_⟩⟩
    rw [← hx, List.take_take]
    congr 1
    omega
end Go.Proofs.YtecbhhfncklefaaDoor
