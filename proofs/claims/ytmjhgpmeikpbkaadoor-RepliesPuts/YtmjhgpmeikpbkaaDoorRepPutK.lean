/- Words for the walk of 'Put': bytes that are told one number behind the other. -/
import Derived.Test.YtmjhgpmeikpbkaaDoorRepTell
import Derived.Test.YtmjhgpmeikpbkaaDoorBookBase
import Derived.Test.YtmjhgpmeikpbkaaDoorAppendEach
namespace Go.Proofs.YtmjhgpmeikpbkaaDoor
set_option linter.unusedVariables false
open Go.RowKit

/-- What is told so far: the two boxes, and the bytes. -/
structure Pt (w : World) (rep row : Array Value) (R : Nat) (v : Value) (n : Nat) (xs : List Int) (W : World) : Prop where
  below : Below w.heap.size w W
  rep : W.heap[w.heap.size]? = some (.cells rep 26 (0, 0))
  row : W.heap[R]? = some (.cells row 57 (0, 0))
  lt : w.heap.size < R
  len : xs.length = n
  own : W.ownsRow w.heap.size 5 1 v n (xs.map (Value.int .u8))
  far : v.ownBlock ≠ some R ∧ v.ownBlock ≠ some w.heap.size

theorem Pt.next {w : World} {rep row : Array Value} {R : Nat} {v : Value} {n : Nat} {xs : List Int} {W W' : World} (h : Pt w rep row R v n xs W) (hb : Below W.heap.size W W') : Pt w rep row R v n xs W' :=
  ⟨h.below.trans (hb.mono h.below.size), box_next h.rep hb, box_next h.row hb, h.lt, h.len, own_below h.own hb, h.far⟩

theorem Pt.told {w : World} {rep row : Array Value} {R : Nat} {v v' : Value} {n n' : Nat} {xs ys : List Int} {W W' : World} (h : Pt w rep row R v n xs W) (ho : W'.ownsRow w.heap.size 5 1 v' ys.length (ys.map (Value.int .u8))) (hn : ys.length = n') (hg : W.grownBy W' v.ownBlock) (hm : Moved W v v') : Pt w rep row R v' n' ys W' := by
  have h1 := (Array.getElem?_eq_some_iff.1 h.rep).1
  have h2 := (Array.getElem?_eq_some_iff.1 h.row).1
  refine ⟨h.below.grown hg h.below.size (fun k e => own_low h.own e), (hg.block _ h1 (fun e => h.far.2 e.symm)).trans h.rep, (hg.block _ h2 (fun e => h.far.1 e.symm)).trans h.row, h.lt, hn, hn ▸ ho, ?_⟩
  rcases hm with e | ⟨k, e, hk⟩
  · rw [e]; exact h.far
  · rw [e]; exact ⟨fun e => by injection e with e; omega, fun e => by injection e with e; omega⟩

theorem tell_one {w : World} {rep row : Array Value} {R : Nat} {v : Value} {n : Nat} {xs : List Int} {W : World} (h : Pt w rep row R v n xs W) (p : Int) (t : TypeId) (n' : Nat) (hn : n' = n + 4) (hmax : n ≤ 900000) (hp : 0 ≤ p ∧ p ≤ 4294967295) :
    Calls Tryd.prog 27 #[v, .slice (some ⟨W.heap.size, 0, none⟩) 1 1] (W.alloc (.cells #[.int .u32 p] t)) fun e W' => ∃ v', e = .returned v' ∧ Pt w rep row R v' n' (xs ++ numsB [p]) W' := by
  have hb : Below W.heap.size W (W.alloc (.cells #[.int .u32 p] t)) := (Below.refl _ _).alloc (Nat.le_refl _) _
  have h2 := h.next hb
  have hl := h.len
  refine (tell_any w.heap.size v xs W.heap.size 1 1 [p] _ (by rw [hl]; exact h2.own) h2.below.size (by simp) (fun e => by have := (own_lt h.own e).2; omega) rfl (Nat.le_refl _) ?_ ?_ (by omega)).mono ?_
  · intro i
    match i with
    | 0 => exact hp
    | i + 1 => simp
  · intro i hi
    match i, hi with
    | 0, _ => simp
  · rintro e w' ⟨v', rfl, ho, hg, hm⟩
    exact ⟨v', rfl, h2.told ho (by rw [List.length_append, numsB_len, hl, hn]; rfl) hg hm⟩

theorem tell_two {w : World} {rep row : Array Value} {R : Nat} {v : Value} {n : Nat} {xs : List Int} {W : World} (h : Pt w rep row R v n xs W) (p q : Int) (t : TypeId) (n' : Nat) (hn : n' = n + 8) (hmax : n ≤ 900000) (hp : 0 ≤ p ∧ p ≤ 4294967295) (hq : 0 ≤ q ∧ q ≤ 4294967295) :
    Calls Tryd.prog 27 #[v, .slice (some ⟨W.heap.size, 0, none⟩) 2 2] (W.alloc (.cells #[.int .u32 p, .int .u32 q] t)) fun e W' => ∃ v', e = .returned v' ∧ Pt w rep row R v' n' (xs ++ numsB [p, q]) W' := by
  have hb : Below W.heap.size W (W.alloc (.cells #[.int .u32 p, .int .u32 q] t)) := (Below.refl _ _).alloc (Nat.le_refl _) _
  have h2 := h.next hb
  have hl := h.len
  refine (tell_any w.heap.size v xs W.heap.size 2 2 [p, q] _ (by rw [hl]; exact h2.own) h2.below.size (by simp) (fun e => by have := (own_lt h.own e).2; omega) rfl (Nat.le_refl _) ?_ ?_ (by omega)).mono ?_
  · intro i
    match i with
    | 0 => exact hp
    | 1 => exact hq
    | i + 2 => simp
  · intro i hi
    match i, hi with
    | 0, _ => simp
    | 1, _ => simp
  · rintro e w' ⟨v', rfl, ho, hg, hm⟩
    exact ⟨v', rfl, h2.told ho (by rw [List.length_append, numsB_len, hl, hn]; rfl) hg hm⟩

theorem tell_fix4 {w : World} {rep : Array Value} {a b c d : Int} {y4 y5 y6 y7 y8 y9 : Value} {R : Nat} {v : Value} {n : Nat} {xs : List Int} {W : World} (h : Pt w rep #[.int .u32 a, .int .u32 b, .int .u32 c, .int .u32 d, y4, y5, y6, y7, y8, y9] R v n xs W) (n' : Nat) (hn : n' = n + 16) (hmax : n ≤ 900000) (ha : 0 ≤ a ∧ a ≤ 4294967295) (hb : 0 ≤ b ∧ b ≤ 4294967295) (hc : 0 ≤ c ∧ c ≤ 4294967295) (hd : 0 ≤ d ∧ d ≤ 4294967295) :
    Calls Tryd.prog 27 #[v, .slice (some ⟨R, 0, none⟩) 4 4] W fun e W' => ∃ v', e = .returned v' ∧ Pt w rep #[.int .u32 a, .int .u32 b, .int .u32 c, .int .u32 d, y4, y5, y6, y7, y8, y9] R v' n' (xs ++ numsB [a, b, c, d]) W' := by
  have hl := h.len
  obtain ⟨c0, c1, c2, c3, _⟩ := ten_at h.row
  refine (tell_any w.heap.size v xs R 4 4 [a, b, c, d] _ (by rw [hl]; exact h.own) h.below.size (Array.getElem?_eq_some_iff.1 h.row).1 h.far.1 rfl (by omega) ?_ ?_ (by omega)).mono ?_
  · intro i
    match i with
    | 0 => exact ha
    | 1 => exact hb
    | 2 => exact hc
    | 3 => exact hd
    | i + 4 => simp
  · intro i hi
    match i, hi with
    | 0, _ => exact c0
    | 1, _ => exact c1
    | 2, _ => exact c2
    | 3, _ => exact c3
  · rintro e w' ⟨v', rfl, ho, hg, hm⟩
    exact ⟨v', rfl, h.told ho (by rw [List.length_append, numsB_len, hl, hn]; rfl) hg hm⟩

theorem tell_fix2 {w : World} {rep : Array Value} {a b c d : Int} {y4 y5 y6 y7 y8 y9 : Value} {R : Nat} {v : Value} {n : Nat} {xs : List Int} {W : World} (h : Pt w rep #[.int .u32 a, .int .u32 b, .int .u32 c, .int .u32 d, y4, y5, y6, y7, y8, y9] R v n xs W) (n' : Nat) (hn : n' = n + 8) (hmax : n ≤ 900000) (ha : 0 ≤ a ∧ a ≤ 4294967295) (hb : 0 ≤ b ∧ b ≤ 4294967295) :
    Calls Tryd.prog 27 #[v, .slice (some ⟨R, 0, none⟩) 2 4] W fun e W' => ∃ v', e = .returned v' ∧ Pt w rep #[.int .u32 a, .int .u32 b, .int .u32 c, .int .u32 d, y4, y5, y6, y7, y8, y9] R v' n' (xs ++ numsB [a, b]) W' := by
  have hl := h.len
  obtain ⟨c0, c1, c2, c3, _⟩ := ten_at h.row
  refine (tell_any w.heap.size v xs R 2 4 [a, b] _ (by rw [hl]; exact h.own) h.below.size (Array.getElem?_eq_some_iff.1 h.row).1 h.far.1 rfl (by omega) ?_ ?_ (by omega)).mono ?_
  · intro i
    match i with
    | 0 => exact ha
    | 1 => exact hb
    | i + 2 => simp
  · intro i hi
    match i, hi with
    | 0, _ => exact c0
    | 1, _ => exact c1
  · rintro e w' ⟨v', rfl, ho, hg, hm⟩
    exact ⟨v', rfl, h.told ho (by rw [List.length_append, numsB_len, hl, hn]; rfl) hg hm⟩

end Go.Proofs.YtmjhgpmeikpbkaaDoor
