/- A Book that holds more and more lists of bytes and of numbers, each in memory of its own: what stays from call to call. -/
import Derived.Test.YtciinabhelfnoaaGreatDoorNumApartM
import Derived.Test.YtciinabhelfnoaaGreatDoorBookManyOwnGotTwinOwnM
namespace Go.Proofs.YtciinabhelfnoaaGreatDoor
set_option linter.unusedVariables false
open Go.RowKit

theorem upd_upd (r : Nat → Value) (k : Nat) (u v : Value) : upd (upd r k u) k v = upd r k v := by
  funext j
  unfold upd
  by_cases h : j = k <;> simp [h]
theorem upd_none (k : Nat) : upd noRest k (.slice none 0 0) = noRest := by
  funext j
  unfold upd noRest
  by_cases h : j = k <;> simp [h]
theorem BookAt.set2 {W : World} {B : Nat} {n : Int} {vb : Value} {r : Nat → Value} (h : BookAt W B n vb r) (u : Value) : BookAt (W.setCell ⟨B, 2, none⟩ u) B n vb (upd r 2 u) := by
  unfold BookAt
  rw [setCell_same h]
  rfl

/-- These lists of bytes and of numbers lie in memory that is new since w. -/
structure Kn (w : World) (es fs : List Ent) (W : World) : Prop where
  kp : Kp w es W
  nums : Lists4 w.heap.size W fs 0

theorem lists4_below {base : Nat} {es : List Ent} {W W' : World} (h : Lists4 base W es 0) (hb : Below W.heap.size W W') : Lists4 base W' es 0 := fun j hj => own_below (h j hj) hb
theorem Kn.next {w : World} {es fs : List Ent} {W W' : World} (h : Kn w es fs W) (hb : Below W.heap.size W W') : Kn w es fs W' := ⟨h.kp.next hb, lists4_below h.nums hb⟩
theorem Kn.drewN {w : World} {es fs : List Ent} {W : World} (h : Kn w es fs W) (j : Nat) : Kn w es fs (W.drewN j) := h.next (below_drewN (Below.refl _ _) j)

/-- And a Book that holds some of them. -/
structure Hn (w : World) (es fs : List Ent) (B : Nat) (i : Int) (vb vn : Value) (hs ks : List (Value × Value × Int)) (W : World) : Prop where
  kn : Kn w es fs W
  book : BookAt W B i vb (upd noRest 2 vn)
  row : W.ownsRow w.heap.size 73 3 vb hs.length (flat3 hs)
  rowN : W.ownsRow w.heap.size 77 3 vn ks.length (flat3 ks)
  new : w.heap.size ≤ B

theorem Hn.start {w : World} {es fs : List Ent} {W : World} (h : Kn w es fs W) : Hn w es fs W.heap.size 0 (.slice none 0 0) (.slice none 0 0) [] [] (W.alloc (.cells #[.int .i64 0, .slice none 0 0, .slice none 0 0, .slice none 0 0, .slice none 0 0, .slice none 0 0, .slice none 0 0, .slice none 0 0] 43)) := by
  have h0 := Hd.start h.kp
  exact ⟨h.next ((Below.refl _ _).alloc (Nat.le_refl _) _), by rw [upd_none]; exact h0.book, World.ownsRow_nil _ _ _ _, World.ownsRow_nil _ _ _ _, h0.new⟩

theorem Hn.bytes {w : World} {es fs : List Ent} {B : Nat} {i : Int} {vb vn : Value} {hs ks : List (Value × Value × Int)} {W : World} (h : Hn w es fs B i vb vn hs ks W) (a : Option Addr) (len cap : Nat) (h0 : 0 ≤ i) (h1 : i ≤ 1000000) (hl : hs.length ≤ 1000000) :
    Calls Tryz.prog 9 #[.pointer (some ⟨B, 0, none⟩), .slice a len cap] W fun e W' => e = .returned (.tuple #[]) ∧ ∃ vb', Hn w es fs B (i + 1) vb' vn (hs ++ [(.slice a len cap, .slice none 0 0, i + 1)]) ks W' := by
  refine (bytes_any B i vb hs w.heap.size a len cap W h.book h.row h.kn.kp.below.size h0 h1 hl).mono ?_
  rintro e W' ⟨rfl, vb', hb, hr, hk⟩
  have hD : ∀ {e2 s2 n2 : Nat} {v2 : Value} {x2 : List Value}, W.ownsRow w.heap.size e2 s2 v2 n2 x2 → e2 ≠ 43 → e2 ≠ 73 → W'.ownsRow w.heap.size e2 s2 v2 n2 x2 := fun ho hB hV => own_kept ho hk (fun g hg hD => by
    rcases hD with rfl | hD
    · exact own_not ho h.book hB hg
    · exact own_sep ho h.row hV hg hD)
  exact ⟨rfl, vb', ⟨⟨⟨h.kn.kp.below.trans (hk.below (fun b hD => by
    rcases hD with rfl | hD
    · exact h.new
    · exact (own_lt h.row hD).1) h.kn.kp.below.size), fun j hj => hD (h.kn.kp.lists j hj) (by decide) (by decide)⟩, fun j hj => hD (h.kn.nums j hj) (by decide) (by decide)⟩, hb, by rw [List.length_append]; exact hr, hD h.rowN (by decide) (by decide), h.new⟩⟩

/-- What a call that holds one more list of numbers leaves. -/
theorem Hn.number {w : World} {es fs : List Ent} {B : Nat} {i i' : Int} {vb vn vn' : Value} {hs ks ks' : List (Value × Value × Int)} {W W' : World} (h : Hn w es fs B i vb vn hs ks W)
    (hb : BookAt W' B i' vb (upd (upd noRest 2 vn) 2 vn')) (hr : W'.ownsRow w.heap.size 77 3 vn' ks'.length (flat3 ks')) (hk : Kept (fun k => k = B ∨ vn.ownBlock = some k) W W') : Hn w es fs B i' vb vn' hs ks' W' := by
  have hD : ∀ {e2 s2 n2 : Nat} {v2 : Value} {x2 : List Value}, W.ownsRow w.heap.size e2 s2 v2 n2 x2 → e2 ≠ 43 → e2 ≠ 77 → W'.ownsRow w.heap.size e2 s2 v2 n2 x2 := fun ho hB hV => own_kept ho hk (fun g hg hD => by
    rcases hD with rfl | hD
    · exact own_not ho h.book hB hg
    · exact own_sep ho h.rowN hV hg hD)
  rw [upd_upd] at hb
  exact ⟨⟨⟨h.kn.kp.below.trans (hk.below (fun b hD => by
    rcases hD with rfl | hD
    · exact h.new
    · exact (own_lt h.rowN hD).1) h.kn.kp.below.size), fun j hj => hD (h.kn.kp.lists j hj) (by decide) (by decide)⟩, fun j hj => hD (h.kn.nums j hj) (by decide) (by decide)⟩, hb, hD h.row (by decide) (by decide), hr, h.new⟩

theorem Hn.apart {w : World} {es fs : List Ent} {B : Nat} {i : Int} {vb vn : Value} {hs ks : List (Value × Value × Int)} {W : World} (h : Hn w es fs B i vb vn hs ks W) (he : hs = es.map held0) (hf : ks = fs.map held0) (hA : Apt es) (hS : Small es) (hA4 : Apt fs) (hS4 : Small fs) :
    Calls Tryz.prog 11 #[.pointer (some ⟨B, 0, none⟩)] W fun e W' => e = .returned (.bool true) ∧ Below w.heap.size w W' := by
  subst he
  subst hf
  refine (apart4_any B i vb vn es fs w.heap.size W h.book (by have := h.row; rwa [List.length_map] at this) h.kn.kp.lists hA hS (by have := h.rowN; rwa [List.length_map] at this) h.kn.nums hA4 hS4 h.kn.kp.below.size).mono ?_
  rintro e W' ⟨rfl, hk⟩
  exact ⟨rfl, h.kn.kp.below.trans (hk.below (fun b hD => by
    rcases hD with (⟨j, hj, hD⟩ | hD) | (⟨j, hj, hD⟩ | hD)
    · exact (own_lt (h.kn.kp.lists j hj) hD).1
    · exact (own_lt h.row hD).1
    · exact (own_lt (h.kn.nums j hj) hD).1
    · exact (own_lt h.rowN hD).1) h.kn.kp.below.size)⟩
end Go.Proofs.YtciinabhelfnoaaGreatDoor
