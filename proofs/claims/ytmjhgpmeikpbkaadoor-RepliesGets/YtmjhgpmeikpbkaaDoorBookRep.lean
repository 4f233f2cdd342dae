/- 'Reply' of a Book: its Body; boxes of other types stay. 'LeftReply': true, if the twin is as it was. -/
import Derived.Test.YtmjhgpmeikpbkaaDoorBookMany
import Derived.Test.YtmjhgpmeikpbkaaDoorRepTwin
namespace Go.Proofs.YtmjhgpmeikpbkaaDoor
set_option linter.unusedVariables false
open Go.RowKit

theorem Hd.next {w : World} {es : List Ent} {B : Nat} {i : Int} {vb : Value} {hs : List (Value × Value × Int)} {W W' : World} (h : Hd w es B i vb hs W) (hb : Below W.heap.size W W') : Hd w es B i vb hs W' :=
  ⟨h.kp.next hb, (hb.block B h.book.lt).trans h.book, own_below h.row hb, h.new⟩

/-- Boxes of other types stay. -/
def KeepB (W W' : World) : Prop := ∀ (H : Nat) (cs : Array Value) (t : TypeId) (fz : Nat × Nat), W.heap[H]? = some (.cells cs t fz) → t ≠ 41 → t ≠ 76 → W'.heap[H]? = W.heap[H]?

theorem Hd.bytesK {w : World} {es : List Ent} {B : Nat} {i : Int} {vb : Value} {hs : List (Value × Value × Int)} {W : World} (h : Hd w es B i vb hs W) (a : Option Addr) (len cap : Nat) (h0 : 0 ≤ i) (h1 : i ≤ 1000000) (hl : hs.length ≤ 1000000) :
    Calls Tryd.prog 15 #[.pointer (some ⟨B, 0, none⟩), .slice a len cap] W fun e W' => e = .returned (.tuple #[]) ∧ (∃ vb', Hd w es B (i + 1) vb' (hs ++ [(.slice a len cap, .slice none 0 0, i + 1)]) W') ∧ KeepB W W' := by
  refine (bytes_any B i vb hs w.heap.size a len cap W h.book h.row h.kp.below.size h0 h1 hl).mono ?_
  rintro e W' ⟨rfl, vb', hb, hr, hk⟩
  refine ⟨rfl, ⟨vb', h.step hb (by rw [List.length_append]; exact hr) hk⟩, ?_⟩
  intro H cs t fz hH ht ht1
  refine hk.block H (Array.getElem?_eq_some_iff.1 hH).1 (fun hD => ?_)
  rcases hD with rfl | hD
  · have := hH.symm.trans h.book
    simp at this
    exact ht this.2.1
  · exact own_not h.row hH (fun e => ht1 e.symm) hD

set_option maxRecDepth 100000 in
set_option maxHeartbeats 1000000 in
theorem Hd.replyK {w : World} {es : List Ent} {B : Nat} {i : Int} {vb : Value} {hs : List (Value × Value × Int)} {W : World} (h : Hd w es B i vb hs W) (x hw l g : Int) (ba : Option Addr) (bl bc : Nat) (h0 : 0 ≤ i) (h1 : i ≤ 1000000) (hl : hs.length ≤ 1000000) :
    Calls Tryd.prog 14 #[.pointer (some ⟨B, 0, none⟩), .agg #[.int .u32 x, .int .u32 hw, .int .u32 l, .int .u32 g, .slice ba bl bc]] W fun e W' => e = .returned (.tuple #[]) ∧ (∃ vb', Hd w es B (i + 1) vb' (hs ++ [(.slice ba bl bc, .slice none 0 0, i + 1)]) W') ∧ KeepB W W' := by
  have hb0 : Below W.heap.size W (W.alloc (.cells #[.int .u32 x, .int .u32 hw, .int .u32 l, .int .u32 g, .slice ba bl bc] 26)) := (Below.refl _ _).alloc (Nat.le_refl _) _
  have hn := h.next hb0
  have hc0 : (W.alloc (.cells #[.int .u32 x, .int .u32 hw, .int .u32 l, .int .u32 g, .slice ba bl bc] 26)).heap[W.heap.size]? = some (.cells #[.int .u32 x, .int .u32 hw, .int .u32 l, .int .u32 g, .slice ba bl bc] 26) := heap_alloc_new W _
  obtain ⟨c0, c1, c2, c3, c4⟩ := five_at hc0
  go_enter Tryd.func14, Tryd.ntmps14
  go_wp2_with fail
  generalize W.alloc (.cells #[.int .u32 x, .int .u32 hw, .int .u32 l, .int .u32 g, .slice ba bl bc] 26) = W0 at *
  generalize hH : W.heap.size = H at *
  refine (hn.bytesK ba bl bc h0 h1 hl).mono ?_
  rintro e W1 ⟨rfl, ⟨vb', hn1⟩, hK1⟩
  have hK : KeepB W W1 := fun G cs t fz hG ht ht1 => by
    have e0 := hb0.block G (by rw [← hH]; exact (Array.getElem?_eq_some_iff.1 hG).1)
    have e1 := hK1 G cs t fz (e0.trans hG) ht ht1
    rw [e1, e0]
  clear hn h hK1 c0 c1 c2 c3 c4 hc0 hb0
  go_wp2
  go_end0
  exact ⟨rfl, ⟨vb', hn1⟩, hK⟩

set_option maxRecDepth 100000 in
set_option maxHeartbeats 1000000 in
theorem leftreply_true (x h l g : Int) (bb : Nat) (ba : Option Addr) (bl bc : Nat) (bs : List Int) (w : World) (hbl : bl ≤ 1048576) (hbz : bs.length = bl) (h3 : Seg w ba bs) (t2 : IsTwin w bb bs) :
    Calls Tryd.prog 13 #[.agg #[.int .u32 x, .int .u32 h, .int .u32 l, .int .u32 g, .slice (some ⟨bb, 0, none⟩) bl (bl + 1)], .agg #[.int .u32 x, .int .u32 h, .int .u32 l, .int .u32 g, .slice ba bl bc]] w fun e w' => e = .returned (.bool true) ∧ Below w.heap.size w w' := by
  obtain ⟨k1, k2, hB, hsz⟩ := two_boxes w (.cells #[.int .u32 x, .int .u32 h, .int .u32 l, .int .u32 g, .slice (some ⟨bb, 0, none⟩) bl (bl + 1)] 26) (.cells #[.int .u32 x, .int .u32 h, .int .u32 l, .int .u32 g, .slice ba bl bc] 26)
  obtain ⟨c0, c1, c2, c3, c4⟩ := five_at k1
  obtain ⟨d0, d1, d2, d3, d4⟩ := five_at k2
  have q0 : ∀ z : Int, (z == z) = true := fun z => by simp
  clear hsz
  go_enter Tryd.func13, Tryd.ntmps13
  go_wp2_with fail
  refine (left bb bl ba bc bs _ hbl hbz (h3.below hB) (t2.below hB)).mono ?_
  rintro e w' ⟨rfl, n, rfl⟩
  have hB2 := below_drewN hB n
  go_wp2
  go_ret
  exact ⟨rfl, hB2⟩
end Go.Proofs.YtmjhgpmeikpbkaaDoor
