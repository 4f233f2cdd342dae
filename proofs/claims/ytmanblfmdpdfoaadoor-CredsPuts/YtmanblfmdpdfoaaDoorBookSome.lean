/- Lists of a Book, however many; and 'Cred' of a Book. -/
import Derived.Test.YtmanblfmdpdfoaaDoorNumKeep
import Derived.Test.YtmanblfmdpdfoaaDoorCredCells
namespace Go.Proofs.YtmanblfmdpdfoaaDoor
set_option linter.unusedVariables false
open Go.RowKit

theorem listsOf {base : Nat} {W : World} {es : List Ent} (h : ∀ e ∈ es, W.ownsRow base 5 1 e.v e.len (e.xs.map (Value.int .u8))) : Lists base W es 0 := by
  intro j hj
  rw [if_neg (by omega)]
  exact h _ (List.getElem_mem hj)
theorem listsOf4 {base : Nat} {W : World} {es : List Ent} (h : ∀ e ∈ es, W.ownsRow base 22 1 e.v e.len (e.xs.map (Value.int .u32))) : Lists4 base W es 0 := by
  intro j hj
  rw [if_neg (by omega)]
  exact h _ (List.getElem_mem hj)
theorem aptOf {es : List Ent} (h : es.Pairwise fun p q => ∀ g, p.v.ownBlock = some g → q.v.ownBlock ≠ some g) : Apt es := by
  intro i j hi hj hij g hg hg2
  rcases Nat.lt_or_gt_of_ne hij with h1 | h1
  · exact List.pairwise_iff_getElem.1 h i j hi hj h1 g hg hg2
  · exact List.pairwise_iff_getElem.1 h j i hj hi h1 g hg2 hg
theorem smallOf {es : List Ent} (hl : es.length ≤ 300000) (h : ∀ e ∈ es, e.len ≤ 1073741824 ∧ 0 ≤ e.num ∧ e.num ≤ 1000000) : Small es := ⟨hl, fun j hj => h _ (List.getElem_mem hj)⟩

theorem Hn.next {w : World} {es fs : List Ent} {B : Nat} {i : Int} {vb vn : Value} {hs ks : List (Value × Value × Int)} {W W' : World} (h : Hn w es fs B i vb vn hs ks W) (hb : Below W.heap.size W W') : Hn w es fs B i vb vn hs ks W' :=
  ⟨h.kn.next hb, (hb.block B h.book.lt).trans h.book, own_below h.row hb, own_below h.rowN hb, h.new⟩

/-- 'Cred': its Groups. -/
theorem Hn.cred {w : World} {es fs : List Ent} {B : Nat} {i : Int} {vb vn : Value} {hs ks : List (Value × Value × Int)} {W : World} (h : Hn w es fs B i vb vn hs ks W) (u g : Int) (a : Option Addr) (len cap : Nat) (h0 : 0 ≤ i) (h1 : i ≤ 1000000) (hl : ks.length ≤ 1000000) :
    Calls Tryd.prog 11 #[.pointer (some ⟨B, 0, none⟩), .agg #[.int .u32 u, .int .u32 g, .slice a len cap]] W fun e W' => e = .returned (.tuple #[]) ∧ ∃ vn', Hn w es fs B (i + 1) vb vn' hs (ks ++ [(.slice a len cap, .slice none 0 0, i + 1)]) W' := by
  have hn := h.next ((Below.refl _ _).alloc (Nat.le_refl _) (.cells #[.int .u32 u, .int .u32 g, .slice a len cap] 25))
  obtain ⟨c0, c1, c2, _, _, _⟩ := cred_at (heap_alloc_new W (.cells #[.int .u32 u, .int .u32 g, .slice a len cap] 25))
  go_enter Tryd.func11, Tryd.ntmps11
  go_wp2_with fail
  generalize W.alloc (.cells #[.int .u32 u, .int .u32 g, .slice a len cap] 25) = W0 at *
  refine (hn.numbers a len cap h0 h1 hl).mono ?_
  rintro e W1 ⟨rfl, vn', hn1⟩
  clear hn c0 c1 c2 h
  go_wp2
  go_end0
  exact ⟨rfl, vn', hn1⟩
end Go.Proofs.YtmanblfmdpdfoaaDoor
