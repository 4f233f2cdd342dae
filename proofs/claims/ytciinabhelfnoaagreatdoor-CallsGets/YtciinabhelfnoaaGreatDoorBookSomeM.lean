/- Lists of a Book, however many; and 'Cred' of a Book. -/
import Derived.Test.YtciinabhelfnoaaGreatDoorNumKeepM
import Derived.Test.YtciinabhelfnoaaGreatDoorCredCellsCallCellsSameClM
namespace Go.Proofs.YtciinabhelfnoaaGreatDoor
set_option linter.unusedVariables false
open Go.RowKit

theorem listsOf {base : Nat} {W : World} {es : List Ent} (h : ∀ e ∈ es, W.ownsRow base 5 1 e.v e.len (e.xs.map (Value.int .u8))) : Lists base W es 0 := by
  intro j hj
  rw [if_neg (by omega)]
  exact h _ (List.getElem_mem hj)
theorem listsOf4 {base : Nat} {W : World} {es : List Ent} (h : ∀ e ∈ es, W.ownsRow base 24 1 e.v e.len (e.xs.map (Value.int .u32))) : Lists4 base W es 0 := by
  intro j hj
  rw [if_neg (by omega)]
  exact h _ (List.getElem_mem hj)
theorem aptOf {es : List Ent} (h : es.Pairwise fun p q => ∀ g, p.v.ownBlock = some g → q.v.ownBlock ≠ some g) : Apt es := by
  intro i j hi hj hij g hg hg2
  rcases Nat.lt_or_gt_of_ne hij with h1 | h1
  · exact List.pairwise_iff_getElem.1 h i j hi hj h1 g hg hg2
  · exact List.pairwise_iff_getElem.1 h j i hj hi h1 g hg2 hg
theorem smallOf {es : List Ent} (hl : es.length ≤ 300000) (h : ∀ e ∈ es, e.len ≤ 1073741824 ∧ 0 ≤ e.num ∧ e.num ≤ 1000000) : Small es := ⟨hl, fun j hj => h _ (List.getElem_mem hj)⟩

theorem Hn.next {w : World} {es fs : List Ent} {B : Nat} {i : Int} {vb vn : Value} {hs ks : List (Value × Value × Int)} {W W' : World} (h : Hn w es fs B i vb vn hs ks W) (hb : Below W.heap.size W W') : Hn w es fs B i vb vn hs ks W' :=
  ⟨h.kn.next hb, (hb.block B h.book.lt).trans h.book, own_below h.row hb, own_below h.rowN hb, h.new⟩

/-- 'Cred': its Groups. -/
theorem Hn.cred {w : World} {es fs : List Ent} {B : Nat} {i : Int} {vb vn : Value} {hs ks : List (Value × Value × Int)} {W : World} (h : Hn w es fs B i vb vn hs ks W) (u g : Int) (a : Option Addr) (len cap : Nat) (h0 : 0 ≤ i) (h1 : i ≤ 1000000) (hl : ks.length ≤ 1000000) :
    Calls Tryz.prog 29 #[.pointer (some ⟨B, 0, none⟩), .agg #[.int .u32 u, .int .u32 g, .slice a len cap]] W fun e W' => e = .returned (.tuple #[]) ∧ ∃ vn', Hn w es fs B (i + 1) vb vn' hs (ks ++ [(.slice a len cap, .slice none 0 0, i + 1)]) W' := by
  have hn := h.next ((Below.refl _ _).alloc (Nat.le_refl _) (.cells #[.int .u32 u, .int .u32 g, .slice a len cap] 27))
  obtain ⟨c0, c1, c2, _, _, _⟩ := cred_at (heap_alloc_new W (.cells #[.int .u32 u, .int .u32 g, .slice a len cap] 27))
  go_enter Tryz.func29, Tryz.ntmps29
  go_wp2_with fail
  generalize W.alloc (.cells #[.int .u32 u, .int .u32 g, .slice a len cap] 27) = W0 at *
  refine (hn.numbers a len cap h0 h1 hl).mono ?_
  rintro e W1 ⟨rfl, vn', hn1⟩
  clear hn c0 c1 c2 h
  go_wp2
  go_end0
  exact ⟨rfl, vn', hn1⟩

/-- Boxes of other types stay. -/
def KeepO (t1 : TypeId) (W W' : World) : Prop := ∀ (H : Nat) (cs : Array Value) (t : TypeId) (fz : Nat × Nat), W.heap[H]? = some (.cells cs t fz) → t ≠ 43 → t ≠ t1 → W'.heap[H]? = W.heap[H]?

theorem Hn.bytesK {w : World} {es fs : List Ent} {B : Nat} {i : Int} {vb vn : Value} {hs ks : List (Value × Value × Int)} {W : World} (h : Hn w es fs B i vb vn hs ks W) (a : Option Addr) (len cap : Nat) (h0 : 0 ≤ i) (h1 : i ≤ 1000000) (hl : hs.length ≤ 1000000) :
    Calls Tryz.prog 9 #[.pointer (some ⟨B, 0, none⟩), .slice a len cap] W fun e W' => e = .returned (.tuple #[]) ∧ (∃ vb', Hn w es fs B (i + 1) vb' vn (hs ++ [(.slice a len cap, .slice none 0 0, i + 1)]) ks W') ∧ KeepO 73 W W' := by
  refine (bytes_any B i vb hs w.heap.size a len cap W h.book h.row h.kn.kp.below.size h0 h1 hl).mono ?_
  rintro e W' ⟨rfl, vb', hb, hr, hk⟩
  have hD : ∀ {e2 s2 n2 : Nat} {v2 : Value} {x2 : List Value}, W.ownsRow w.heap.size e2 s2 v2 n2 x2 → e2 ≠ 43 → e2 ≠ 73 → W'.ownsRow w.heap.size e2 s2 v2 n2 x2 := fun ho hB hV => own_kept ho hk (fun g hg hD => by
    rcases hD with rfl | hD
    · exact own_not ho h.book hB hg
    · exact own_sep ho h.row hV hg hD)
  refine ⟨rfl, ⟨vb', ⟨⟨⟨h.kn.kp.below.trans (hk.below (fun b hD => by
    rcases hD with rfl | hD
    · exact h.new
    · exact (own_lt h.row hD).1) h.kn.kp.below.size), fun j hj => hD (h.kn.kp.lists j hj) (by decide) (by decide)⟩, fun j hj => hD (h.kn.nums j hj) (by decide) (by decide)⟩, hb, by rw [List.length_append]; exact hr, hD h.rowN (by decide) (by decide), h.new⟩⟩, ?_⟩
  intro H cs t fz hH ht ht1
  refine hk.block H (Array.getElem?_eq_some_iff.1 hH).1 (fun hD => ?_)
  rcases hD with rfl | hD
  · have := hH.symm.trans h.book
    simp at this
    exact ht this.2.1
  · exact own_not h.row hH (fun e => ht1 e.symm) hD

theorem Hn.credK {w : World} {es fs : List Ent} {B : Nat} {i : Int} {vb vn : Value} {hs ks : List (Value × Value × Int)} {W : World} (h : Hn w es fs B i vb vn hs ks W) (u g : Int) (a : Option Addr) (len cap : Nat) (h0 : 0 ≤ i) (h1 : i ≤ 1000000) (hl : ks.length ≤ 1000000) :
    Calls Tryz.prog 29 #[.pointer (some ⟨B, 0, none⟩), .agg #[.int .u32 u, .int .u32 g, .slice a len cap]] W fun e W' => e = .returned (.tuple #[]) ∧ (∃ vn', Hn w es fs B (i + 1) vb vn' hs (ks ++ [(.slice a len cap, .slice none 0 0, i + 1)]) W') ∧ KeepO 77 W W' := by
  have hb0 : Below W.heap.size W (W.alloc (.cells #[.int .u32 u, .int .u32 g, .slice a len cap] 27)) := (Below.refl _ _).alloc (Nat.le_refl _) _
  have hn := h.next hb0
  obtain ⟨c0, c1, c2, _, _, _⟩ := cred_at (heap_alloc_new W (.cells #[.int .u32 u, .int .u32 g, .slice a len cap] 27))
  go_enter Tryz.func29, Tryz.ntmps29
  go_wp2_with fail
  generalize W.alloc (.cells #[.int .u32 u, .int .u32 g, .slice a len cap] 27) = W0 at *
  have hnum : Calls Tryz.prog 61 #[.pointer (some ⟨B, 0, none⟩), .slice a len cap] W0 fun e W' => e = .returned (.tuple #[]) ∧ (∃ vn', Hn w es fs B (i + 1) vb vn' hs (ks ++ [(.slice a len cap, .slice none 0 0, i + 1)]) W') ∧ KeepO 77 W0 W' := by
    clear c0 c1 c2
    go_enter Tryz.func61, Tryz.ntmps61
    go_wp2_with fail
    refine (keep4_any B i vb vn rfl ks w.heap.size a len cap W0 hn.book hn.rowN hn.kn.kp.below.size h0 h1 hl).mono ?_
    rintro e W' ⟨rfl, vn', hb, hr, hk⟩
    have hn2 := hn.number hb (by rw [List.length_append]; exact hr) hk
    have hK : KeepO 77 W0 W' := by
      intro H cs t fz hH ht ht1
      refine hk.block H (Array.getElem?_eq_some_iff.1 hH).1 (fun hD => ?_)
      rcases hD with rfl | hD
      · have := hH.symm.trans hn.book
        simp at this
        exact ht this.2.1
      · exact own_not hn.rowN hH (fun e => ht1 e.symm) hD
    clear hb hr hk h
    go_wp2
    go_end0
    exact ⟨rfl, ⟨vn', hn2⟩, hK⟩
  refine hnum.mono ?_
  rintro e W1 ⟨rfl, ⟨vn', hn1⟩, hK⟩
  have hK2 : KeepO 77 W W1 := fun H cs t fz hH ht ht1 => by
    have h2 := hb0.block H (Array.getElem?_eq_some_iff.1 hH).1
    rw [hK H cs t fz (h2.trans hH) ht ht1, h2]
  clear hn c0 c1 c2 h hnum hK
  go_wp2
  go_end0
  exact ⟨rfl, ⟨vn', hn1⟩, hK2⟩
end Go.Proofs.YtciinabhelfnoaaGreatDoor
