/- The walk of 'CredsGets': true for any bytes; nothing that was there turns. -/
import Derived.Test.YtmanblfmdpdfoaaDoorBeyonds
import Derived.Test.YtmanblfmdpdfoaaDoorTwinLeftM
import Derived.Test.YtmanblfmdpdfoaaDoorNumsSame4SameCrM
import Derived.Test.YtmanblfmdpdfoaaDoorCredGetM
import Derived.Test.YtmanblfmdpdfoaaDoorRefCrGM
import Derived.Test.YtmanblfmdpdfoaaDoorOwnGotTwinOwnM
import Derived.Test.YtmanblfmdpdfoaaDoorBookSomeM
import Derived.WalkSmall
namespace Go.Proofs.YtmanblfmdpdfoaaDoor
set_option linter.unusedVariables false
open Go.RowKit

theorem cgL_le (zs : List Int) : (cgL zs).length ≤ 16 := by
  unfold cgL
  split
  · rename_i h
    obtain ⟨_, _, _, h4, _⟩ := crE_ok h
    rw [crL, numsZ_len, crK]
    omega
  · simp

/-- Who was got in a box, with Groups of its own. -/
structure Gb (w : World) (H : Nat) (u g : Int) (a : Option Addr) (n k : Nat) (L : List Int) (W : World) : Prop where
  box : W.heap[H]? = some (.cells #[.int .u32 u, .int .u32 g, .slice a n k] 25)
  own : W.ownsRow w.heap.size 22 1 (.slice a n k) n (L.map (Value.int .u32))
theorem Gb.next {w : World} {H : Nat} {u g : Int} {a : Option Addr} {n k : Nat} {L : List Int} {W W' : World} (h : Gb w H u g a n k L W) (hb : Below W.heap.size W W') : Gb w H u g a n k L W' :=
  ⟨(hb.block _ (Array.getElem?_eq_some_iff.1 h.box).1).trans h.box, own_below h.own hb⟩
theorem Gb.seg {w : World} {H : Nat} {u g : Int} {a : Option Addr} {n k : Nat} {L : List Int} {W : World} (h : Gb w H u g a n k L W) (hn : L.length = n) : Seg4 W a L := by
  obtain ⟨_, _, e, h, _⟩ := own_val4 h.own hn
  cases e
  exact h
theorem Gb.cells {w : World} {H : Nat} {u g : Int} {a : Option Addr} {n k : Nat} {L : List Int} {W : World} (h : Gb w H u g a n k L W) : W.cell? ⟨H, 0, none⟩ = some (.int .u32 u) ∧ W.cell? ⟨H, 1, none⟩ = some (.int .u32 g) ∧ W.cell? ⟨H, 2, none⟩ = some (.slice a n k) :=
  have := cred_at h.box
  ⟨this.1, this.2.1, this.2.2.1⟩

set_option maxRecDepth 100000 in
set_option maxHeartbeats 1000000 in
theorem cgets_walk (a : Option Addr) (len cap : Nat) (zs : List Int) (w : World) (hlc : len ≤ cap) (hm : cap ≤ 140737488351232) (hz : zs.length = len) (hb : Byt zs) (hs : Seg w a zs) :
    Calls Tryd.prog 4 #[.slice a len cap] w fun e w' => e = .returned (.bool true) ∧ Below w.heap.size w w' := by
  have hB0 : Below w.heap.size w (w.alloc (.cells #[.int .i64 (len : Int)] 3)) := (Below.refl _ _).alloc (Nat.le_refl _) _
  cases hbey : beyond 0 [len] with
  | true =>
    go_enter Tryd.func4, Tryd.ntmps4
    go_wp2_with fail
    refine (beyond_any [len] _ 1 _ rfl (by omega) (by intro n hn; simp at hn; omega) (cell_one w 3 len)).mono ?_
    rintro e w' ⟨rfl, rfl⟩
    rw [hbey]
    go_wp2
    go_ret
    exact ⟨rfl, hB0⟩
  | false =>
    have hl1 := beyond_le hbey (n := len) (by simp)
    go_enter Tryd.func4, Tryd.ntmps4
    go_wp2_with fail
    refine (beyond_any [len] _ 1 _ rfl (by omega) (by intro n hn; simp at hn; omega) (cell_one w 3 len)).mono ?_
    rintro e w' ⟨rfl, rfl⟩
    rw [hbey]
    generalize w.alloc (.cells #[.int .i64 (len : Int)] 3) = w1 at *
    clear hbey
    go_wp2_with fail
    refine (twin_any a len cap zs w1 (by omega) hz (hs.below hB0)).mono ?_
    rintro e w2 ⟨rfl, hb2, ho2⟩
    obtain ⟨g, hg⟩ : ∃ g, w1.heap.size = g := ⟨_, rfl⟩
    have hgb := own_lt ho2 (g := w1.heap.size) rfl
    rw [hg] at hgb
    have T2 : Twinned w g zs w2 := ⟨hB0.trans (hb2.mono hB0.size), by rw [hz, ← hg]; exact own_base ho2 hB0.size⟩
    simp only [hg]
    clear hg ho2 hb2 hB0
    have hL16 := cgL_le zs
    have hget := fun W (h : Seg W (some ⟨g, 0, none⟩) zs) => cget_any (some ⟨g, 0, none⟩) len (len + 1) zs W (by omega) (by omega) hz hb h
    have href := fun W (h : Seg W a zs) => refcget_any a len cap zs W hlc (by omega) (by omega) hz hb h
    unfold cgPost at hget
    unfold rcPost at href
    generalize cgS zs = S at *
    generalize strOfNums (cgM zs) = M at *
    generalize cgU zs = U at *
    generalize cgG zs = G at *
    generalize crE zs = E at *
    generalize cgL zs = L at *
    obtain ⟨n, hn⟩ : ∃ n, L.length = n := ⟨_, rfl⟩
    rw [hn] at hget href hL16
    go_wp2_with fail
    refine (hget w2 T2.seg).mono ?_
    rintro e w3 ⟨v3, rfl, ho3, hb3⟩
    obtain ⟨a3, k3, rfl, _, _, _, _⟩ := own_val4 ho3 hn
    have hl3 : ∀ k, (Value.slice a3 n k3).ownBlock = some k → w2.heap.size ≤ k ∧ k < w3.heap.size := fun k hk => own_lt ho3 hk
    have T3 := T2.next hb3
    have hq3 : Below w3.heap.size w3 (w3.alloc (.cells #[.int .u32 U, .int .u32 G, .slice a3 n k3] 25)) := (Below.refl _ _).alloc (Nat.le_refl _) _
    have b4 : Gb w w3.heap.size U G a3 n k3 L (w3.alloc (.cells #[.int .u32 U, .int .u32 G, .slice a3 n k3] 25)) := ⟨heap_alloc_new w3 _, own_below (own_base ho3 T2.below.size) hq3⟩
    have T4 := T3.next hq3
    have h34 := hq3.size
    clear ho3 hb3 T2 T3 hq3
    go_wp2_with fail
    generalize w3.alloc (.cells #[.int .u32 U, .int .u32 G, .slice a3 n k3] 25) = w4 at *
    generalize w3.heap.size = H4 at *
    refine (hget w4 T4.seg).mono ?_
    rintro e w5 ⟨v5, rfl, ho5, hb5⟩
    obtain ⟨a5, k5, rfl, _, _, _, _⟩ := own_val4 ho5 hn
    have hl5 : ∀ k, (Value.slice a5 n k5).ownBlock = some k → w4.heap.size ≤ k := fun k hk => (own_lt ho5 hk).1
    have T5 := T4.next hb5
    have hq5 : Below w5.heap.size w5 (w5.alloc (.cells #[.int .u32 U, .int .u32 G, .slice a5 n k5] 25)) := (Below.refl _ _).alloc (Nat.le_refl _) _
    have c6 : Gb w w5.heap.size U G a5 n k5 L (w5.alloc (.cells #[.int .u32 U, .int .u32 G, .slice a5 n k5] 25)) := ⟨heap_alloc_new w5 _, own_below (own_base ho5 T4.below.size) hq5⟩
    have b6 := (b4.next hb5).next hq5
    have T6 := T5.next hq5
    clear ho5 hb5 T4 T5 b4 hq5
    go_wp2_with fail
    generalize w5.alloc (.cells #[.int .u32 U, .int .u32 G, .slice a5 n k5] 25) = w6 at *
    generalize w5.heap.size = H6 at *
    refine (href w6 (hs.below T6.below)).mono ?_
    rintro e w7 ⟨v7, rfl, ho7, hb7⟩
    obtain ⟨a7, k7, rfl, _, _, _, _⟩ := own_val4 ho7 hn
    have T7 := T6.next hb7
    have hq7 : Below w7.heap.size w7 (w7.alloc (.cells #[.int .u32 U, .int .u32 G, .slice a7 n k7] 25)) := (Below.refl _ _).alloc (Nat.le_refl _) _
    have d8 : Gb w w7.heap.size U G a7 n k7 L (w7.alloc (.cells #[.int .u32 U, .int .u32 G, .slice a7 n k7] 25)) := ⟨heap_alloc_new w7 _, own_below (own_base ho7 T6.below.size) hq7⟩
    have b8 := (b6.next hb7).next hq7
    have c8 := (c6.next hb7).next hq7
    have T8 := T7.next hq7
    clear ho7 hb7 T6 T7 b6 c6 hq7 hget href
    have q1 : ((S : Int) != S) = false := by simp
    have q2 : (M.toList != M.toList) = false := by simp
    have q3 : ((E : Int) != E) = false := by simp
    obtain ⟨y0, y1, y2⟩ := b8.cells
    obtain ⟨x0, x1, x2⟩ := d8.cells
    go_wp2_with fail
    generalize w7.alloc (.cells #[.int .u32 U, .int .u32 G, .slice a7 n k7] 25) = w8 at *
    generalize w7.heap.size = H8 at *
    refine (samecred_true U G a3 a7 n k3 k7 L w8 (by omega) hn (b8.seg hn) (d8.seg hn)).mono ?_
    rintro e w9 ⟨rfl, hb9⟩
    have b9 := b8.next hb9
    have c9 := c8.next hb9
    have d9 := d8.next hb9
    have T9 := T8.next hb9
    clear b8 c8 d8 T8 hb9 y0 y1 y2 x0 x1 x2
    obtain ⟨y0, y1, y2⟩ := c9.cells
    obtain ⟨x0, x1, x2⟩ := d9.cells
    go_wp2_with fail
    refine (samecred_true U G a5 a7 n k5 k7 L w9 (by omega) hn (c9.seg hn) (d9.seg hn)).mono ?_
    rintro e w10 ⟨rfl, hb10⟩
    have b10 := b9.next hb10
    have c10 := c9.next hb10
    have T10 := T9.next hb10
    clear b9 c9 d9 T9 hb10 y0 y1 y2 x0 x1 x2
    go_wp2_with fail
    refine (left g len a cap zs w10 (by omega) hz (hs.below T10.below) T10.twin).mono ?_
    rintro e w' ⟨rfl, j, rfl⟩
    have hd := below_drewN (Below.refl w10.heap.size w10) j
    have b11 := b10.next hd
    have c11 := c10.next hd
    have T11 := T10.next hd
    generalize w10.drewN j = w11 at *
    clear b10 c10 T10 hd
    have K11 : Kn w [⟨some ⟨g, 0, none⟩, len, len + 1, 1, zs⟩] [⟨a3, n, k3, 2, L⟩, ⟨a5, n, k5, 3, L⟩] w11 := ⟨⟨T11.below, listsOf (by
      intro e he
      simp only [List.mem_cons, List.not_mem_nil, or_false] at he
      subst he
      exact T11.own hz)⟩, listsOf4 (by
      intro e he
      simp only [List.mem_cons, List.not_mem_nil, or_false] at he
      rcases he with rfl | rfl
      · exact b11.own
      · exact c11.own)⟩
    have hA : Apt [⟨a3, n, k3, 2, L⟩, ⟨a5, n, k5, 3, L⟩] := apt2 (fun k hk hk2 => by have := hl3 k hk; have := hl5 k hk2; omega)
    clear hl3 hl5 h34 hgb
    have H0 := Hn.start K11
    have hq : Below w11.heap.size w11 (w11.alloc (.cells #[.int .i64 0, .slice none 0 0, .slice none 0 0, .slice none 0 0, .slice none 0 0, .slice none 0 0, .slice none 0 0, .slice none 0 0] 42)) := (Below.refl _ _).alloc (Nat.le_refl _) _
    have b12 := b11.next hq
    have c12 := c11.next hq
    clear b11 c11 T11 hq K11
    go_wp2_with fail
    generalize w11.alloc (.cells #[.int .i64 0, .slice none 0 0, .slice none 0 0, .slice none 0 0, .slice none 0 0, .slice none 0 0, .slice none 0 0, .slice none 0 0] 42) = v0 at *
    generalize w11.heap.size = B at *
    refine (H0.bytesK (some ⟨g, 0, none⟩) len (len + 1) (by omega) (by omega) (by simp)).mono ?_
    rintro e v1 ⟨rfl, ⟨vb1, H1⟩, hk1⟩
    have hb1 := (hk1 _ _ _ _ b12.box (by decide) (by decide)).trans b12.box
    have hc1 := (hk1 _ _ _ _ c12.box (by decide) (by decide)).trans c12.box
    clear H0 hk1 b12 c12
    obtain ⟨y0, y1, y2, _, _, _⟩ := cred_at hb1
    go_wp2_with fail
    refine (H1.credK U G a3 n k3 (by omega) (by omega) (by simp)).mono ?_
    rintro e v2 ⟨rfl, ⟨vn2, H2⟩, hk2⟩
    have hc2 := (hk2 _ _ _ _ hc1 (by decide) (by decide)).trans hc1
    clear H1 hk2 hb1 hc1 y0 y1 y2
    obtain ⟨y0, y1, y2, _, _, _⟩ := cred_at hc2
    go_wp2_with fail
    refine (H2.credK U G a5 n k5 (by omega) (by omega) (by simp)).mono ?_
    rintro e v3 ⟨rfl, ⟨vn3, H3⟩, _⟩
    clear H2 hc2 y0 y1 y2
    go_wp2_with fail
    refine (H3.apart rfl rfl (aptOf (List.pairwise_singleton _ _)) (smallOf (by simp) (by
      intro e he
      simp only [List.mem_cons, List.not_mem_nil, or_false] at he
      subst he
      exact ⟨by show len ≤ _; omega, by simp, by simp⟩)) hA (smallOf (by simp) (by
      intro e he
      simp only [List.mem_cons, List.not_mem_nil, or_false] at he
      rcases he with rfl | rfl
      · exact ⟨by show n ≤ _; omega, by simp, by simp⟩
      · exact ⟨by show n ≤ _; omega, by simp, by simp⟩))).mono ?_
    rintro e v5 ⟨rfl, hfin⟩
    clear H3
    go_wp2
    go_ret
    exact ⟨rfl, hfin⟩
end Go.Proofs.YtmanblfmdpdfoaaDoor
