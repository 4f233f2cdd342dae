/- The walk of 'RepliesGets': true for any bytes; nothing that was there turns. -/
import Derived.Test.YtmjhgpmeikpbkaaDoorRefRg
import Derived.Test.YtmjhgpmeikpbkaaDoorBookRep
import Derived.Test.YtmjhgpmeikpbkaaDoorSameRp
import Derived.Test.YtmjhgpmeikpbkaaDoorAnyLaid
import Derived.WalkSmall
namespace Go.Proofs.YtmjhgpmeikpbkaaDoor
set_option linter.unusedVariables false
open Go.RowKit

theorem any_laidG {W : World} (h : laidMetH Tryd.prog [("math/bits.deBruijn32tab", Rows.laid_math_bits_deBruijn32tab), ("math/bits.deBruijn64tab", Rows.laid_math_bits_deBruijn64tab), ("internal/strconv.uint64pow10", Rows.laid_internal_strconv_uint64pow10), ("wharfinger/replies.anyNumber", Rows.laid_wharfinger_replies_anyNumber)] W) : Any W := by
  rw [MakeChecks.laidMetH_plain _ _ _ (by kernel_rfl)] at h
  exact any_met h.tail.tail.tail

/-- A reply in its box, its Body in memory of its own. -/
structure Gy (w : World) (H : Nat) (y : RP) (ba : Option Addr) (bl bc : Nat) (W : World) : Prop where
  box : W.heap[H]? = some (.cells #[.int .u32 y.x, .int .u32 y.h, .int .u32 y.l, .int .u32 y.g, .slice ba bl bc] 26)
  ob : W.ownsRow w.heap.size 5 1 (.slice ba bl bc) bl (y.b.map (Value.int .u8))
theorem Gy.next {w : World} {H : Nat} {y : RP} {ba : Option Addr} {bl bc : Nat} {W W' : World} (h : Gy w H y ba bl bc W) (hb : Below W.heap.size W W') : Gy w H y ba bl bc W' := ⟨box_next h.box hb, own_below h.ob hb⟩
theorem Gy.seg {w : World} {H : Nat} {y : RP} {ba : Option Addr} {bl bc : Nat} {W : World} (h : Gy w H y ba bl bc W) (hz : y.b.length = bl) : Seg W ba y.b := by
  obtain ⟨a', c', e, s, _⟩ := own_val h.ob hz
  injection e with e1
  rw [e1]
  exact s

/-- What is got, as one value. -/
theorem gotr_val {w W' : World} {y : RP} {e : Ending} {bl : Nat} (h : GotR w y e W') (hz : y.b.length = bl) : Below w.heap.size w W' ∧ ∃ ba bc, e = .returned (.tuple #[.agg #[.int .u32 y.x, .int .u32 y.h, .int .u32 y.l, .int .u32 y.g, .slice ba bl bc], .int .i64 y.e]) ∧ W'.ownsRow w.heap.size 5 1 (.slice ba bl bc) bl (y.b.map (Value.int .u8)) := by
  obtain ⟨hb, va, vn, vc, rfl, ho⟩ := h
  rw [hz] at ho
  obtain ⟨a', c', e, _⟩ := own_val ho hz
  injection e with e1 e2 e3
  subst e2
  exact ⟨hb, va, vc, rfl, ho⟩

theorem rp_body {zs : List Int} : (rp zs).b.length ≤ zs.length := by
  generalize hr : rp zs = r
  unfold rp at hr
  repeat' split at hr
  case isFalse.isFalse.isFalse.isFalse.isTrue =>
    unfold rpDenied at hr
    repeat' split at hr
    all_goals (subst hr; simp [rpNo])
  case isFalse.isFalse.isFalse.isFalse.isFalse.isTrue =>
    unfold rpTaken at hr
    repeat' split at hr
    all_goals (subst hr; simp [rpNo])
  all_goals (subst hr; simp [rpNo])

set_option maxRecDepth 100000 in
set_option maxHeartbeats 4000000 in
theorem rgets_walk (a : Option Addr) (len cap : Nat) (zs : List Int) (w : World) (hlc : len ≤ cap) (hm : cap ≤ 9223372036854775807) (hz : zs.length = len) (hb : Byt zs) (hs : Seg w a zs) (hn : a = none → len = 0 ∧ cap = 0) (hA : Any w) :
    Calls Tryd.prog 4 #[.slice a len cap] w fun e w' => e = .returned (.bool true) ∧ Below w.heap.size w w' := by
  by_cases hbig : 200000 < len
  · have hx : (200000 : Int) < len := by omega
    go_enter Tryd.func4, Tryd.ntmps4
    go_wp2
    go_ret
    exact ⟨rfl, Below.refl _ _⟩
  have hx : ¬ (200000 : Int) < len := by omega
  obtain ⟨y, bl, hbz, hbl, hget, href⟩ : ∃ (y : RP) (bl : Nat), y.b.length = bl ∧ bl ≤ 200000 ∧
      (∀ (W : World) (q : Nat), Any W → Seg W (some ⟨q, 0, none⟩) zs → Calls Tryd.prog 18 #[.slice (some ⟨q, 0, none⟩) len (len + 1)] W fun e W' => GotR W y e W') ∧
      (∀ (W : World), Seg W a zs → Calls Tryd.prog 19 #[.slice a len cap] W fun e W' => GotR W y e W') :=
    ⟨rp zs, _, rfl, by have := rp_body (zs := zs); omega, fun W q hA h => rget_any (some ⟨q, 0, none⟩) len (len + 1) zs W (by omega) (by omega) hz hb h (fun e => by cases e) hA, fun W h => refrget_any a len cap zs W hlc hm hz hb h hn⟩
  clear hbig
  go_enter Tryd.func4, Tryd.ntmps4
  go_wp2_with fail
  refine (twin_any a len cap zs w (by omega) hz hs).mono ?_
  rintro e w2 ⟨rfl, hb2, ho2⟩
  obtain ⟨q, hq⟩ : ∃ q, w.heap.size = q := ⟨_, rfl⟩
  have hgb := own_lt ho2 (g := w.heap.size) rfl
  have T2 : Twinned w q zs w2 := ⟨hb2, by rw [hz, ← hq]; exact ho2⟩
  have hgq : q < w2.heap.size := by omega
  have HQ : Hid (w.heap.size = q) := hq
  simp only [hq]
  clear hq ho2 hb2 hgb
  go_wp2_with fail
  refine (hget w2 q (hA.below T2.below) T2.seg).mono ?_
  rintro e w3 hgot
  obtain ⟨hb3, ba, bc, rfl, ob⟩ := gotr_val hgot hbz
  have hm3 : ∀ k, (Value.slice ba bl bc).ownBlock = some k → w2.heap.size ≤ k ∧ k < w3.heap.size := fun k hk => own_lt ob hk
  have hq3 : Below w3.heap.size w3 (w3.alloc (.cells #[.int .u32 y.x, .int .u32 y.h, .int .u32 y.l, .int .u32 y.g, .slice ba bl bc] 26)) := (Below.refl _ _).alloc (Nat.le_refl _) _
  have b4 : Gy w w3.heap.size y ba bl bc (w3.alloc (.cells #[.int .u32 y.x, .int .u32 y.h, .int .u32 y.l, .int .u32 y.g, .slice ba bl bc] 26)) := ⟨heap_alloc_last w3 _, own_below (own_base ob T2.below.size) hq3⟩
  have T4 := (T2.next hb3).next hq3
  have h34 := hq3.size
  have h23 := hb3.size
  clear ob hb3 T2 hq3 hgot
  go_wp2_with fail
  generalize w3.alloc (.cells #[.int .u32 y.x, .int .u32 y.h, .int .u32 y.l, .int .u32 y.g, .slice ba bl bc] 26) = w4 at *
  generalize w3.heap.size = H4 at *
  refine (hget w4 q (hA.below T4.below) T4.seg).mono ?_
  rintro e w5 hgot
  obtain ⟨hb5, ba2, bc2, rfl, ob⟩ := gotr_val hgot hbz
  have hm5 : ∀ k, (Value.slice ba2 bl bc2).ownBlock = some k → w4.heap.size ≤ k := fun k hk => (own_lt ob hk).1
  have hq5 : Below w5.heap.size w5 (w5.alloc (.cells #[.int .u32 y.x, .int .u32 y.h, .int .u32 y.l, .int .u32 y.g, .slice ba2 bl bc2] 26)) := (Below.refl _ _).alloc (Nat.le_refl _) _
  have c6 : Gy w w5.heap.size y ba2 bl bc2 (w5.alloc (.cells #[.int .u32 y.x, .int .u32 y.h, .int .u32 y.l, .int .u32 y.g, .slice ba2 bl bc2] 26)) := ⟨heap_alloc_last w5 _, own_below (own_base ob T4.below.size) hq5⟩
  have b6 := (b4.next hb5).next hq5
  have T6 := (T4.next hb5).next hq5
  clear ob hb5 T4 b4 hq5 hgot
  go_wp2_with fail
  generalize w5.alloc (.cells #[.int .u32 y.x, .int .u32 y.h, .int .u32 y.l, .int .u32 y.g, .slice ba2 bl bc2] 26) = w6 at *
  generalize w5.heap.size = H6 at *
  refine (href w6 (hs.below T6.below)).mono ?_
  rintro e w7 hgot
  obtain ⟨hb7, ba3, bc3, rfl, ob⟩ := gotr_val hgot hbz
  have hq7 : Below w7.heap.size w7 (w7.alloc (.cells #[.int .u32 y.x, .int .u32 y.h, .int .u32 y.l, .int .u32 y.g, .slice ba3 bl bc3] 26)) := (Below.refl _ _).alloc (Nat.le_refl _) _
  have d8 : Gy w w7.heap.size y ba3 bl bc3 (w7.alloc (.cells #[.int .u32 y.x, .int .u32 y.h, .int .u32 y.l, .int .u32 y.g, .slice ba3 bl bc3] 26)) := ⟨heap_alloc_last w7 _, own_below (own_base ob T6.below.size) hq7⟩
  have b8 := (b6.next hb7).next hq7
  have c8 := (c6.next hb7).next hq7
  have T8 := (T6.next hb7).next hq7
  clear ob hb7 T6 b6 c6 hq7 hget href hgot
  have q3 : ((y.e : Int) != y.e) = false := by simp
  obtain ⟨y0, y1, y2, y3, y4⟩ := five_at b8.box
  obtain ⟨z0, z1, z2, z3, z4⟩ := five_at d8.box
  go_wp2_with fail
  generalize w7.alloc (.cells #[.int .u32 y.x, .int .u32 y.h, .int .u32 y.l, .int .u32 y.g, .slice ba3 bl bc3] 26) = w8 at *
  generalize w7.heap.size = H8 at *
  refine (samereply_true y.x y.h y.l y.g ba ba3 bl bc bc3 y.b w8 (by omega) hbz (b8.seg hbz) (d8.seg hbz)).mono ?_
  rintro e w9 ⟨rfl, hb9⟩
  have b9 := b8.next hb9
  have c9 := c8.next hb9
  have d9 := d8.next hb9
  have T9 := T8.next hb9
  clear b8 c8 d8 T8 hb9 y0 y1 y2 y3 y4 z0 z1 z2 z3 z4
  obtain ⟨y0, y1, y2, y3, y4⟩ := five_at c9.box
  obtain ⟨z0, z1, z2, z3, z4⟩ := five_at d9.box
  go_wp2_with fail
  refine (samereply_true y.x y.h y.l y.g ba2 ba3 bl bc2 bc3 y.b w9 (by omega) hbz (c9.seg hbz) (d9.seg hbz)).mono ?_
  rintro e w10 ⟨rfl, hb10⟩
  have b10 := b9.next hb10
  have c10 := c9.next hb10
  have T10 := T9.next hb10
  clear b9 c9 d9 T9 hb10 y0 y1 y2 y3 y4 z0 z1 z2 z3 z4
  go_wp2_with fail
  refine (left q len a cap zs w10 (by omega) hz (hs.below T10.below) T10.twin).mono ?_
  rintro e w' ⟨rfl, j, rfl⟩
  have hd := below_drewN (Below.refl w10.heap.size w10) j
  have b11 := b10.next hd
  have c11 := c10.next hd
  have T11 := T10.next hd
  generalize w10.drewN j = w11 at *
  clear b10 c10 T10 hd
  have K11 : Kp w [⟨some ⟨q, 0, none⟩, len, len + 1, 1, zs⟩, ⟨ba, bl, bc, 2, y.b⟩, ⟨ba2, bl, bc2, 3, y.b⟩] w11 := ⟨T11.below, lists3 (T11.own hz) b11.ob c11.ob⟩
  have hAp : Apt [⟨some ⟨q, 0, none⟩, len, len + 1, 1, zs⟩, ⟨ba, bl, bc, 2, y.b⟩, ⟨ba2, bl, bc2, 3, y.b⟩] := apt3
    (fun k hk hk2 => by have hk' : k = q := (by simpa [Ent.v, Value.ownBlock] using hk.symm); have := hm3 k hk2; omega)
    (fun k hk hk2 => by have hk' : k = q := (by simpa [Ent.v, Value.ownBlock] using hk.symm); have := hm5 k hk2; omega)
    (fun k hk hk2 => by have := hm3 k hk; have := hm5 k hk2; omega)
  clear hm3 hm5 h34 hgq h23
  have H0 := Hd.start K11
  have hqB : Below w11.heap.size w11 (w11.alloc (.cells #[.int .i64 0, .slice none 0 0, .slice none 0 0, .slice none 0 0, .slice none 0 0, .slice none 0 0, .slice none 0 0, .slice none 0 0] 41)) := (Below.refl _ _).alloc (Nat.le_refl _) _
  have b12 := (b11.next hqB).box
  have c12 := (c11.next hqB).box
  clear b11 c11 T11 hqB K11
  go_wp2_with fail
  generalize w11.alloc (.cells #[.int .i64 0, .slice none 0 0, .slice none 0 0, .slice none 0 0, .slice none 0 0, .slice none 0 0, .slice none 0 0, .slice none 0 0] 41) = v0 at *
  generalize w11.heap.size = B at *
  refine (H0.bytesK (some ⟨q, 0, none⟩) len (len + 1) (by omega) (by omega) (by simp)).mono ?_
  rintro e v1 ⟨rfl, ⟨vb1, H1⟩, hk1⟩
  have hb1 := (hk1 _ _ _ _ b12 (by decide) (by decide)).trans b12
  have hc1 := (hk1 _ _ _ _ c12 (by decide) (by decide)).trans c12
  clear H0 hk1 b12 c12
  obtain ⟨y0, y1, y2, y3, y4⟩ := five_at hb1
  go_wp2_with fail
  refine (H1.replyK y.x y.h y.l y.g ba bl bc (by omega) (by omega) (by simp)).mono ?_
  rintro e v2 ⟨rfl, ⟨vb2, H2⟩, hk2⟩
  have hc2 := (hk2 _ _ _ _ hc1 (by decide) (by decide)).trans hc1
  clear H1 hk2 hb1 hc1 y0 y1 y2 y3 y4
  obtain ⟨y0, y1, y2, y3, y4⟩ := five_at hc2
  go_wp2_with fail
  refine (H2.replyK y.x y.h y.l y.g ba2 bl bc2 (by omega) (by omega) (by simp)).mono ?_
  rintro e v3 ⟨rfl, ⟨vb3, H3⟩, _⟩
  clear H2 hc2 y0 y1 y2 y3 y4
  go_wp2_with fail
  refine (H3.apart rfl hAp (small3 (by show len ≤ _; omega) (by show bl ≤ _; omega) (by show bl ≤ _; omega) rfl rfl rfl)).mono ?_
  rintro e v5 ⟨rfl, hfin⟩
  clear H3
  go_wp2
  go_ret
  exact ⟨rfl, hfin⟩
end Go.Proofs.YtmjhgpmeikpbkaaDoor
