/- The walk of 'RepliesPuts': true for any reply; nothing that was there turns. -/
import Derived.Test.YtmjhgpmeikpbkaaDoorRefRp
import Derived.Test.YtmjhgpmeikpbkaaDoorRepPut
import Derived.Test.YtmjhgpmeikpbkaaDoorBookRep
import Derived.Test.YtmjhgpmeikpbkaaDoorSameRp
import Derived.Test.YtmjhgpmeikpbkaaDoorAnyLaid
import Derived.WalkSmall
namespace Go.Proofs.YtmjhgpmeikpbkaaDoor
set_option linter.unusedVariables false
open Go.RowKit

theorem any_laid4 {W : World} (h : laidMetH Tryd.prog [("math/bits.deBruijn32tab", Rows.laid_math_bits_deBruijn32tab), ("math/bits.deBruijn64tab", Rows.laid_math_bits_deBruijn64tab), ("internal/strconv.uint64pow10", Rows.laid_internal_strconv_uint64pow10), ("wharfinger/replies.anyNumber", Rows.laid_wharfinger_replies_anyNumber)] W) : Any W := by
  rw [MakeChecks.laidMetH_plain _ _ _ (by kernel_rfl)] at h
  exact any_met h.tail.tail.tail

/-- The two boxes, and the twin's list. -/
structure Tr (w : World) (H T bb : Nat) (x h l g : Int) (ba : Option Addr) (bl bc : Nat) (bs : List Int) (W : World) : Prop where
  t1 : Twinned w bb bs W
  one : W.heap[H]? = some (.cells #[.int .u32 x, .int .u32 h, .int .u32 l, .int .u32 g, .slice ba bl bc] 26)
  two : W.heap[T]? = some (.cells #[.int .u32 x, .int .u32 h, .int .u32 l, .int .u32 g, .slice (some ⟨bb, 0, none⟩) bl (bl + 1)] 26)
theorem Tr.next {w : World} {H T bb : Nat} {x h l g : Int} {ba : Option Addr} {bl bc : Nat} {bs : List Int} {W W' : World} (k : Tr w H T bb x h l g ba bl bc bs W) (hb : Below W.heap.size W W') : Tr w H T bb x h l g ba bl bc bs W' :=
  ⟨k.t1.next hb, box_next k.one hb, box_next k.two hb⟩

set_option maxRecDepth 100000 in
set_option maxHeartbeats 4000000 in
theorem rputs_walk (x h l g : Int) (ba : Option Addr) (bl bc : Nat) (bs : List Int) (w : World) (hx : U x) (hh : U h) (hl : U l) (hg : U g) (hA : Any w) (hz : bs.length = bl) (hb : Byt bs) (hs : Seg w ba bs) (hn : ba = none → bl = 0 ∧ bc = 0) :
    Calls Tryd.prog 3 #[.agg #[.int .u32 x, .int .u32 h, .int .u32 l, .int .u32 g, .slice ba bl bc]] w fun e w' => e = .returned (.bool true) ∧ Below w.heap.size w w' := by
  have hB0 : Below w.heap.size w (w.alloc (.cells #[.int .u32 x, .int .u32 h, .int .u32 l, .int .u32 g, .slice ba bl bc] 26)) := (Below.refl _ _).alloc (Nat.le_refl _) _
  have hC0 := heap_alloc_last w (.cells #[.int .u32 x, .int .u32 h, .int .u32 l, .int .u32 g, .slice ba bl bc] 26)
  obtain ⟨c0, c1, c2, c3, c4⟩ := five_at hC0
  by_cases hbig : 200000 < bl
  · have hbi : (200000 : Int) < bl := by omega
    go_enter Tryd.func3, Tryd.ntmps3
    go_wp2
    go_ret
    exact ⟨rfl, hB0⟩
  have hbi : ¬ (200000 : Int) < bl := by omega
  obtain ⟨Z, E, hZl, hput, href⟩ : ∃ (Z : List Int) (E : Int), Z.length ≤ 2000000 ∧
      (∀ W a c, Any W → Seg W a bs → (a = none → bl = 0 ∧ c = 0) → Calls Tryd.prog 10 #[.agg #[.int .u32 x, .int .u32 h, .int .u32 l, .int .u32 g, .slice a bl c]] W fun e w' => ∃ v, e = .returned (.tuple #[v, .int .i64 E]) ∧ w'.ownsRow W.heap.size 5 1 v Z.length (Z.map (Value.int .u8)) ∧ Below W.heap.size W w') ∧
      (∀ W a c, Seg W a bs → (a = none → bl = 0 ∧ c = 0) → Calls Tryd.prog 11 #[.agg #[.int .u32 x, .int .u32 h, .int .u32 l, .int .u32 g, .slice a bl c]] W fun e w' => ∃ v, e = .returned (.tuple #[v, .int .i64 E]) ∧ w'.ownsRow W.heap.size 5 1 v Z.length (Z.map (Value.int .u8)) ∧ Below W.heap.size W w') := by
    refine ⟨rputZ x h l g bs, rputE h l g bl, ?_, fun W a c hA hs hn => rput_any x h l g a bl c bs W hx hh hl hg hA hz hb hs hn (by omega), fun W a c hs hn => refrput_any x h l g a bl c bs W hx hh hl hg hz hb hs hn (by omega)⟩
    unfold rputZ
    split
    · rename_i he
      have := (rputE_zero he).2
      rw [replyB_length]; omega
    · simp
  go_enter Tryd.func3, Tryd.ntmps3
  go_wp2_with fail
  generalize w.alloc (.cells #[.int .u32 x, .int .u32 h, .int .u32 l, .int .u32 g, .slice ba bl bc] 26) = w1 at *
  refine (twinreply_any x h l g ba bl bc bs w1 (by omega) hz (hs.below hB0)).mono ?_
  rintro e w2 ⟨bb, hbb, rfl, hb2, hob⟩
  have hB2 := hB0.trans (hb2.mono hB0.size)
  have hb3 : Below w2.heap.size w2 (w2.alloc (.cells #[.int .u32 x, .int .u32 h, .int .u32 l, .int .u32 g, .slice (some ⟨bb, 0, none⟩) bl (bl + 1)] 26)) := (Below.refl _ _).alloc (Nat.le_refl _) _
  have hbl3 : bb < w2.heap.size := (own_lt hob (g := bb) rfl).2
  have X3 : Tr w w.heap.size w2.heap.size bb x h l g ba bl bc bs (w2.alloc (.cells #[.int .u32 x, .int .u32 h, .int .u32 l, .int .u32 g, .slice (some ⟨bb, 0, none⟩) bl (bl + 1)] 26)) :=
    ⟨⟨hB2.trans (hb3.mono hB2.size), by rw [hz]; exact own_below (own_base hob (by have := hB0.size; omega)) hb3⟩, box_next (box_next hC0 hb2) hb3, heap_alloc_last w2 _⟩
  have h23 := hb3.size
  clear hob hb2 hb3 hB0 hC0 hB2 c0 c1 c2 c3 c4 hbb
  go_wp2_with fail
  generalize w2.alloc (.cells #[.int .u32 x, .int .u32 h, .int .u32 l, .int .u32 g, .slice (some ⟨bb, 0, none⟩) bl (bl + 1)] 26) = w3 at *
  generalize hT : w2.heap.size = T at *
  obtain ⟨H, hH⟩ : ∃ H, w.heap.size = H := ⟨_, rfl⟩
  have HH : Hid (w.heap.size = H) := hH
  replace X3 : Tr w H T bb x h l g ba bl bc bs w3 := by rw [← hH]; exact X3
  simp only [hH]
  clear hH hT
  refine (hput w3 _ _ (hA.below X3.t1.below) X3.t1.seg (fun e => by cases e)).mono ?_
  rintro e w4 ⟨vx, rfl, ox, hb4⟩
  have X4 := X3.next hb4
  have hxl : ∀ k, vx.ownBlock = some k → w3.heap.size ≤ k ∧ k < w4.heap.size := fun k hk => own_lt ox hk
  have h34 := hb4.size
  replace ox := own_base ox X3.t1.below.size
  clear hb4 X3
  obtain ⟨c0, c1, c2, c3, c4⟩ := five_at X4.two
  go_wp2_with fail
  refine (hput w4 _ _ (hA.below X4.t1.below) X4.t1.seg (fun e => by cases e)).mono ?_
  rintro e w5 ⟨vy, rfl, oy, hb5⟩
  have X5 := X4.next hb5
  have hyl : ∀ k, vy.ownBlock = some k → w4.heap.size ≤ k := fun k hk => (own_lt oy hk).1
  replace oy := own_base oy X4.t1.below.size
  replace ox := own_below ox hb5
  clear hb5 X4 c0 c1 c2 c3 c4
  obtain ⟨c0, c1, c2, c3, c4⟩ := five_at X5.one
  go_wp2_with fail
  refine (href w5 _ _ (hs.below X5.t1.below) hn).mono ?_
  rintro e w6 ⟨vp, rfl, op, hb6⟩
  have X6 := X5.next hb6
  replace oy := own_below oy hb6
  replace ox := own_below ox hb6
  clear hb6 X5 c0 c1 c2 c3 c4 hput href
  obtain ⟨q, hq⟩ : ∃ q, Z.length = q := ⟨_, rfl⟩
  rw [hq] at ox oy op hZl
  obtain ⟨ax, cx, rfl, sx, _⟩ := got_val ox hq
  obtain ⟨ay, cy, rfl, sy, _⟩ := got_val oy hq
  obtain ⟨ap, cp, rfl, sp, _⟩ := got_val op hq
  clear op
  have hE1 : ((E : Int) != E) = false := by simp
  have K6 : Kp w [⟨some ⟨bb, 0, none⟩, bl, bl + 1, 1, bs⟩, ⟨ax, q, cx, 2, Z⟩, ⟨ay, q, cy, 3, Z⟩] w6 := ⟨X6.t1.below, lists3 (X6.t1.own hz) ox oy⟩
  have hAp : Apt [⟨some ⟨bb, 0, none⟩, bl, bl + 1, 1, bs⟩, ⟨ax, q, cx, 2, Z⟩, ⟨ay, q, cy, 3, Z⟩] := apt3
    (fun k hk hk2 => by have hk' : k = bb := (by simpa [Ent.v, Value.ownBlock] using hk.symm); have := hxl k hk2; omega)
    (fun k hk hk2 => by have hk' : k = bb := (by simpa [Ent.v, Value.ownBlock] using hk.symm); have := hyl k hk2; omega)
    (fun k hk hk2 => by have := hxl k hk; have := hyl k hk2; omega)
  clear ox oy hxl hyl h23 h34 hbl3
  go_wp2_with fail
  refine (same_below _ _ q cx cp Z w6 (by omega) hq sx sp).mono ?_
  rintro e w7 ⟨rfl, hd⟩
  have K7 := K6.next hd
  have X7 := X6.next hd
  have sy7 := sy.below hd
  have sp7 := sp.below hd
  clear K6 X6 sx sy sp hd
  go_wp2_with fail
  refine (same_below _ _ q cy cp Z w7 (by omega) hq sy7 sp7).mono ?_
  rintro e w8 ⟨rfl, hd⟩
  have K8 := K7.next hd
  have X8 := X7.next hd
  clear K7 X7 sy7 sp7 hd
  obtain ⟨c0, c1, c2, c3, c4⟩ := five_at X8.two
  obtain ⟨d0, d1, d2, d3, d4⟩ := five_at X8.one
  go_wp2_with fail
  refine (leftreply_true x h l g bb ba bl bc bs w8 (by omega) hz (hs.below X8.t1.below) X8.t1.twin).mono ?_
  rintro e w9 ⟨rfl, hb9⟩
  have K9 := K8.next hb9
  have X9 := X8.next hb9
  clear K8 X8 hb9 c0 c1 c2 c3 c4 d0 d1 d2 d3 d4
  have hdT := X9.two
  have H0 := Hd.start K9
  have hdT0 := box_next hdT ((Below.refl w9.heap.size w9).alloc (Nat.le_refl _) (.cells #[.int .i64 0, .slice none 0 0, .slice none 0 0, .slice none 0 0, .slice none 0 0, .slice none 0 0, .slice none 0 0, .slice none 0 0] 41))
  clear hdT
  obtain ⟨c0, c1, c2, c3, c4⟩ := five_at hdT0
  go_wp2_with fail
  generalize w9.alloc (.cells #[.int .i64 0, .slice none 0 0, .slice none 0 0, .slice none 0 0, .slice none 0 0, .slice none 0 0, .slice none 0 0, .slice none 0 0] 41) = v0 at *
  generalize w9.heap.size = B at *
  clear K9 X9
  refine (H0.replyK x h l g (some ⟨bb, 0, none⟩) bl (bl + 1) (by omega) (by omega) (by simp)).mono ?_
  rintro e v1 ⟨rfl, ⟨vb1, H1⟩, _⟩
  clear H0 hdT0 c0 c1 c2 c3 c4
  go_wp2_with fail
  refine (H1.bytes ax q cx (by omega) (by omega) (by simp)).mono ?_
  rintro e v2 ⟨rfl, vb2, H2⟩
  clear H1
  go_wp2_with fail
  refine (H2.bytes ay q cy (by omega) (by omega) (by simp)).mono ?_
  rintro e v3 ⟨rfl, vb3, H3⟩
  clear H2
  go_wp2_with fail
  refine (H3.apart rfl hAp (small3 (by show bl ≤ _; omega) (by show q ≤ _; omega) (by show q ≤ _; omega) rfl rfl rfl)).mono ?_
  rintro e v4 ⟨rfl, hfin⟩
  clear H3
  go_wp2
  go_ret
  exact ⟨rfl, hfin⟩
end Go.Proofs.YtmjhgpmeikpbkaaDoor
