/- The walk of 'CredsPuts': true for any stamp, any machine, anybody; nothing that was there turns. -/
import Derived.Test.YtmanblfmdpdfoaaDoorBeyondsSame
import Derived.Test.YtmanblfmdpdfoaaDoorCredTwin
import Derived.Test.YtmanblfmdpdfoaaDoorRefCr
import Derived.Test.YtmanblfmdpdfoaaDoorOwnGotTwinOwn4
import Derived.Test.YtmanblfmdpdfoaaDoorBookSome
import Derived.WalkSmall
namespace Go.Proofs.YtmanblfmdpdfoaaDoor
set_option linter.unusedVariables false
open Go.RowKit

/-- The two boxes, and the twin's Groups. -/
structure Cx (w : World) (H T gb : Nat) (u g : Int) (a : Option Addr) (len cap : Nat) (gs : List Int) (W : World) : Prop where
  twin : Twinned4 w gb gs W
  one : W.heap[H]? = some (.cells #[.int .u32 u, .int .u32 g, .slice a len cap] 25)
  two : W.heap[T]? = some (.cells #[.int .u32 u, .int .u32 g, .slice (some ⟨gb, 0, none⟩) len (len + 1)] 25)
theorem Cx.next {w : World} {H T gb : Nat} {u g : Int} {a : Option Addr} {len cap : Nat} {gs : List Int} {W W' : World} (h : Cx w H T gb u g a len cap gs W) (hb : Below W.heap.size W W') : Cx w H T gb u g a len cap gs W' :=
  ⟨h.twin.next hb, (hb.block _ (Array.getElem?_eq_some_iff.1 h.one).1).trans h.one, (hb.block _ (Array.getElem?_eq_some_iff.1 h.two).1).trans h.two⟩

set_option maxRecDepth 100000 in
set_option maxHeartbeats 400000 in
theorem cputs_walk (stamp : Int) (m : ByteArray) (u g : Int) (a : Option Addr) (len cap : Nat) (gs : List Int) (w : World) (hst : 0 ≤ stamp ∧ stamp ≤ 4294967295) (hm : m.size ≤ 140737488351232) (hu : 0 ≤ u ∧ u ≤ 4294967295) (hg : 0 ≤ g ∧ g ≤ 4294967295) (hlc : len ≤ cap) (hcm : cap ≤ 140737488351232)
    (hz : gs.length = len) (hgs : U32s gs) (hs : Seg4 w a gs) :
    Calls Tryd.prog 3 #[.int .u32 stamp, .string m, .agg #[.int .u32 u, .int .u32 g, .slice a len cap]] w fun e w' => e = .returned (.bool true) ∧ Below w.heap.size w w' := by
  have hB0 : Below w.heap.size w (w.alloc (.cells #[.int .u32 u, .int .u32 g, .slice a len cap] 25)) := (Below.refl _ _).alloc (Nat.le_refl _) _
  have hd0 := heap_alloc_new w (.cells #[.int .u32 u, .int .u32 g, .slice a len cap] 25)
  obtain ⟨_, _, c2, _, _, _⟩ := cred_at hd0
  have hsz0 : (w.alloc (.cells #[.int .u32 u, .int .u32 g, .slice a len cap] 25)).heap.size = w.heap.size + 1 := by simp
  have hcp := cell_pair (w.alloc (.cells #[.int .u32 u, .int .u32 g, .slice a len cap] 25)) 3 m.size len
  rw [hsz0] at hcp
  clear hsz0
  cases hbey : beyond 0 [m.size, len] with
  | true =>
    go_enter Tryd.func3, Tryd.ntmps3
    go_wp2_with fail
    generalize w.alloc (.cells #[.int .u32 u, .int .u32 g, .slice a len cap] 25) = w0 at *
    refine (beyond_any [m.size, len] _ 2 _ rfl (by omega) (by intro n hn; simp at hn; omega) hcp).mono ?_
    rintro e w' ⟨rfl, rfl⟩
    rw [hbey]
    clear hcp
    have hB1 := hB0.alloc hB0.size (.cells #[.int .i64 (m.size : Int), .int .i64 (len : Int)] 3)
    go_wp2
    go_ret
    exact ⟨rfl, hB1⟩
  | false =>
    have hl1 := beyond_le hbey (n := m.size) (by simp)
    have hl2 := beyond_le hbey (n := len) (by simp)
    obtain ⟨Z, E, hZl, hput, href⟩ : ∃ (Z : List Int) (E : Int), Z.length ≤ 1000 ∧
        (∀ W a' cap', Seg4 W a' gs → Calls Tryd.prog 7 #[.int .u32 stamp, .string m, .agg #[.int .u32 u, .int .u32 g, .slice a' len cap']] W fun e w' => ∃ v, e = .returned (.tuple #[v, .int .i64 E]) ∧ w'.ownsRow W.heap.size 5 1 v Z.length (Z.map (Value.int .u8)) ∧ Below W.heap.size W w') ∧
        (∀ W a' cap', Seg4 W a' gs → Calls Tryd.prog 8 #[.int .u32 stamp, .string m, .agg #[.int .u32 u, .int .u32 g, .slice a' len cap']] W fun e w' => ∃ v, e = .returned (.tuple #[v, .int .i64 E]) ∧ w'.ownsRow W.heap.size 5 1 v Z.length (Z.map (Value.int .u8)) ∧ Below W.heap.size W w') := by
      by_cases hno : 255 < m.size ∨ 16 < len
      · refine ⟨[], 1, by simp, fun W a' cap' _ => ?_, fun W a' cap' _ => ?_⟩
        · refine (cput_no stamp m u g a' len cap' W (by omega) (by omega) hno).mono ?_
          rintro e w' ⟨rfl, hb⟩
          exact ⟨_, rfl, own_empty _ _ _, hb⟩
        · refine (refcput_no stamp m u g a' len cap' W (by omega) (by omega) hno).mono ?_
          rintro e w' ⟨rfl, hb⟩
          exact ⟨_, rfl, own_empty _ _ _, hb⟩
      · refine ⟨credB stamp (tz m) u g gs, 0, by rw [credB_length, tz_len, hz]; have := padN_lt m.size; omega, fun W a' cap' h => cput_yes stamp m u g a' len cap' gs W (by omega) (by omega) hst hu hg hz hgs h, fun W a' cap' h => refcput_yes stamp m u g a' len cap' gs W (by omega) (by omega) hst hu hg hz hgs h⟩
    go_enter Tryd.func3, Tryd.ntmps3
    go_wp2_with fail
    generalize w.alloc (.cells #[.int .u32 u, .int .u32 g, .slice a len cap] 25) = w0 at *
    refine (beyond_any [m.size, len] _ 2 _ rfl (by omega) (by intro n hn; simp at hn; omega) hcp).mono ?_
    rintro e w' ⟨rfl, rfl⟩
    rw [hbey]
    clear hcp
    have hb1 : Below w0.heap.size w0 (w0.alloc (.cells #[.int .i64 (m.size : Int), .int .i64 (len : Int)] 3)) := (Below.refl _ _).alloc (Nat.le_refl _) _
    generalize w0.alloc (.cells #[.int .i64 (m.size : Int), .int .i64 (len : Int)] 3) = w1 at *
    have hB1 := hB0.trans (hb1.mono hB0.size)
    have hd1 := (hb1.block _ (Array.getElem?_eq_some_iff.1 hd0).1).trans hd0
    clear c2 hbey hb1 hd0 hB0
    obtain ⟨c0, c1, c2, _, _, _⟩ := cred_at hd1
    go_wp2_with fail
    refine (twincred_any u g a len cap gs w1 (by omega) hz (hs.below hB1)).mono ?_
    rintro e w2 ⟨gb, rfl, hb2, ho2⟩
    have hB2 := hB1.trans (hb2.mono hB1.size)
    have hgb := own_lt ho2 (g := gb) rfl
    have hb3 : Below w2.heap.size w2 (w2.alloc (.cells #[.int .u32 u, .int .u32 g, .slice (some ⟨gb, 0, none⟩) len (len + 1)] 25)) := (Below.refl _ _).alloc (Nat.le_refl _) _
    have X3 : Cx w w.heap.size w2.heap.size gb u g a len cap gs (w2.alloc (.cells #[.int .u32 u, .int .u32 g, .slice (some ⟨gb, 0, none⟩) len (len + 1)] 25)) :=
      ⟨⟨hB2.trans (hb3.mono hB2.size), by rw [hz]; exact own_below (own_base ho2 hB1.size) hb3⟩, (hb3.block _ (by have := (Array.getElem?_eq_some_iff.1 hd1).1; have := hb2.size; omega)).trans ((hb2.block _ (Array.getElem?_eq_some_iff.1 hd1).1).trans hd1), heap_alloc_new w2 _⟩
    clear c0 c1 c2 hd1 ho2 hb2 hB1 hB2 hb3
    go_wp2_with fail
    generalize w2.alloc (.cells #[.int .u32 u, .int .u32 g, .slice (some ⟨gb, 0, none⟩) len (len + 1)] 25) = w3 at *
    generalize w2.heap.size = T at *
    obtain ⟨H, hH⟩ : ∃ H, w.heap.size = H := ⟨_, rfl⟩
    have HH : Hid (w.heap.size = H) := hH
    replace X3 : Cx w H T gb u g a len cap gs w3 := by rw [← hH]; exact X3
    simp only [hH]
    clear hH
    refine (hput w3 _ _ X3.twin.seg).mono ?_
    rintro e w4 ⟨vx, rfl, ox, hb4⟩
    have X4 := X3.next hb4
    have h34 := hb4.size
    have hTw := (Array.getElem?_eq_some_iff.1 X3.two).1
    have hxl : ∀ k, vx.ownBlock = some k → w3.heap.size ≤ k ∧ k < w4.heap.size := fun k hk => own_lt ox hk
    replace ox := own_base ox X3.twin.below.size
    clear hb4 X3
    obtain ⟨c0, c1, c2, _, _, _⟩ := cred_at X4.two
    go_wp2_with fail
    refine (hput w4 _ _ X4.twin.seg).mono ?_
    rintro e w5 ⟨vy, rfl, oy, hb5⟩
    have X5 := X4.next hb5
    have hyl : ∀ k, vy.ownBlock = some k → w4.heap.size ≤ k := fun k hk => (own_lt oy hk).1
    replace oy := own_base oy X4.twin.below.size
    replace ox := own_below ox hb5
    clear hb5 X4 c0 c1 c2
    obtain ⟨c0, c1, c2, _, _, _⟩ := cred_at X5.one
    go_wp2_with fail
    refine (href w5 _ _ (hs.below X5.twin.below)).mono ?_
    rintro e w6 ⟨vp, rfl, op, hb6⟩
    have X6 := X5.next hb6
    replace oy := own_below oy hb6
    replace ox := own_below ox hb6
    clear hb6 X5 c0 c1 c2 hput href
    obtain ⟨q, hq⟩ : ∃ q, Z.length = q := ⟨_, rfl⟩
    rw [hq] at ox oy op hZl
    obtain ⟨ax, cx, rfl, sx, _⟩ := got_val ox hq
    obtain ⟨ay, cy, rfl, sy, _⟩ := got_val oy hq
    obtain ⟨ap, cp, rfl, sp, _⟩ := got_val op hq
    clear op
    have hE1 : ((E : Int) != E) = false := by simp
    have K6 : Kn w [⟨ax, q, cx, 2, Z⟩, ⟨ay, q, cy, 3, Z⟩] [⟨some ⟨gb, 0, none⟩, len, len + 1, 1, gs⟩] w6 := ⟨⟨X6.twin.below, listsOf (by
      intro e he
      simp only [List.mem_cons, List.not_mem_nil, or_false] at he
      rcases he with rfl | rfl
      · exact ox
      · exact oy)⟩, listsOf4 (by
      intro e he
      simp only [List.mem_cons, List.not_mem_nil, or_false] at he
      subst he
      exact X6.twin.own hz)⟩
    have hA : Apt [⟨ax, q, cx, 2, Z⟩, ⟨ay, q, cy, 3, Z⟩] := apt2 (fun k hk hk2 => by have := hxl k hk; have := hyl k hk2; omega)
    clear ox oy hxl hyl hgb h34 hTw
    go_wp2_with fail
    refine (same_true _ _ q cx cp Z w6 (by omega) hq sx sp).mono ?_
    rintro e w' ⟨rfl, j6, rfl⟩
    have hd := below_drewN (Below.refl w6.heap.size w6) j6
    have K7 := K6.next hd
    have X7 := X6.next hd
    have sy7 := sy.below hd
    have sp7 := sp.below hd
    generalize w6.drewN j6 = w7 at *
    clear K6 X6 sx sy sp hd
    go_wp2_with fail
    refine (same_true _ _ q cy cp Z w7 (by omega) hq sy7 sp7).mono ?_
    rintro e w' ⟨rfl, j7, rfl⟩
    have hd := below_drewN (Below.refl w7.heap.size w7) j7
    have K8 := K7.next hd
    have X8 := X7.next hd
    generalize w7.drewN j7 = w8 at *
    clear K7 X7 sy7 sp7 hd
    obtain ⟨c0, c1, c2, _, _, _⟩ := cred_at X8.two
    obtain ⟨d0, d1, d2, _, _, _⟩ := cred_at X8.one
    go_wp2_with fail
    refine (leftcred_true u g gb a len cap gs w8 (by omega) hz (hs.below X8.twin.below) X8.twin.twin).mono ?_
    rintro e w9 ⟨rfl, hb9⟩
    have K9 := K8.next hb9
    have X9 := X8.next hb9
    clear K8 X8 hb9 c0 c1 c2 d0 d1 d2
    have hdT := X9.two
    have H0 := Hn.start K9
    have hdT0 := ((Below.refl w9.heap.size w9).alloc (Nat.le_refl _) (.cells #[.int .i64 0, .slice none 0 0, .slice none 0 0, .slice none 0 0, .slice none 0 0, .slice none 0 0, .slice none 0 0, .slice none 0 0] 42)).block _ (Array.getElem?_eq_some_iff.1 hdT).1
    rw [hdT] at hdT0
    clear hdT
    obtain ⟨c0, c1, c2, _, _, _⟩ := cred_at hdT0
    go_wp2_with fail
    generalize w9.alloc (.cells #[.int .i64 0, .slice none 0 0, .slice none 0 0, .slice none 0 0, .slice none 0 0, .slice none 0 0, .slice none 0 0, .slice none 0 0] 42) = v0 at *
    generalize w9.heap.size = B at *
    clear K9 X9
    refine (H0.cred u g (some ⟨gb, 0, none⟩) len (len + 1) (by omega) (by omega) (by simp)).mono ?_
    rintro e v1 ⟨rfl, vn1, H1⟩
    clear H0 c0 c1 c2 hdT0
    go_wp2_with fail
    refine (H1.bytes ax q cx (by omega) (by omega) (by simp)).mono ?_
    rintro e v2 ⟨rfl, vb2, H2⟩
    clear H1
    go_wp2_with fail
    refine (H2.bytes ay q cy (by omega) (by omega) (by simp)).mono ?_
    rintro e v3 ⟨rfl, vb3, H3⟩
    clear H2
    go_wp2_with fail
    refine (H3.apart rfl rfl hA (smallOf (by simp) (by
      intro e he
      simp only [List.mem_cons, List.not_mem_nil, or_false] at he
      rcases he with rfl | rfl
      · exact ⟨by show q ≤ _; omega, by simp, by simp⟩
      · exact ⟨by show q ≤ _; omega, by simp, by simp⟩)) (aptOf (List.pairwise_singleton _ _)) (smallOf (by simp) (by
      intro e he
      simp only [List.mem_cons, List.not_mem_nil, or_false] at he
      subst he
      exact ⟨by show len ≤ _; omega, by simp, by simp⟩))).mono ?_
    rintro e v5 ⟨rfl, hfin⟩
    clear H3
    go_wp2
    go_ret
    exact ⟨rfl, hfin⟩
end Go.Proofs.YtmanblfmdpdfoaaDoor
