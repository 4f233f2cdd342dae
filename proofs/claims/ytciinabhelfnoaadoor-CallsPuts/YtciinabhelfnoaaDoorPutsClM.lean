/- The walk of 'CallsPuts': true for any call; nothing that was there turns. -/
import Derived.Test.YtciinabhelfnoaaDoorSameNumsM
import Derived.Test.YtciinabhelfnoaaDoorCallTwinM
import Derived.Test.YtciinabhelfnoaaDoorRefClM
import Derived.Test.YtciinabhelfnoaaDoorOwnGotTwinOwn4TwinOwnM
import Derived.Test.YtciinabhelfnoaaDoorBookCallM
import Derived.WalkSmall
namespace Go.Proofs.YtciinabhelfnoaaDoor
set_option linter.unusedVariables false
open Go.RowKit

/-- The two boxes, and the twin's lists. -/
structure Ty (w : World) (H T gb bb : Nat) (x p v c f : Int) (m : ByteArray) (s u g : Int) (ga : Option Addr) (gl gc : Nat) (ba : Option Addr) (bl bc : Nat) (gs bs : List Int) (W : World) : Prop where
  t4 : Twinned4 w gb gs W
  t1 : Twinned w bb bs W
  one : W.heap[H]? = some (.cells #[.int .u32 x, .int .u32 p, .int .u32 v, .int .u32 c, .int .u32 f, .string m, .int .u32 s, .int .u32 u, .int .u32 g, .slice ga gl gc, .slice ba bl bc] 28)
  two : W.heap[T]? = some (.cells #[.int .u32 x, .int .u32 p, .int .u32 v, .int .u32 c, .int .u32 f, .string m, .int .u32 s, .int .u32 u, .int .u32 g, .slice (some ⟨gb, 0, none⟩) gl (gl + 1), .slice (some ⟨bb, 0, none⟩) bl (bl + 1)] 28)
theorem Ty.next {w : World} {H T gb bb : Nat} {x p v c f : Int} {m : ByteArray} {s u g : Int} {ga : Option Addr} {gl gc : Nat} {ba : Option Addr} {bl bc : Nat} {gs bs : List Int} {W W' : World} (h : Ty w H T gb bb x p v c f m s u g ga gl gc ba bl bc gs bs W) (hb : Below W.heap.size W W') : Ty w H T gb bb x p v c f m s u g ga gl gc ba bl bc gs bs W' :=
  ⟨h.t4.next hb, h.t1.next hb, (hb.block _ (Array.getElem?_eq_some_iff.1 h.one).1).trans h.one, (hb.block _ (Array.getElem?_eq_some_iff.1 h.two).1).trans h.two⟩
theorem Ty.ok {w : World} {H T gb bb : Nat} {x p v c f : Int} {m : ByteArray} {s u g : Int} {ga : Option Addr} {gl gc : Nat} {ba : Option Addr} {bl bc : Nat} {gs bs : List Int} {W : World} (h : Ty w H T gb bb x p v c f m s u g ga gl gc ba bl bc gs bs W) (ho : CallOk x p v c f m s u g ga gl gc ba bl bc gs bs w) :
    CallOk x p v c f m s u g (some ⟨gb, 0, none⟩) gl (gl + 1) (some ⟨bb, 0, none⟩) bl (bl + 1) gs bs W :=
  ⟨ho.hx, ho.hp, ho.hv, ho.hc, ho.hf, ho.hm, ho.hs, ho.hu, ho.hg, by omega, ho.gcm, ho.gz, ho.gu, h.t4.seg, by omega, ho.bcm, ho.bz, ho.bb, h.t1.seg, fun e => by cases e⟩

/-- Both 'Put's, by one pair of an answer and an error. -/
theorem put_both (x p v c f : Int) (m : ByteArray) (s u g : Int) (ga : Option Addr) (gl gc : Nat) (ba : Option Addr) (bl bc : Nat) (gs bs : List Int) : ∃ (Z : List Int) (E : Int), Z.length ≤ 65536 ∧
    (∀ W ga gc ba bc, CallOk x p v c f m s u g ga gl gc ba bl bc gs bs W → Calls Tryd.prog 6 #[.agg #[.int .u32 x, .int .u32 p, .int .u32 v, .int .u32 c, .int .u32 f, .string m, .int .u32 s, .int .u32 u, .int .u32 g, .slice ga gl gc, .slice ba bl bc]] W fun e w' => ∃ v, e = .returned (.tuple #[v, .int .i64 E]) ∧ w'.ownsRow W.heap.size 5 1 v Z.length (Z.map (Value.int .u8)) ∧ Below W.heap.size W w') ∧
    (∀ W ga gc ba bc, CallOk x p v c f m s u g ga gl gc ba bl bc gs bs W → Calls Tryd.prog 7 #[.agg #[.int .u32 x, .int .u32 p, .int .u32 v, .int .u32 c, .int .u32 f, .string m, .int .u32 s, .int .u32 u, .int .u32 g, .slice ga gl gc, .slice ba bl bc]] W fun e w' => ∃ v, e = .returned (.tuple #[v, .int .i64 E]) ∧ w'.ownsRow W.heap.size 5 1 v Z.length (Z.map (Value.int .u8)) ∧ Below W.heap.size W w') := by
  by_cases hm : MayWho f m s u g gl
  · by_cases hl : 65536 < (callZ x p v c f s m u g gs bs).length
    · refine ⟨[], 3, by simp, fun W ga gc ba bc ho => ?_, fun W ga gc ba bc ho => ?_⟩
      · refine (clput_any x p v c f m s u g ga gl gc ba bl bc gs bs W ho).mono ?_
        rintro e w' ⟨hB, ⟨k, _⟩ | ⟨_, _, rfl⟩ | ⟨_, k, _⟩⟩
        · exact absurd hm k
        · exact ⟨_, rfl, own_empty _ _ _, hB⟩
        · omega
      · refine (refclput_any x p v c f m s u g ga gl gc ba bl bc gs bs W ho).mono ?_
        rintro e w' ⟨hB, ⟨k, _⟩ | ⟨_, _, rfl⟩ | ⟨_, k, _⟩⟩
        · exact absurd hm k
        · exact ⟨_, rfl, own_empty _ _ _, hB⟩
        · omega
    · refine ⟨callZ x p v c f s m u g gs bs, 0, by omega, fun W ga gc ba bc ho => ?_, fun W ga gc ba bc ho => ?_⟩
      · refine (clput_any x p v c f m s u g ga gl gc ba bl bc gs bs W ho).mono ?_
        rintro e w' ⟨hB, ⟨k, _⟩ | ⟨_, k, _⟩ | ⟨_, _, vb, rfl, ob⟩⟩
        · exact absurd hm k
        · exact absurd k hl
        · exact ⟨_, rfl, ob, hB⟩
      · refine (refclput_any x p v c f m s u g ga gl gc ba bl bc gs bs W ho).mono ?_
        rintro e w' ⟨hB, ⟨k, _⟩ | ⟨_, k, _⟩ | ⟨_, _, vb, rfl, ob⟩⟩
        · exact absurd hm k
        · exact absurd k hl
        · exact ⟨_, rfl, ob, hB⟩
  · refine ⟨[], 1, by simp, fun W ga gc ba bc ho => ?_, fun W ga gc ba bc ho => ?_⟩
    · refine (clput_any x p v c f m s u g ga gl gc ba bl bc gs bs W ho).mono ?_
      rintro e w' ⟨hB, ⟨_, rfl⟩ | ⟨k, _⟩ | ⟨k, _⟩⟩
      · exact ⟨_, rfl, own_empty _ _ _, hB⟩
      · exact absurd k hm
      · exact absurd k hm
    · refine (refclput_any x p v c f m s u g ga gl gc ba bl bc gs bs W ho).mono ?_
      rintro e w' ⟨hB, ⟨_, rfl⟩ | ⟨k, _⟩ | ⟨k, _⟩⟩
      · exact ⟨_, rfl, own_empty _ _ _, hB⟩
      · exact absurd k hm
      · exact absurd k hm

set_option maxRecDepth 100000 in
set_option maxHeartbeats 4000000 in
theorem clputs_walk (x p v c f : Int) (m : ByteArray) (s u g : Int) (ga : Option Addr) (gl gc : Nat) (ba : Option Addr) (bl bc : Nat) (gs bs : List Int) (w : World) (h : CallOk x p v c f m s u g ga gl gc ba bl bc gs bs w) :
    Calls Tryd.prog 3 #[.agg #[.int .u32 x, .int .u32 p, .int .u32 v, .int .u32 c, .int .u32 f, .string m, .int .u32 s, .int .u32 u, .int .u32 g, .slice ga gl gc, .slice ba bl bc]] w fun e w' => e = .returned (.bool true) ∧ Below w.heap.size w w' := by
  have X0 := Cx.start w x p v c f m s u g ga gl gc ba bl bc
  obtain ⟨c0, c1, c2, c3, c4, c5, c6, c7, c8, c9, c10⟩ := call_at X0.call
  by_cases hgr : isGreat m gl bl
  · go_enter Tryd.func3, Tryd.ntmps3
    go_wp2_with fail
    generalize w.alloc (.cells #[.int .u32 x, .int .u32 p, .int .u32 v, .int .u32 c, .int .u32 f, .string m, .int .u32 s, .int .u32 u, .int .u32 g, .slice ga gl gc, .slice ba bl bc] 28) = w0 at *
    refine (great_yes x p v c f m s u g ga gl gc ba bl bc w0 h.hm h.gcm h.bcm hgr).mono ?_
    rintro e w1 ⟨rfl, hb1⟩
    have X1 := X0.next hb1
    clear c0 c1 c2 c3 c4 c5 c6 c7 c8 c9 c10
    go_wp2
    go_ret
    exact ⟨rfl, X1.below⟩
  · have hm5 : m.size ≤ 5000 := Nat.le_of_not_lt fun k => hgr (.inl k)
    have hg5 : gl ≤ 1000 := Nat.le_of_not_lt fun k => hgr (.inr (.inl k))
    have hb5 : bl ≤ 200000 := Nat.le_of_not_lt fun k => hgr (.inr (.inr k))
    obtain ⟨Z, E, hZl, hput, href⟩ := put_both x p v c f m s u g ga gl gc ba bl bc gs bs
    go_enter Tryd.func3, Tryd.ntmps3
    go_wp2_with fail
    generalize w.alloc (.cells #[.int .u32 x, .int .u32 p, .int .u32 v, .int .u32 c, .int .u32 f, .string m, .int .u32 s, .int .u32 u, .int .u32 g, .slice ga gl gc, .slice ba bl bc] 28) = w0 at *
    refine (great_no x p v c f m s u g ga gl gc ba bl bc w0 hgr).mono ?_
    rintro e w1 ⟨rfl, hb1⟩
    have X1 := X0.next hb1
    clear c0 c1 c2 c3 c4 c5 c6 c7 c8 c9 c10 X0 hb1 hgr
    obtain ⟨c0, c1, c2, c3, c4, c5, c6, c7, c8, c9, c10⟩ := call_at X1.call
    have hO1 := h.below X1.below
    go_wp2_with fail
    refine (twincall_any x p v c f m s u g ga gl gc ba bl bc gs bs w1 (by omega) h.gz hO1.gseg (by omega) h.bz hO1.bseg).mono ?_
    rintro e w2 ⟨gb, bb, rfl, hb2, hog, hob⟩
    clear c0 c1 c2 c3 c4 c5 c6 c7 c8 c9 c10
    have X2 := X1.next hb2
    have hgb := own_lt hog (g := gb) rfl
    have hbb := own_lt hob (g := bb) rfl
    have hb3 : Below w2.heap.size w2 (w2.alloc (.cells #[.int .u32 x, .int .u32 p, .int .u32 v, .int .u32 c, .int .u32 f, .string m, .int .u32 s, .int .u32 u, .int .u32 g, .slice (some ⟨gb, 0, none⟩) gl (gl + 1), .slice (some ⟨bb, 0, none⟩) bl (bl + 1)] 28)) := (Below.refl _ _).alloc (Nat.le_refl _) _
    have X3 : Ty w w.heap.size w2.heap.size gb bb x p v c f m s u g ga gl gc ba bl bc gs bs (w2.alloc (.cells #[.int .u32 x, .int .u32 p, .int .u32 v, .int .u32 c, .int .u32 f, .string m, .int .u32 s, .int .u32 u, .int .u32 g, .slice (some ⟨gb, 0, none⟩) gl (gl + 1), .slice (some ⟨bb, 0, none⟩) bl (bl + 1)] 28)) :=
      ⟨⟨(X2.next hb3).below, by rw [h.gz]; exact own_below (own_base hog X1.below.size) hb3⟩, ⟨(X2.next hb3).below, by rw [h.bz]; exact own_below (own_base hob X1.below.size) hb3⟩, (X2.next hb3).call, heap_alloc_new w2 _⟩
    clear hog hob hb2 X1 X2 hb3 hO1
    go_wp2_with fail
    generalize w2.alloc (.cells #[.int .u32 x, .int .u32 p, .int .u32 v, .int .u32 c, .int .u32 f, .string m, .int .u32 s, .int .u32 u, .int .u32 g, .slice (some ⟨gb, 0, none⟩) gl (gl + 1), .slice (some ⟨bb, 0, none⟩) bl (bl + 1)] 28) = w3 at *
    generalize hT : w2.heap.size = T at *
    obtain ⟨H, hH⟩ : ∃ H, w.heap.size = H := ⟨_, rfl⟩
    have HH : Hid (w.heap.size = H) := hH
    replace X3 : Ty w H T gb bb x p v c f m s u g ga gl gc ba bl bc gs bs w3 := by rw [← hH]; exact X3
    simp only [hH]
    clear hH
    have hTw := (Array.getElem?_eq_some_iff.1 X3.two).1
    refine (hput w3 _ _ _ _ (X3.ok h)).mono ?_
    rintro e w4 ⟨vx, rfl, ox, hb4⟩
    have X4 := X3.next hb4
    have h34 := hb4.size
    have hxl : ∀ k, vx.ownBlock = some k → w3.heap.size ≤ k ∧ k < w4.heap.size := fun k hk => own_lt ox hk
    replace ox := own_base ox X3.t1.below.size
    clear hb4 X3
    obtain ⟨c0, c1, c2, c3, c4, c5, c6, c7, c8, c9, c10⟩ := call_at X4.two
    go_wp2_with fail
    refine (hput w4 _ _ _ _ (X4.ok h)).mono ?_
    rintro e w5 ⟨vy, rfl, oy, hb5'⟩
    have X5 := X4.next hb5'
    have hyl : ∀ k, vy.ownBlock = some k → w4.heap.size ≤ k := fun k hk => (own_lt oy hk).1
    replace oy := own_base oy X4.t1.below.size
    replace ox := own_below ox hb5'
    clear hb5' X4 c0 c1 c2 c3 c4 c5 c6 c7 c8 c9 c10
    obtain ⟨c0, c1, c2, c3, c4, c5, c6, c7, c8, c9, c10⟩ := call_at X5.one
    go_wp2_with fail
    refine (href w5 _ _ _ _ (h.below X5.t1.below)).mono ?_
    rintro e w6 ⟨vp, rfl, op, hb6⟩
    have X6 := X5.next hb6
    replace oy := own_below oy hb6
    replace ox := own_below ox hb6
    clear hb6 X5 c0 c1 c2 c3 c4 c5 c6 c7 c8 c9 c10 hput href
    obtain ⟨q, hq⟩ : ∃ q, Z.length = q := ⟨_, rfl⟩
    rw [hq] at ox oy op hZl
    obtain ⟨ax, cx, rfl, sx, _⟩ := got_val ox hq
    obtain ⟨ay, cy, rfl, sy, _⟩ := got_val oy hq
    obtain ⟨ap, cp, rfl, sp, _⟩ := got_val op hq
    clear op
    have hE1 : ((E : Int) != E) = false := by simp
    have K6 : Kn w [⟨some ⟨bb, 0, none⟩, bl, bl + 1, 2, bs⟩, ⟨ax, q, cx, 3, Z⟩, ⟨ay, q, cy, 4, Z⟩] [⟨some ⟨gb, 0, none⟩, gl, gl + 1, 1, gs⟩] w6 := ⟨⟨X6.t1.below, listsOf (by
      intro e he
      simp only [List.mem_cons, List.not_mem_nil, or_false] at he
      rcases he with rfl | rfl | rfl
      · exact X6.t1.own h.bz
      · exact ox
      · exact oy)⟩, listsOf4 (by
      intro e he
      simp only [List.mem_cons, List.not_mem_nil, or_false] at he
      subst he
      exact X6.t4.own h.gz)⟩
    have hA : Apt [⟨some ⟨bb, 0, none⟩, bl, bl + 1, 2, bs⟩, ⟨ax, q, cx, 3, Z⟩, ⟨ay, q, cy, 4, Z⟩] := aptOf (by
      refine List.Pairwise.cons ?_ (List.Pairwise.cons ?_ (List.pairwise_singleton _ _))
      · intro e he k hk hk2
        simp only [List.mem_cons, List.not_mem_nil, or_false] at he
        have hk' : k = bb := by simpa [Ent.v, Value.ownBlock] using hk.symm
        rcases he with rfl | rfl
        · have := hxl k hk2; omega
        · have := hyl k hk2; omega
      · intro e he k hk hk2
        simp only [List.mem_cons, List.not_mem_nil, or_false] at he
        subst he
        have := hxl k hk
        have := hyl k hk2
        omega)
    clear ox oy hxl hyl hgb hbb h34 hTw
    go_wp2_with fail
    refine (same_true _ _ q cx cp Z w6 (by omega) hq sx sp).mono ?_
    rintro e w' ⟨rfl, j6, rfl⟩
    have hd := below_drewN (Below.refl w6.heap.size w6) j6
    have K7 := K6.next hd
    have X7 := X6.next hd
    have sy7 := sy.below hd
    have sp7 := sp.below hd
    generalize w6.drewN j6 = w7 at *
    clear K6 X6 sx sy sp hd
    go_wp2_with fail
    refine (same_true _ _ q cy cp Z w7 (by omega) hq sy7 sp7).mono ?_
    rintro e w' ⟨rfl, j7, rfl⟩
    have hd := below_drewN (Below.refl w7.heap.size w7) j7
    have K8 := K7.next hd
    have X8 := X7.next hd
    generalize w7.drewN j7 = w8 at *
    clear K7 X7 sy7 sp7 hd
    obtain ⟨c0, c1, c2, c3, c4, c5, c6, c7, c8, c9, c10⟩ := call_at X8.two
    obtain ⟨d0, d1, d2, d3, d4, d5, d6, d7, d8, d9, d10⟩ := call_at X8.one
    have h8 := h.below X8.t1.below
    go_wp2_with fail
    refine (leftcall_true x p v c f m s u g gb ga gl gc bb ba bl bc gs bs w8 (by omega) h.gz h8.gseg X8.t4.twin (by omega) h.bz h8.bseg X8.t1.twin).mono ?_
    rintro e w9 ⟨rfl, hb9⟩
    have K9 := K8.next hb9
    have X9 := X8.next hb9
    clear K8 X8 hb9 c0 c1 c2 c3 c4 c5 c6 c7 c8 c9 c10 d0 d1 d2 d3 d4 d5 d6 d7 d8 d9 d10 h8
    have hdT := X9.two
    have H0 := Hn.start K9
    have hdT0 := ((Below.refl w9.heap.size w9).alloc (Nat.le_refl _) (.cells #[.int .i64 0, .slice none 0 0, .slice none 0 0, .slice none 0 0, .slice none 0 0, .slice none 0 0, .slice none 0 0, .slice none 0 0] 44)).block _ (Array.getElem?_eq_some_iff.1 hdT).1
    rw [hdT] at hdT0
    clear hdT
    obtain ⟨c0, c1, c2, c3, c4, c5, c6, c7, c8, c9, c10⟩ := call_at hdT0
    go_wp2_with fail
    generalize w9.alloc (.cells #[.int .i64 0, .slice none 0 0, .slice none 0 0, .slice none 0 0, .slice none 0 0, .slice none 0 0, .slice none 0 0, .slice none 0 0] 44) = v0 at *
    generalize w9.heap.size = B at *
    clear K9 X9
    refine (H0.callK x p v c f m s u g (some ⟨gb, 0, none⟩) gl (gl + 1) (some ⟨bb, 0, none⟩) bl (bl + 1) (by omega) (by omega) (by simp) (by simp)).mono ?_
    rintro e v1 ⟨rfl, ⟨vb1, vn1, H1⟩, _⟩
    clear H0 c0 c1 c2 c3 c4 c5 c6 c7 c8 c9 c10 hdT0
    go_wp2_with fail
    refine (H1.bytes ax q cx (by omega) (by omega) (by simp)).mono ?_
    rintro e v2 ⟨rfl, vb2, H2⟩
    clear H1
    go_wp2_with fail
    refine (H2.bytes ay q cy (by omega) (by omega) (by simp)).mono ?_
    rintro e v3 ⟨rfl, vb3, H3⟩
    clear H2
    go_wp2_with fail
    refine (H3.apart rfl rfl hA (smallOf (by simp) (by
      intro e he
      simp only [List.mem_cons, List.not_mem_nil, or_false] at he
      rcases he with rfl | rfl | rfl
      · exact ⟨by show bl ≤ _; omega, by simp, by simp⟩
      · exact ⟨by show q ≤ _; omega, by simp, by simp⟩
      · exact ⟨by show q ≤ _; omega, by simp, by simp⟩)) (aptOf (List.pairwise_singleton _ _)) (smallOf (by simp) (by
      intro e he
      simp only [List.mem_cons, List.not_mem_nil, or_false] at he
      subst he
      exact ⟨by show gl ≤ _; omega, by simp, by simp⟩))).mono ?_
    rintro e v5 ⟨rfl, hfin⟩
    clear H3
    go_wp2
    go_ret
    exact ⟨rfl, hfin⟩
end Go.Proofs.YtciinabhelfnoaaDoor
