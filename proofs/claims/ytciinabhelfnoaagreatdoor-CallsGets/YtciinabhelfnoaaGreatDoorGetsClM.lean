/- The walk of 'CallsGets': true for any bytes; nothing that was there turns. -/
import Derived.Test.YtciinabhelfnoaaGreatDoorTwinLeftM
import Derived.Test.YtciinabhelfnoaaGreatDoorCredCellsCallCellsSameClM
import Derived.Test.YtciinabhelfnoaaGreatDoorRefClGM
import Derived.Test.YtciinabhelfnoaaGreatDoorBookManyOwnGotTwinOwnM
import Derived.Test.YtciinabhelfnoaaGreatDoorBookCallM
import Derived.Test.YtciinabhelfnoaaGreatDoorCallMath2M
import Derived.WalkSmall
namespace Go.Proofs.YtciinabhelfnoaaGreatDoor
set_option linter.unusedVariables false
open Go.RowKit

/-- A call in a box, its lists owned. -/
structure Gk (w : World) (H : Nat) (x p v c f : Int) (m : ByteArray) (s u g : Int) (ga : Option Addr) (gl gc : Nat) (ba : Option Addr) (bl bc : Nat) (gs bs : List Int) (W : World) : Prop where
  box : W.heap[H]? = some (.cells #[.int .u32 x, .int .u32 p, .int .u32 v, .int .u32 c, .int .u32 f, .string m, .int .u32 s, .int .u32 u, .int .u32 g, .slice ga gl gc, .slice ba bl bc] 29)
  og : W.ownsRow w.heap.size 24 1 (.slice ga gl gc) gl (gs.map (Value.int .u32))
  ob : W.ownsRow w.heap.size 5 1 (.slice ba bl bc) bl (bs.map (Value.int .u8))
theorem Gk.next {w : World} {H : Nat} {x p v c f : Int} {m : ByteArray} {s u g : Int} {ga : Option Addr} {gl gc : Nat} {ba : Option Addr} {bl bc : Nat} {gs bs : List Int} {W W' : World} (h : Gk w H x p v c f m s u g ga gl gc ba bl bc gs bs W) (hb : Below W.heap.size W W') : Gk w H x p v c f m s u g ga gl gc ba bl bc gs bs W' :=
  ⟨(hb.block _ (Array.getElem?_eq_some_iff.1 h.box).1).trans h.box, own_below h.og hb, own_below h.ob hb⟩
theorem own_segB {w : World} {base e n c : Nat} {a : Option Addr} {zs : List Int} (h : w.ownsRow base e 1 (.slice a n c) n (zs.map (Value.int .u8))) (hz : zs.length = n) : Seg w a zs := by
  obtain ⟨a', c', e, s, _⟩ := own_val h hz
  injection e with e1
  rw [e1]
  exact s
theorem own_segG {w : World} {base e n c : Nat} {a : Option Addr} {zs : List Int} (h : w.ownsRow base e 1 (.slice a n c) n (zs.map (Value.int .u32))) (hz : zs.length = n) : Seg4 w a zs := by
  obtain ⟨a', c', e, s, _⟩ := own_val4 h hz
  injection e with e1
  rw [e1]
  exact s

/-- What is answered, by one form for both ends. -/
def GotP (x p v c f : Int) (m : ByteArray) (s u g : Int) (gl bl : Nat) (gs bs : List Int) (E : Int) (w : World) (e : Ending) (W' : World) : Prop :=
  Below w.heap.size w W' ∧ ∃ ga gc ba bc, e = .returned (.tuple #[.agg #[.int .u32 x, .int .u32 p, .int .u32 v, .int .u32 c, .int .u32 f, .string m, .int .u32 s, .int .u32 u, .int .u32 g, .slice ga gl gc, .slice ba bl bc], .int .i64 E]) ∧ W'.ownsRow w.heap.size 24 1 (.slice ga gl gc) gl (gs.map (Value.int .u32)) ∧ W'.ownsRow w.heap.size 5 1 (.slice ba bl bc) bl (bs.map (Value.int .u8))

theorem got_one (zs : List Int) (hb : Byt zs) : ∃ (x p v c f : Int) (m : ByteArray) (s u g : Int) (gl bl : Nat) (gs bs : List Int) (E : Int), gs.length = gl ∧ bs.length = bl ∧ gl ≤ 16 ∧ bl ≤ 65536 ∧ ∀ w e W', clPost w zs e W' → GotP x p v c f m s u g gl bl gs bs E w e W' := by
  by_cases h0 : clE zs = 0
  · have hL : (clL zs).length ≤ 16 := by
      rcases (cl_again hb h0).2.2.ok with ⟨_, _, _, _, _, q⟩ | ⟨_, hc⟩
      · rw [q]; simp
      · exact hc.okN
    have hB : (clB zs).length ≤ 65536 := by
      have := (clE_ok h0).1
      simp only [clB, clN, clR, clH, List.length_drop]
      omega
    refine ⟨clX zs, clP zs, clV zs, clC zs, clF zs, strOfNums (clM zs), clS zs, clU zs, clG zs, (clL zs).length, (clB zs).length, clL zs, clB zs, 0, rfl, rfl, hL, hB, ?_⟩
    rintro w e W' ⟨hBe, ⟨hne, _⟩ | ⟨_, ga, gc, ba, bc, rfl, og, ob⟩⟩
    · exact absurd h0 hne
    · exact ⟨hBe, ga, gc, ba, bc, rfl, og, ob⟩
  · refine ⟨0, 0, 0, 0, 0, ⟨#[]⟩, 0, 0, 0, 0, 0, [], [], clE zs, rfl, rfl, by omega, by omega, ?_⟩
    rintro w e W' ⟨hBe, ⟨_, rfl⟩ | ⟨h, _⟩⟩
    · exact ⟨hBe, none, 0, none, 0, rfl, World.ownsRow_nil _ _ _ _, World.ownsRow_nil _ _ _ _⟩
    · exact absurd h h0

set_option maxRecDepth 100000 in
set_option maxHeartbeats 4000000 in
theorem clgets_walk (a : Option Addr) (len cap : Nat) (zs : List Int) (w : World) (hlc : len ≤ cap) (hm : cap ≤ 140737488351232) (hz : zs.length = len) (hb : Byt zs) (hs : Seg w a zs) (hn : a = none → len = 0 ∧ cap = 0) :
    Calls Tryz.prog 3 #[.slice a len cap] w fun e w' => e = .returned (.bool true) ∧ Below w.heap.size w w' := by
  by_cases hbig : 200000 < len
  · have hx : (200000 : Int) < len := by omega
    go_enter Tryz.func3, Tryz.ntmps3
    go_wp2
    go_ret
    exact ⟨rfl, Below.refl _ _⟩
  have hx : ¬ (200000 : Int) < len := by omega
  have hl1 : len ≤ 200000 := by omega
  obtain ⟨x, p, v, c, f, m, s, u, g, gl, bl, gs, bs, E, hgz, hbz, hg16, hb65, hone⟩ := got_one zs hb
  have hget := fun (W : World) (q : Nat) (h : Seg W (some ⟨q, 0, none⟩) zs) => (clget_any (some ⟨q, 0, none⟩) len (len + 1) zs W (by omega) (by omega) hz hb h (fun e => by cases e)).mono (fun e W' h => hone W e W' h)
  have href := fun (W : World) (h : Seg W a zs) => (refclget_any a len cap zs W hlc (by omega) hz hb h hn).mono (fun e W' h => hone W e W' h)
  clear hone hbig
  go_enter Tryz.func3, Tryz.ntmps3
  go_wp2_with fail
  refine (twin_any a len cap zs w (by omega) hz hs).mono ?_
  rintro e w2 ⟨rfl, hb2, ho2⟩
  obtain ⟨q, hq⟩ : ∃ q, w.heap.size = q := ⟨_, rfl⟩
  have hgb := own_lt ho2 (g := w.heap.size) rfl
  have T2 : Twinned w q zs w2 := ⟨hb2, by rw [hz, ← hq]; exact ho2⟩
  have hgq : q < w2.heap.size := by omega
  have HQ : Hid (w.heap.size = q) := hq
  simp only [hq]
  clear hq ho2 hb2 hgb
  go_wp2_with fail
  refine (hget w2 q T2.seg).mono ?_
  rintro e w3 ⟨hb3, ga, gc, ba, bc, rfl, og, ob⟩
  have hl3 : ∀ k, (Value.slice ga gl gc).ownBlock = some k → w2.heap.size ≤ k ∧ k < w3.heap.size := fun k hk => own_lt og hk
  have hm3 : ∀ k, (Value.slice ba bl bc).ownBlock = some k → w2.heap.size ≤ k ∧ k < w3.heap.size := fun k hk => own_lt ob hk
  have hq3 : Below w3.heap.size w3 (w3.alloc (.cells #[.int .u32 x, .int .u32 p, .int .u32 v, .int .u32 c, .int .u32 f, .string m, .int .u32 s, .int .u32 u, .int .u32 g, .slice ga gl gc, .slice ba bl bc] 29)) := (Below.refl _ _).alloc (Nat.le_refl _) _
  have b4 : Gk w w3.heap.size x p v c f m s u g ga gl gc ba bl bc gs bs (w3.alloc (.cells #[.int .u32 x, .int .u32 p, .int .u32 v, .int .u32 c, .int .u32 f, .string m, .int .u32 s, .int .u32 u, .int .u32 g, .slice ga gl gc, .slice ba bl bc] 29)) := ⟨heap_alloc_new w3 _, own_below (own_base og T2.below.size) hq3, own_below (own_base ob T2.below.size) hq3⟩
  have T4 := (T2.next hb3).next hq3
  have h34 := hq3.size
  have h23 := hb3.size
  clear og ob hb3 T2 hq3
  go_wp2_with fail
  generalize w3.alloc (.cells #[.int .u32 x, .int .u32 p, .int .u32 v, .int .u32 c, .int .u32 f, .string m, .int .u32 s, .int .u32 u, .int .u32 g, .slice ga gl gc, .slice ba bl bc] 29) = w4 at *
  generalize w3.heap.size = H4 at *
  refine (hget w4 q T4.seg).mono ?_
  rintro e w5 ⟨hb5, ga2, gc2, ba2, bc2, rfl, og, ob⟩
  have hl5 : ∀ k, (Value.slice ga2 gl gc2).ownBlock = some k → w4.heap.size ≤ k := fun k hk => (own_lt og hk).1
  have hm5 : ∀ k, (Value.slice ba2 bl bc2).ownBlock = some k → w4.heap.size ≤ k := fun k hk => (own_lt ob hk).1
  have hq5 : Below w5.heap.size w5 (w5.alloc (.cells #[.int .u32 x, .int .u32 p, .int .u32 v, .int .u32 c, .int .u32 f, .string m, .int .u32 s, .int .u32 u, .int .u32 g, .slice ga2 gl gc2, .slice ba2 bl bc2] 29)) := (Below.refl _ _).alloc (Nat.le_refl _) _
  have c6 : Gk w w5.heap.size x p v c f m s u g ga2 gl gc2 ba2 bl bc2 gs bs (w5.alloc (.cells #[.int .u32 x, .int .u32 p, .int .u32 v, .int .u32 c, .int .u32 f, .string m, .int .u32 s, .int .u32 u, .int .u32 g, .slice ga2 gl gc2, .slice ba2 bl bc2] 29)) := ⟨heap_alloc_new w5 _, own_below (own_base og T4.below.size) hq5, own_below (own_base ob T4.below.size) hq5⟩
  have b6 := (b4.next hb5).next hq5
  have T6 := (T4.next hb5).next hq5
  clear og ob hb5 T4 b4 hq5
  go_wp2_with fail
  generalize w5.alloc (.cells #[.int .u32 x, .int .u32 p, .int .u32 v, .int .u32 c, .int .u32 f, .string m, .int .u32 s, .int .u32 u, .int .u32 g, .slice ga2 gl gc2, .slice ba2 bl bc2] 29) = w6 at *
  generalize w5.heap.size = H6 at *
  refine (href w6 (hs.below T6.below)).mono ?_
  rintro e w7 ⟨hb7, ga3, gc3, ba3, bc3, rfl, og, ob⟩
  have hq7 : Below w7.heap.size w7 (w7.alloc (.cells #[.int .u32 x, .int .u32 p, .int .u32 v, .int .u32 c, .int .u32 f, .string m, .int .u32 s, .int .u32 u, .int .u32 g, .slice ga3 gl gc3, .slice ba3 bl bc3] 29)) := (Below.refl _ _).alloc (Nat.le_refl _) _
  have d8 : Gk w w7.heap.size x p v c f m s u g ga3 gl gc3 ba3 bl bc3 gs bs (w7.alloc (.cells #[.int .u32 x, .int .u32 p, .int .u32 v, .int .u32 c, .int .u32 f, .string m, .int .u32 s, .int .u32 u, .int .u32 g, .slice ga3 gl gc3, .slice ba3 bl bc3] 29)) := ⟨heap_alloc_new w7 _, own_below (own_base og T6.below.size) hq7, own_below (own_base ob T6.below.size) hq7⟩
  have b8 := (b6.next hb7).next hq7
  have c8 := (c6.next hb7).next hq7
  have T8 := (T6.next hb7).next hq7
  clear og ob hb7 T6 b6 c6 hq7 hget href
  have q3 : ((E : Int) != E) = false := by simp
  obtain ⟨y0, y1, y2, y3, y4, y5, y6, y7, y8, y9, y10⟩ := call_at b8.box
  obtain ⟨z0, z1, z2, z3, z4, z5, z6, z7, z8, z9, z10⟩ := call_at d8.box
  go_wp2_with fail
  generalize w7.alloc (.cells #[.int .u32 x, .int .u32 p, .int .u32 v, .int .u32 c, .int .u32 f, .string m, .int .u32 s, .int .u32 u, .int .u32 g, .slice ga3 gl gc3, .slice ba3 bl bc3] 29) = w8 at *
  generalize w7.heap.size = H8 at *
  refine (samecall_true x p v c f m s u g ga ga3 gl gc gc3 ba ba3 bl bc bc3 gs bs w8 (by omega) hgz (own_segG b8.og hgz) (own_segG d8.og hgz) (by omega) hbz (own_segB b8.ob hbz) (own_segB d8.ob hbz)).mono ?_
  rintro e w9 ⟨rfl, hb9⟩
  have b9 := b8.next hb9
  have c9 := c8.next hb9
  have d9 := d8.next hb9
  have T9 := T8.next hb9
  clear b8 c8 d8 T8 hb9 y0 y1 y2 y3 y4 y5 y6 y7 y8 y9 y10 z0 z1 z2 z3 z4 z5 z6 z7 z8 z9 z10
  obtain ⟨y0, y1, y2, y3, y4, y5, y6, y7, y8, y9, y10⟩ := call_at c9.box
  obtain ⟨z0, z1, z2, z3, z4, z5, z6, z7, z8, z9, z10⟩ := call_at d9.box
  go_wp2_with fail
  refine (samecall_true x p v c f m s u g ga2 ga3 gl gc2 gc3 ba2 ba3 bl bc2 bc3 gs bs w9 (by omega) hgz (own_segG c9.og hgz) (own_segG d9.og hgz) (by omega) hbz (own_segB c9.ob hbz) (own_segB d9.ob hbz)).mono ?_
  rintro e w10 ⟨rfl, hb10⟩
  have b10 := b9.next hb10
  have c10 := c9.next hb10
  have T10 := T9.next hb10
  clear b9 c9 d9 T9 hb10 y0 y1 y2 y3 y4 y5 y6 y7 y8 y9 y10 z0 z1 z2 z3 z4 z5 z6 z7 z8 z9 z10
  go_wp2_with fail
  refine (left q len a cap zs w10 (by omega) hz (hs.below T10.below) T10.twin).mono ?_
  rintro e w' ⟨rfl, j, rfl⟩
  have hd := below_drewN (Below.refl w10.heap.size w10) j
  have b11 := b10.next hd
  have c11 := c10.next hd
  have T11 := T10.next hd
  generalize w10.drewN j = w11 at *
  clear b10 c10 T10 hd
  have K11 : Kn w [⟨some ⟨q, 0, none⟩, len, len + 1, 1, zs⟩, ⟨ba, bl, bc, 3, bs⟩, ⟨ba2, bl, bc2, 5, bs⟩] [⟨ga, gl, gc, 2, gs⟩, ⟨ga2, gl, gc2, 4, gs⟩] w11 := ⟨⟨T11.below, listsOf (by
    intro e he
    simp only [List.mem_cons, List.not_mem_nil, or_false] at he
    rcases he with rfl | rfl | rfl
    · exact T11.own hz
    · exact b11.ob
    · exact c11.ob)⟩, listsOf4 (by
    intro e he
    simp only [List.mem_cons, List.not_mem_nil, or_false] at he
    rcases he with rfl | rfl
    · exact b11.og
    · exact c11.og)⟩
  have hA4 : Apt [⟨ga, gl, gc, 2, gs⟩, ⟨ga2, gl, gc2, 4, gs⟩] := apt2 (fun k hk hk2 => by have := hl3 k hk; have := hl5 k hk2; omega)
  have hA : Apt [⟨some ⟨q, 0, none⟩, len, len + 1, 1, zs⟩, ⟨ba, bl, bc, 3, bs⟩, ⟨ba2, bl, bc2, 5, bs⟩] := aptOf (by
    refine List.Pairwise.cons ?_ (List.Pairwise.cons ?_ (List.pairwise_singleton _ _))
    · intro e he k hk hk2
      simp only [List.mem_cons, List.not_mem_nil, or_false] at he
      have hk' : k = q := by simpa [Ent.v, Value.ownBlock] using hk.symm
      rcases he with rfl | rfl
      · have := hm3 k hk2; omega
      · have := hm5 k hk2; omega
    · intro e he k hk hk2
      simp only [List.mem_cons, List.not_mem_nil, or_false] at he
      subst he
      have := hm3 k hk
      have := hm5 k hk2
      omega)
  clear hl3 hl5 hm3 hm5 h34 hgq h23
  have H0 := Hn.start K11
  have hqB : Below w11.heap.size w11 (w11.alloc (.cells #[.int .i64 0, .slice none 0 0, .slice none 0 0, .slice none 0 0, .slice none 0 0, .slice none 0 0, .slice none 0 0, .slice none 0 0] 43)) := (Below.refl _ _).alloc (Nat.le_refl _) _
  have b12 := (b11.next hqB).box
  have c12 := (c11.next hqB).box
  clear b11 c11 T11 hqB K11
  go_wp2_with fail
  generalize w11.alloc (.cells #[.int .i64 0, .slice none 0 0, .slice none 0 0, .slice none 0 0, .slice none 0 0, .slice none 0 0, .slice none 0 0, .slice none 0 0] 43) = v0 at *
  generalize w11.heap.size = B at *
  refine (H0.bytesK (some ⟨q, 0, none⟩) len (len + 1) (by omega) (by omega) (by simp)).mono ?_
  rintro e v1 ⟨rfl, ⟨vb1, H1⟩, hk1⟩
  have hb1 := (hk1 _ _ _ _ b12 (by decide) (by decide)).trans b12
  have hc1 := (hk1 _ _ _ _ c12 (by decide) (by decide)).trans c12
  clear H0 hk1 b12 c12
  obtain ⟨y0, y1, y2, y3, y4, y5, y6, y7, y8, y9, y10⟩ := call_at hb1
  go_wp2_with fail
  refine (H1.callK x p v c f m s u g ga gl gc ba bl bc (by omega) (by omega) (by simp) (by simp)).mono ?_
  rintro e v2 ⟨rfl, ⟨vb2, vn2, H2⟩, hk2⟩
  have hc2 := (hk2 _ _ _ hc1).trans hc1
  clear H1 hk2 hb1 hc1 y0 y1 y2 y3 y4 y5 y6 y7 y8 y9 y10
  obtain ⟨y0, y1, y2, y3, y4, y5, y6, y7, y8, y9, y10⟩ := call_at hc2
  go_wp2_with fail
  refine (H2.callK x p v c f m s u g ga2 gl gc2 ba2 bl bc2 (by omega) (by omega) (by simp) (by simp)).mono ?_
  rintro e v3 ⟨rfl, ⟨vb3, vn3, H3⟩, _⟩
  clear H2 hc2 y0 y1 y2 y3 y4 y5 y6 y7 y8 y9 y10
  go_wp2_with fail
  refine (H3.apart rfl rfl hA (smallOf (by simp) (by
    intro e he
    simp only [List.mem_cons, List.not_mem_nil, or_false] at he
    rcases he with rfl | rfl | rfl
    · exact ⟨by show len ≤ _; omega, by simp, by simp⟩
    · exact ⟨by show bl ≤ _; omega, by simp, by simp⟩
    · exact ⟨by show bl ≤ _; omega, by simp, by simp⟩)) hA4 (smallOf (by simp) (by
    intro e he
    simp only [List.mem_cons, List.not_mem_nil, or_false] at he
    rcases he with rfl | rfl
    · exact ⟨by show gl ≤ _; omega, by simp, by simp⟩
    · exact ⟨by show gl ≤ _; omega, by simp, by simp⟩))).mono ?_
  rintro e v5 ⟨rfl, hfin⟩
  clear H3
  go_wp2
  go_ret
  exact ⟨rfl, hfin⟩
end Go.Proofs.YtciinabhelfnoaaGreatDoor
