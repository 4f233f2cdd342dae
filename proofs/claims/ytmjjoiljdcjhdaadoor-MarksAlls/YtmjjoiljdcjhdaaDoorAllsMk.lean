/- The walk of 'MarksAlls': true for any bytes; nothing that was there turns. -/
import Derived.Test.YtmjjoiljdcjhdaaDoorLeft
import Derived.Test.YtmjjoiljdcjhdaaDoorSameMsg
import Derived.Test.YtmjjoiljdcjhdaaDoorRefMAll
import Derived.Test.YtmjjoiljdcjhdaaDoorTwinOwn
import Derived.Test.YtmjjoiljdcjhdaaDoorBlobMany
import Derived.WalkSmall
namespace Go.Proofs.YtmjjoiljdcjhdaaDoor
set_option linter.unusedVariables false
open Go.RowKit

set_option maxRecDepth 100000 in
set_option maxHeartbeats 1000000 in
theorem refmall_empty (x : Addr) (cap : Nat) (w : World) (hm : cap ≤ 9223372036854775807) : Calls Tryd.prog 18 #[.slice (some x) 0 cap] w (rallPost w []) := by
  have hcall := refmget_any (some x) 0 cap [] w (by omega) (by omega) (by omega) rfl (fun i => by simp) (.inl rfl) (by simp)
  unfold mgPost at hcall
  rw [mg_none 65536 [] (by decide)] at hcall
  dsimp only at hcall
  have HE : Hid (mall (([] : List Int).drop 0) = ([], 0, 0)) := rfl
  have hx : x.add 0 = x := by simp [Addr.add]
  by_cases hc : cap = 0
  · subst hc
    go_enter Tryd.func18, Tryd.ntmps18
    go_wp2
    refine wp_loop_rounds 1 ?_
    rw [rounds_succ]
    go_wp2_with fail
    refine hcall.mono ?_
    rintro e w1 ⟨v1, rfl, _, hb1⟩
    go_wp2
    go_ret3
    exact rall_end (len := 0) (ps := []) rfl (World.ownsRow_nil _ _ _ _) (by simp) hb1 rfl HE.out
  · go_enter Tryd.func18, Tryd.ntmps18
    go_wp2
    refine wp_loop_rounds 1 ?_
    rw [rounds_succ]
    go_wp2_with fail
    refine hcall.mono ?_
    rintro e w1 ⟨v1, rfl, _, hb1⟩
    go_wp2
    go_ret3
    exact rall_end (len := 0) (ps := []) rfl (World.ownsRow_nil _ _ _ _) (by simp) hb1 rfl HE.out

theorem refmall_any (a : Option Addr) (len cap : Nat) (zs : List Int) (w : World) (hl : len ≤ 1000000) (hlc : len ≤ cap) (hm : cap ≤ 9223372036854775807) (hz : zs.length = len) (hb : Byt zs) (hs : Seg w a zs) (hnil : a = none → len = 0 ∧ cap = 0) :
    Calls Tryd.prog 18 #[.slice a len cap] w (rallPost w zs) := by
  cases a with
  | none =>
    obtain ⟨rfl, rfl⟩ := hnil rfl
    obtain rfl : zs = [] := List.length_eq_zero_iff.1 hz
    exact refmall_none w
  | some x =>
    rcases hs with h0 | ⟨b, off, e, hc⟩
    · subst h0
      obtain rfl : len = 0 := by simpa using hz.symm
      exact refmall_empty x cap w hm
    · cases e
      exact refmall_some b off len cap zs w hl hlc hm hz hb (.inr ⟨b, off, rfl, hc⟩)

set_option maxRecDepth 100000 in
set_option maxHeartbeats 2000000 in
theorem malls_walk (a : Option Addr) (len cap : Nat) (zs : List Int) (w : World) (hlc : len ≤ cap) (hm : cap ≤ 9223372036854775807) (hz : zs.length = len) (hb : Byt zs) (hs : Seg w a zs) (hnil : a = none → len = 0 ∧ cap = 0) :
    Calls Tryd.prog 5 #[.slice a len cap] w fun e w' => e = .returned (.bool true) ∧ Below w.heap.size w w' := by
  by_cases hl : 200000 < len
  · go_enter Tryd.func5, Tryd.ntmps5
    go_wp2
    go_ret
    exact ⟨rfl, Below.refl _ _⟩
  · go_enter Tryd.func5, Tryd.ntmps5
    go_wp2_with fail
    refine (twin_any a len cap zs w (by omega) hz hs).mono ?_
    rintro e w2 ⟨rfl, hb2, ho2⟩
    have T2 : Twinned w w.heap.size zs w2 := ⟨hb2, by rw [hz]; exact ho2⟩
    have hg2 : w.heap.size < w2.heap.size := (own_lt ho2 rfl).2
    obtain ⟨g, hg⟩ : ∃ g, w.heap.size = g := ⟨_, rfl⟩
    have T2 : Twinned w g zs w2 := by rw [← hg]; exact T2
    rw [hg] at hg2
    have Hg : Hid (w.heap.size = g) := hg
    simp only [hg]
    clear ho2 hb2 hg
    go_wp2_with fail
    refine (all_any (some ⟨g, 0, none⟩) len (len + 1) zs w2 (by omega) (by omega) (by omega) hz hb T2.seg (by simp)).mono ?_
    rintro e w3 ⟨vl, ps, rfl, hps, ox, hop, hpw, hb3⟩
    have T3 := T2.next hb3
    have hgp : ∀ p ∈ ps, ∀ k, p.v.ownBlock = some k → w2.heap.size ≤ k := fun p hp k hk => (own_lt (hop p hp).2 hk).1
    replace ox := own_base ox T2.below.size
    replace hop : ∀ p ∈ ps, p.Own w3 w.heap.size := fun p hp => (hop p hp).base T2.below.size
    clear hb3 T2
    go_wp2_with fail
    refine (refmall_any a len cap zs w3 (by omega) hlc hm hz hb (hs.below T3.below) hnil).mono ?_
    rintro e w4 ⟨vw, qs, rfl, hqs, oy, hoq, hb4⟩
    have T4 := T3.next hb4
    replace ox := own_below ox hb4
    replace hop : ∀ p ∈ ps, p.Own w4 w.heap.size := fun p hp => (hop p hp).below hb4
    clear hb4 T3
    have hpl : ps.length ≤ 100000 := by have := (mall_size zs).1; have := (mall_size zs).2; have h3 := congrArg List.length hps; rw [List.length_map] at h3; omega
    have hsm : ∀ p ∈ ps, p.len ≤ 65536 := fun p hp => by
      have := mall_small zs p.zs (by rw [← hps]; exact List.mem_map_of_mem hp)
      rw [(hop p hp).1] at this
      exact this
    have hpq : ps.map Part.zs = qs.map Part.zs := by rw [hps, hqs]
    have hlq : qs.length = ps.length := by have := congrArg List.length hpq; simpa using this.symm
    rw [hlq] at oy
    generalize (mall zs).2.1 = L at *
    generalize (mall zs).2.2 = E at *
    clear hps hqs
    obtain ⟨q, hq⟩ : ∃ q, ps.length = q := ⟨_, rfl⟩
    rw [hq] at ox oy hpl hlq
    obtain ⟨al, cl, rfl⟩ := row_shape ox
    obtain ⟨aw, cw, rfl⟩ := row_shape oy
    obtain ⟨sl, hlcl, _⟩ := own_segs ox hq
    obtain ⟨sw, hlcw, _⟩ := own_segs oy hlq
    have hL : ((L : Int) != (L : Int)) = false := by simp
    have hE : ((E : Int) != E) = false := by simp
    have hsa := hs.below T4.below
    have K4 : Kp w (entsOf ⟨some ⟨g, 0, none⟩, len, len + 1, 1, zs⟩ ps) w4 := ⟨T4.below, lists_of (T4.own hz) hop⟩
    have hA : Apt (entsOf ⟨some ⟨g, 0, none⟩, len, len + 1, 1, zs⟩ ps) := apt_ents (fun p hp k hk hk2 => by have := hgp p hp k hk2; have e : g = k := Option.some.inj hk; omega) hpw
    have hS : Small (entsOf ⟨some ⟨g, 0, none⟩, len, len + 1, 1, zs⟩ ps) := small_ents (by show len ≤ _; omega) rfl (by omega) (fun p hp => by have := hsm p hp; omega)
    have hin : ∀ p ∈ ps, p.In w4 := fun p hp => (hop p hp).isIn
    have hinq : ∀ p ∈ qs, p.In w4 := fun p hp => (hoq p hp).isIn
    clear oy hgp hpw hg2 hop hoq
    go_wp2_with fail
    refine (samemsg_true al aw q cl cw ps qs w4 (by omega) hlcl hlcw hq hpq sl sw hin hinq (fun p hp => by have := hsm p hp; omega)).mono ?_
    rintro e w' ⟨rfl, j5, rfl⟩
    have hd := below_drewN (Below.refl w4.heap.size w4) j5
    have K7 := K4.next hd
    have T7 := T4.next hd
    have sa7 := hsa.below hd
    replace ox := own_below ox hd
    generalize w4.drewN j5 = w7 at *
    clear K4 T4 sl sw hsa hd hin hinq
    go_wp2_with fail
    refine (left g len a cap zs w7 (by omega) hz sa7 T7.twin).mono ?_
    rintro e w' ⟨rfl, j7, rfl⟩
    have K8 := K7.drewN j7
    replace ox := own_below ox (below_drewN (Below.refl w7.heap.size w7) j7)
    generalize w7.drewN j7 = w8 at *
    clear K7 T7 sa7
    go_wp2_with fail
    have H0 : HX w _ _ _ _ _ _ _ _ _ := ⟨Hd.start K8, own_below ox ((Below.refl w8.heap.size w8).alloc (Nat.le_refl _) (.cells #[.int .i64 0, .slice none 0 0, .slice none 0 0, .slice none 0 0, .slice none 0 0, .slice none 0 0, .slice none 0 0, .slice none 0 0] 37))⟩
    generalize w8.alloc (.cells #[.int .i64 0, .slice none 0 0, .slice none 0 0, .slice none 0 0, .slice none 0 0, .slice none 0 0, .slice none 0 0, .slice none 0 0] 37) = v0 at *
    generalize w8.heap.size = B at *
    clear K8 ox
    refine (H0.bytes (some ⟨g, 0, none⟩) len (len + 1) (by omega) (by omega) (by simp)).mono ?_
    rintro e v1 ⟨rfl, vb1, H1⟩
    clear H0
    go_wp2_with fail
    refine (HX.messages H1 hq hpl).mono ?_
    rintro e v2 ⟨rfl, vb2, gm, cm, H2⟩
    clear H1
    go_wp2_with fail
    refine (H2.apart rfl hA hS (by omega) (by omega) (by omega)).mono ?_
    rintro e v4 ⟨rfl, hfin⟩
    clear H2
    go_wp2
    go_ret
    exact ⟨rfl, hfin⟩
end Go.Proofs.YtmjjoiljdcjhdaaDoor
