/- The law CallsFixed: the walk. -/
import Derived.Test.YtciinabhelfnoaaAliveClM
import Derived.Test.YtciinabhelfnoaaCallCxM
import Derived.Test.YtciinabhelfnoaaCallMath2M
import Derived.Test.YtciinabhelfnoaaPxKitAppendEachM
import Derived.Test.YtciinabhelfnoaaBeyonds
namespace Go.Proofs.Ytciinabhelfnoaa
set_option linter.unusedVariables false
open Go.RowKit

theorem byt_who {x p v c f : Int} {m : ByteArray} {s u g : Int} {ga : Option Addr} {gl gc : Nat} {ba : Option Addr} {bl bc : Nat} {gs bs : List Int} {w : World} (h : CallOk x p v c f m s u g ga gl gc ba bl bc gs bs w) (hm : MayWho f m s u g gl) : Byt (whoB f s (tz m) u g gs) := by
  unfold whoB
  split
  · exact fun i => by simp
  · exact byt_credB _ (tz_byt m) _ _ _

set_option maxRecDepth 100000 in
set_option maxHeartbeats 4000000 in
theorem clfixed_walk (x p v c f : Int) (m : ByteArray) (s u g : Int) (ga : Option Addr) (gl gc : Nat) (ba : Option Addr) (bl bc : Nat) (gs bs : List Int) (w : World) (h : CallOk x p v c f m s u g ga gl gc ba bl bc gs bs w) (ow on : Int) (oa : Option Addr) (ol oc : Nat) (oz : List Int) (how : 0 ≤ ow ∧ ow ≤ 255) (hon : 0 ≤ on ∧ on ≤ 4294967295) (hol : ol ≤ oc) (hom : oc ≤ 140737488351232) (hoz : oz.length = ol) (hob : Byt oz) (hos : Seg w oa oz) (hoo : oa = none → ol = 0 ∧ oc = 0) :
    Calls Try.prog 6 #[.agg #[.int .u32 x, .int .u32 p, .int .u32 v, .int .u32 c, .int .u32 f, .string m, .int .u32 s, .int .u32 u, .int .u32 g, .slice ga gl gc, .slice ba bl bc], .agg #[.int .u8 ow, .int .u32 on, .slice oa ol oc]] w fun e w' => e = .returned (.bool true) ∧ Below w.heap.size w w' := by
  obtain ⟨i0, hi, hz0, hz1', hz2⟩ := info_parts infoB
  have X0 := Cx.start w x p v c f m s u g ga gl gc ba bl bc
  have hol' : ol ≤ 140737488351232 := by omega
  by_cases hgr : isGreat m gl bl
  · go_enter Try.func6, Try.ntmps6
    go_wp2_with fail
    have Y0 := X0.alloc (.cells #[.int .u8 ow, .int .u32 on, .slice oa ol oc] 45)
    have k0 : ((w.alloc (.cells #[.int .u32 x, .int .u32 p, .int .u32 v, .int .u32 c, .int .u32 f, .string m, .int .u32 s, .int .u32 u, .int .u32 g, .slice ga gl gc, .slice ba bl bc] 28)).alloc (.cells #[.int .u8 ow, .int .u32 on, .slice oa ol oc] 45)).heap[w.heap.size + 1]? = some (.cells #[.int .u8 ow, .int .u32 on, .slice oa ol oc] 45) := by
      have := heap_alloc_new (w.alloc (.cells #[.int .u32 x, .int .u32 p, .int .u32 v, .int .u32 c, .int .u32 f, .string m, .int .u32 s, .int .u32 u, .int .u32 g, .slice ga gl gc, .slice ba bl bc] 28)) (.cells #[.int .u8 ow, .int .u32 on, .slice oa ol oc] 45)
      simpa using this
    generalize (w.alloc (.cells #[.int .u32 x, .int .u32 p, .int .u32 v, .int .u32 c, .int .u32 f, .string m, .int .u32 s, .int .u32 u, .int .u32 g, .slice ga gl gc, .slice ba bl bc] 28)).alloc (.cells #[.int .u8 ow, .int .u32 on, .slice oa ol oc] 45) = w0 at *
    clear X0
    obtain ⟨d0, d1, d2, _, _, _⟩ := cred_at k0
    refine (alive_any w0).mono ?_
    rintro e w1 ⟨rfl, hb1⟩
    have X1 := Y0.next hb1
    clear Y0 hb1 d0 d1 d2 k0
    obtain ⟨c0, c1, c2, c3, c4, c5, c6, c7, c8, c9, c10⟩ := call_at X1.call
    go_wp2_with fail
    refine (great_yes x p v c f m s u g ga gl gc ba bl bc w1 h.hm h.gcm h.bcm hgr).mono ?_
    rintro e w2 ⟨rfl, hb2⟩
    have X2 := X1.next hb2
    clear X1 hb2 c0 c1 c2 c3 c4 c5 c6 c7 c8 c9 c10
    go_wp2_with fail
    refine (alive_any _).mono ?_
    rintro e w9 ⟨rfl, hb9⟩
    have X9 := X2.next hb9
    go_wp2
    go_ret
    exact ⟨rfl, X9.below⟩
  cases hbey : beyond 0 [ol] with
  | true =>
    go_enter Try.func6, Try.ntmps6
    go_wp2_with fail
    have Y0 := X0.alloc (.cells #[.int .u8 ow, .int .u32 on, .slice oa ol oc] 45)
    have k0 : ((w.alloc (.cells #[.int .u32 x, .int .u32 p, .int .u32 v, .int .u32 c, .int .u32 f, .string m, .int .u32 s, .int .u32 u, .int .u32 g, .slice ga gl gc, .slice ba bl bc] 28)).alloc (.cells #[.int .u8 ow, .int .u32 on, .slice oa ol oc] 45)).heap[w.heap.size + 1]? = some (.cells #[.int .u8 ow, .int .u32 on, .slice oa ol oc] 45) := by
      have := heap_alloc_new (w.alloc (.cells #[.int .u32 x, .int .u32 p, .int .u32 v, .int .u32 c, .int .u32 f, .string m, .int .u32 s, .int .u32 u, .int .u32 g, .slice ga gl gc, .slice ba bl bc] 28)) (.cells #[.int .u8 ow, .int .u32 on, .slice oa ol oc] 45)
      simpa using this
    generalize (w.alloc (.cells #[.int .u32 x, .int .u32 p, .int .u32 v, .int .u32 c, .int .u32 f, .string m, .int .u32 s, .int .u32 u, .int .u32 g, .slice ga gl gc, .slice ba bl bc] 28)).alloc (.cells #[.int .u8 ow, .int .u32 on, .slice oa ol oc] 45) = w0 at *
    clear X0
    obtain ⟨d0, d1, d2, _, _, _⟩ := cred_at k0
    refine (alive_any w0).mono ?_
    rintro e w1 ⟨rfl, hb1⟩
    have X1 := Y0.next hb1
    clear Y0 hb1 d0 d1 d2 k0
    obtain ⟨c0, c1, c2, c3, c4, c5, c6, c7, c8, c9, c10⟩ := call_at X1.call
    go_wp2_with fail
    refine (great_no x p v c f m s u g ga gl gc ba bl bc w1 hgr).mono ?_
    rintro e w2 ⟨rfl, hb2⟩
    have X2 := X1.next hb2
    clear X1 hb2 c0 c1 c2 c3 c4 c5 c6 c7 c8 c9 c10
    go_wp2_with fail
    refine (beyond_any [ol] _ 1 _ rfl (by omega) (by intro n hn; simp at hn; omega) (cell_lone w2 3 ol)).mono ?_
    rintro e w' ⟨rfl, rfl⟩
    rw [hbey]
    have X3 := X2.alloc (.cells #[.int .i64 (ol : Int)] 3)
    generalize w2.alloc (.cells #[.int .i64 (ol : Int)] 3) = w3 at *
    clear X2
    go_wp2_with fail
    refine (alive_any _).mono ?_
    rintro e w9 ⟨rfl, hb9⟩
    have X9 := X3.next hb9
    go_wp2
    go_ret
    exact ⟨rfl, X9.below⟩
  | false =>
    by_cases h6 : 60000 < ol
    · have h6' : (60000 : Int) < ol := by omega
      go_enter Try.func6, Try.ntmps6
      go_wp2_with fail
      have Y0 := X0.alloc (.cells #[.int .u8 ow, .int .u32 on, .slice oa ol oc] 45)
      have k0 : ((w.alloc (.cells #[.int .u32 x, .int .u32 p, .int .u32 v, .int .u32 c, .int .u32 f, .string m, .int .u32 s, .int .u32 u, .int .u32 g, .slice ga gl gc, .slice ba bl bc] 28)).alloc (.cells #[.int .u8 ow, .int .u32 on, .slice oa ol oc] 45)).heap[w.heap.size + 1]? = some (.cells #[.int .u8 ow, .int .u32 on, .slice oa ol oc] 45) := by
        have := heap_alloc_new (w.alloc (.cells #[.int .u32 x, .int .u32 p, .int .u32 v, .int .u32 c, .int .u32 f, .string m, .int .u32 s, .int .u32 u, .int .u32 g, .slice ga gl gc, .slice ba bl bc] 28)) (.cells #[.int .u8 ow, .int .u32 on, .slice oa ol oc] 45)
        simpa using this
      generalize (w.alloc (.cells #[.int .u32 x, .int .u32 p, .int .u32 v, .int .u32 c, .int .u32 f, .string m, .int .u32 s, .int .u32 u, .int .u32 g, .slice ga gl gc, .slice ba bl bc] 28)).alloc (.cells #[.int .u8 ow, .int .u32 on, .slice oa ol oc] 45) = w0 at *
      clear X0
      obtain ⟨d0, d1, d2, _, _, _⟩ := cred_at k0
      refine (alive_any w0).mono ?_
      rintro e w1 ⟨rfl, hb1⟩
      have X1 := Y0.next hb1
      clear Y0 hb1 d0 d1 d2 k0
      obtain ⟨c0, c1, c2, c3, c4, c5, c6, c7, c8, c9, c10⟩ := call_at X1.call
      go_wp2_with fail
      refine (great_no x p v c f m s u g ga gl gc ba bl bc w1 hgr).mono ?_
      rintro e w2 ⟨rfl, hb2⟩
      have X2 := X1.next hb2
      clear X1 hb2 c0 c1 c2 c3 c4 c5 c6 c7 c8 c9 c10
      go_wp2_with fail
      refine (beyond_any [ol] _ 1 _ rfl (by omega) (by intro n hn; simp at hn; omega) (cell_lone w2 3 ol)).mono ?_
      rintro e w' ⟨rfl, rfl⟩
      rw [hbey]
      have X3 := X2.alloc (.cells #[.int .i64 (ol : Int)] 3)
      generalize w2.alloc (.cells #[.int .i64 (ol : Int)] 3) = w3 at *
      clear X2
      go_wp2_with fail
      refine (alive_any _).mono ?_
      rintro e w9 ⟨rfl, hb9⟩
      have X9 := X3.next hb9
      go_wp2
      go_ret
      exact ⟨rfl, X9.below⟩
    have h6' : ¬ (60000 : Int) < ol := by omega
    have hm5 : m.size ≤ 5000 := Nat.le_of_not_lt fun k => hgr (.inl k)
    have hg5 : gl ≤ 1000 := Nat.le_of_not_lt fun k => hgr (.inr (.inl k))
    have hb5 : bl ≤ 200000 := Nat.le_of_not_lt fun k => hgr (.inr (.inr k))
    go_enter Try.func6, Try.ntmps6
    go_wp2_with fail
    have Y0 := X0.alloc (.cells #[.int .u8 ow, .int .u32 on, .slice oa ol oc] 45)
    have k0 : ((w.alloc (.cells #[.int .u32 x, .int .u32 p, .int .u32 v, .int .u32 c, .int .u32 f, .string m, .int .u32 s, .int .u32 u, .int .u32 g, .slice ga gl gc, .slice ba bl bc] 28)).alloc (.cells #[.int .u8 ow, .int .u32 on, .slice oa ol oc] 45)).heap[w.heap.size + 1]? = some (.cells #[.int .u8 ow, .int .u32 on, .slice oa ol oc] 45) := by
      have := heap_alloc_new (w.alloc (.cells #[.int .u32 x, .int .u32 p, .int .u32 v, .int .u32 c, .int .u32 f, .string m, .int .u32 s, .int .u32 u, .int .u32 g, .slice ga gl gc, .slice ba bl bc] 28)) (.cells #[.int .u8 ow, .int .u32 on, .slice oa ol oc] 45)
      simpa using this
    generalize (w.alloc (.cells #[.int .u32 x, .int .u32 p, .int .u32 v, .int .u32 c, .int .u32 f, .string m, .int .u32 s, .int .u32 u, .int .u32 g, .slice ga gl gc, .slice ba bl bc] 28)).alloc (.cells #[.int .u8 ow, .int .u32 on, .slice oa ol oc] 45) = w0 at *
    clear X0
    obtain ⟨d0, d1, d2, _, _, _⟩ := cred_at k0
    refine (alive_any w0).mono ?_
    rintro e w1 ⟨rfl, hb1⟩
    have X1 := Y0.next hb1
    clear Y0 hb1 d0 d1 d2 k0
    obtain ⟨c0, c1, c2, c3, c4, c5, c6, c7, c8, c9, c10⟩ := call_at X1.call
    go_wp2_with fail
    refine (great_no x p v c f m s u g ga gl gc ba bl bc w1 hgr).mono ?_
    rintro e w2 ⟨rfl, hb2⟩
    have X2 := X1.next hb2
    clear X1 hb2 c0 c1 c2 c3 c4 c5 c6 c7 c8 c9 c10
    go_wp2_with fail
    refine (beyond_any [ol] _ 1 _ rfl (by omega) (by intro n hn; simp at hn; omega) (cell_lone w2 3 ol)).mono ?_
    rintro e w' ⟨rfl, rfl⟩
    rw [hbey]
    have X3 := X2.alloc (.cells #[.int .i64 (ol : Int)] 3)
    generalize w2.alloc (.cells #[.int .i64 (ol : Int)] 3) = w3 at *
    clear X2
    clear hgr
    obtain ⟨c0, c1, c2, c3, c4, c5, c6, c7, c8, c9, c10⟩ := call_at X3.call
    go_wp2_with fail
    refine (clput_any x p v c f m s u g ga gl gc ba bl bc gs bs w3 (h.below X3.below)).mono ?_
    rintro e w4 ⟨hb4, ⟨_, rfl⟩ | ⟨_, _, rfl⟩ | ⟨hmay, hsm, vb, rfl, ob⟩⟩
    · have X4 := X3.next hb4
      go_wp2
      go_ret
      exact ⟨rfl, X4.below⟩
    · have X4 := X3.next hb4
      go_wp2
      go_ret
      exact ⟨rfl, X4.below⟩
    have X4 := X3.next hb4
    clear X3 hb4 c0 c1 c2 c3 c4 c5 c6 c7 c8 c9 c10
    have hzl : 28 ≤ (callZ x p v c f s m u g gs bs).length := by rw [callZ, callB_length]; omega
    have hcut : ∃ t, callZ x p v c f s m u g gs bs = numsB [x, 0, 2, p, v, c, f] ++ t := ⟨_, rfl⟩
    have hbz : Byt (callZ x p v c f s m u g gs bs) := (byt_numsB _).append ((byt_op (byt_who h hmay)).append ((byt_numsB _).append h.bb))
    have hB4 := X4.below
    obtain ⟨ab, kb, rfl, sb, hlb, hkb, hnb⟩ := own_val ob rfl
    clear ob X4
    generalize callZ x p v c f s m u g gs bs = Z at *
    generalize hZl : Z.length = zl at *
    have hmod : ow % 3 = 0 ∨ ow % 3 = 1 ∨ ow % 3 = 2 := by omega
    rcases hmod with hk | hk | hk
    · by_cases hn : on = 0
      · have hB5 := hB4.alloc hB4.size (.cells #[.int .i64 4, .int .i64 8, .int .i64 24] 3)
        go_wp2
        go_ret
        exact ⟨rfl, hB5⟩
      · have hne : (on == 0) = false := by simpa using hn
        have HF : Hid (clE (Z.take 4 ++ (bytesOf on 4 ++ oz)) = 5) := by
          obtain ⟨t, ht⟩ := hcut
          rw [ht]
          exact cl_fixed h.num h.hf hon t oz 0 (by omega) (by omega)
        have hb5 : Below w4.heap.size w4 (w4.alloc (.cells #[.int .i64 4, .int .i64 8, .int .i64 24] 3)) := (Below.refl _ _).alloc (Nat.le_refl _) _
        have hl4 : (Z.take 4).length = 4 := by rw [List.length_take]; omega
        have s4 := (sb.take 4).below hb5
        have hzn : ab = none → 4 = 0 ∧ kb = 0 := fun e => by have := hnb e; omega
        have hbt : Byt (Z.take 4) := hbz.take _
        generalize Z.take 4 = Y at *
        have hkb4 : 4 ≤ kb := by omega
        clear hcut hn
        go_wp2_with (at_builtin; refine wpList_append_each _ rfl _ _ 26 rfl w4.heap.size 5 i0 (.int .u8 0) 1 1 Try.underlying26 hi hz0 hz1' hz2 rfl (by decide) (.slice none 0 0) 0 [] rfl (own_empty _ _ _) ab 4 kb (Y.map (Value.int .u8)) rfl hzn (by simp [hl4]) (fun b hb => seg_news (by rw [← hb]; exact s4)) (news_one Y) (by unfold maxLen; omega) (by omega) hb5.size ?_; intro v6 w6 ho6 hg6)
        have P : Px w4 v6 Y w6 := ⟨hb5.grown hg6 hb5.size (by simp [Value.ownBlock]), by rw [hl4]; simpa using ho6⟩
        clear ho6 hg6 hb5 s4
        refine (Put_any on hon.1 (by omega) w6).mono ?_
        rintro e w7 ⟨rfl, hoq, hq⟩
        have ns := seg_own hoq (bytesOf_length _ 4)
        have Q := P.next hq
        have how := Q.own
        rw [hl4] at how
        clear P hq hoq
        go_wp2_with (first | (at_builtin; refine wpList_append_own _ rfl _ _ 26 rfl w4.heap.size 5 i0 (.int .u8 0) 1 1 Try.underlying26 hi hz0 hz1' hz2 rfl (by decide) v6 4 _ rfl how ⟨w6.heap.size, 0, none⟩ 4 4 ((bytesOf on 4).map (Value.int .u8)) rfl (by simp [bytesOf_length]) (seg_news ns) (news_one _) (by unfold maxLen; omega) (by omega) Q.below.size ?_; intro v8 w8 ho8 hg8 hx9; clear hx9; have P8 := Q.app (ys := bytesOf on 4) (n := 4) (by rw [hl4]; exact ho8) (bytesOf_length _ 4) hg8) | (at_builtin; refine wpList_append_each _ rfl _ _ 26 rfl w4.heap.size 5 i0 (.int .u8 0) 1 1 Try.underlying26 hi hz0 hz1' hz2 rfl (by decide) v8 (4 + 4) _ rfl ho8 oa ol oc (oz.map (Value.int .u8)) rfl hoo (by simp [hoz]) (fun b hb => seg_news (by rw [← hb]; exact hos.below (hB4.trans (P8.below.mono hB4.size)))) (news_one oz) (by unfold maxLen; omega) (by omega) P8.below.size ?_; intro v9 w9 ho9 hg9))
        have P9 := P8.app (ys := oz) (n := ol) (by rw [List.length_append, hl4, bytesOf_length, List.map_append]; exact ho9) hoz hg9
        have o9 := P9.own
        have hb9 := P9.below
        have hlen9 : (Y ++ bytesOf on 4 ++ oz).length = 4 + 4 + ol := by rw [List.length_append, List.length_append, hl4, bytesOf_length, hoz]
        rw [hlen9] at o9
        rw [List.append_assoc] at o9 hlen9
        have hby9 : Byt (Y ++ (bytesOf on 4 ++ oz)) := hbt.append ((byt_bytesOf _ 4).append hob)
        generalize Y ++ (bytesOf on 4 ++ oz) = Z9 at *
        generalize 4 + 4 + ol = L9 at *
        obtain ⟨a9, k9, e9, s9, hl9, hm9, hn9⟩ := own_val o9 hlen9
        subst e9
        clear P9 P8 ho9 hg9 ho8 hg8 Q ns how o9
        refine (clget_any a9 L9 k9 Z9 w9 hl9 hm9 hlen9 hby9 s9 hn9).mono ?_
        rintro e wA ⟨hbA, ⟨_, rfl⟩ | ⟨he, _⟩⟩
        case inr => rw [HF.out] at he; exact absurd he (by decide)
        rw [HF.out]
        have hBA := (hB4.trans (hb9.mono hB4.size)).trans (hbA.mono (hB4.trans (hb9.mono hB4.size)).size)
        have hBB := hBA.alloc hBA.size (.cells #[.int .u32 0, .int .u32 0, .int .u32 0, .int .u32 0, .int .u32 0, .string ⟨#[]⟩, .int .u32 0, .int .u32 0, .int .u32 0, .slice none 0 0, .slice none 0 0] 28)
        go_wp2
        go_ret
        exact ⟨rfl, hBB⟩
    · by_cases hn : on = 2
      · have hB5 := hB4.alloc hB4.size (.cells #[.int .i64 4, .int .i64 8, .int .i64 24] 3)
        go_wp2
        go_ret
        exact ⟨rfl, hB5⟩
      · have hne : (on == 2) = false := by simpa using hn
        have HF : Hid (clE (Z.take 8 ++ (bytesOf on 4 ++ oz)) = 5) := by
          obtain ⟨t, ht⟩ := hcut
          rw [ht]
          exact cl_fixed h.num h.hf hon t oz 1 (by omega) (by omega)
        have hb5 : Below w4.heap.size w4 (w4.alloc (.cells #[.int .i64 4, .int .i64 8, .int .i64 24] 3)) := (Below.refl _ _).alloc (Nat.le_refl _) _
        have hl4 : (Z.take 8).length = 8 := by rw [List.length_take]; omega
        have s4 := (sb.take 8).below hb5
        have hzn : ab = none → 8 = 0 ∧ kb = 0 := fun e => by have := hnb e; omega
        have hbt : Byt (Z.take 8) := hbz.take _
        generalize Z.take 8 = Y at *
        have hkb4 : 8 ≤ kb := by omega
        clear hcut hn
        go_wp2_with (at_builtin; refine wpList_append_each _ rfl _ _ 26 rfl w4.heap.size 5 i0 (.int .u8 0) 1 1 Try.underlying26 hi hz0 hz1' hz2 rfl (by decide) (.slice none 0 0) 0 [] rfl (own_empty _ _ _) ab 8 kb (Y.map (Value.int .u8)) rfl hzn (by simp [hl4]) (fun b hb => seg_news (by rw [← hb]; exact s4)) (news_one Y) (by unfold maxLen; omega) (by omega) hb5.size ?_; intro v6 w6 ho6 hg6)
        have P : Px w4 v6 Y w6 := ⟨hb5.grown hg6 hb5.size (by simp [Value.ownBlock]), by rw [hl4]; simpa using ho6⟩
        clear ho6 hg6 hb5 s4
        refine (Put_any on hon.1 (by omega) w6).mono ?_
        rintro e w7 ⟨rfl, hoq, hq⟩
        have ns := seg_own hoq (bytesOf_length _ 4)
        have Q := P.next hq
        have how := Q.own
        rw [hl4] at how
        clear P hq hoq
        go_wp2_with (first | (at_builtin; refine wpList_append_own _ rfl _ _ 26 rfl w4.heap.size 5 i0 (.int .u8 0) 1 1 Try.underlying26 hi hz0 hz1' hz2 rfl (by decide) v6 8 _ rfl how ⟨w6.heap.size, 0, none⟩ 4 4 ((bytesOf on 4).map (Value.int .u8)) rfl (by simp [bytesOf_length]) (seg_news ns) (news_one _) (by unfold maxLen; omega) (by omega) Q.below.size ?_; intro v8 w8 ho8 hg8 hx9; clear hx9; have P8 := Q.app (ys := bytesOf on 4) (n := 4) (by rw [hl4]; exact ho8) (bytesOf_length _ 4) hg8) | (at_builtin; refine wpList_append_each _ rfl _ _ 26 rfl w4.heap.size 5 i0 (.int .u8 0) 1 1 Try.underlying26 hi hz0 hz1' hz2 rfl (by decide) v8 (8 + 4) _ rfl ho8 oa ol oc (oz.map (Value.int .u8)) rfl hoo (by simp [hoz]) (fun b hb => seg_news (by rw [← hb]; exact hos.below (hB4.trans (P8.below.mono hB4.size)))) (news_one oz) (by unfold maxLen; omega) (by omega) P8.below.size ?_; intro v9 w9 ho9 hg9))
        have P9 := P8.app (ys := oz) (n := ol) (by rw [List.length_append, hl4, bytesOf_length, List.map_append]; exact ho9) hoz hg9
        have o9 := P9.own
        have hb9 := P9.below
        have hlen9 : (Y ++ bytesOf on 4 ++ oz).length = 8 + 4 + ol := by rw [List.length_append, List.length_append, hl4, bytesOf_length, hoz]
        rw [hlen9] at o9
        rw [List.append_assoc] at o9 hlen9
        have hby9 : Byt (Y ++ (bytesOf on 4 ++ oz)) := hbt.append ((byt_bytesOf _ 4).append hob)
        generalize Y ++ (bytesOf on 4 ++ oz) = Z9 at *
        generalize 8 + 4 + ol = L9 at *
        obtain ⟨a9, k9, e9, s9, hl9, hm9, hn9⟩ := own_val o9 hlen9
        subst e9
        clear P9 P8 ho9 hg9 ho8 hg8 Q ns how o9
        refine (clget_any a9 L9 k9 Z9 w9 hl9 hm9 hlen9 hby9 s9 hn9).mono ?_
        rintro e wA ⟨hbA, ⟨_, rfl⟩ | ⟨he, _⟩⟩
        case inr => rw [HF.out] at he; exact absurd he (by decide)
        rw [HF.out]
        have hBA := (hB4.trans (hb9.mono hB4.size)).trans (hbA.mono (hB4.trans (hb9.mono hB4.size)).size)
        have hBB := hBA.alloc hBA.size (.cells #[.int .u32 0, .int .u32 0, .int .u32 0, .int .u32 0, .int .u32 0, .string ⟨#[]⟩, .int .u32 0, .int .u32 0, .int .u32 0, .slice none 0 0, .slice none 0 0] 28)
        go_wp2
        go_ret
        exact ⟨rfl, hBB⟩
    · by_cases hn : on ≤ 1
      · have hB5 := hB4.alloc hB4.size (.cells #[.int .i64 4, .int .i64 8, .int .i64 24] 3)
        go_wp2
        go_ret
        exact ⟨rfl, hB5⟩
      · have hne : ¬ on ≤ 1 := hn
        have HF : Hid (clE (Z.take 24 ++ (bytesOf on 4 ++ oz)) = 5) := by
          obtain ⟨t, ht⟩ := hcut
          rw [ht]
          exact cl_fixed h.num h.hf hon t oz 2 (by omega) (by omega)
        have hb5 : Below w4.heap.size w4 (w4.alloc (.cells #[.int .i64 4, .int .i64 8, .int .i64 24] 3)) := (Below.refl _ _).alloc (Nat.le_refl _) _
        have hl4 : (Z.take 24).length = 24 := by rw [List.length_take]; omega
        have s4 := (sb.take 24).below hb5
        have hzn : ab = none → 24 = 0 ∧ kb = 0 := fun e => by have := hnb e; omega
        have hbt : Byt (Z.take 24) := hbz.take _
        generalize Z.take 24 = Y at *
        have hkb4 : 24 ≤ kb := by omega
        clear hcut hn
        go_wp2_with (at_builtin; refine wpList_append_each _ rfl _ _ 26 rfl w4.heap.size 5 i0 (.int .u8 0) 1 1 Try.underlying26 hi hz0 hz1' hz2 rfl (by decide) (.slice none 0 0) 0 [] rfl (own_empty _ _ _) ab 24 kb (Y.map (Value.int .u8)) rfl hzn (by simp [hl4]) (fun b hb => seg_news (by rw [← hb]; exact s4)) (news_one Y) (by unfold maxLen; omega) (by omega) hb5.size ?_; intro v6 w6 ho6 hg6)
        have P : Px w4 v6 Y w6 := ⟨hb5.grown hg6 hb5.size (by simp [Value.ownBlock]), by rw [hl4]; simpa using ho6⟩
        clear ho6 hg6 hb5 s4
        refine (Put_any on hon.1 (by omega) w6).mono ?_
        rintro e w7 ⟨rfl, hoq, hq⟩
        have ns := seg_own hoq (bytesOf_length _ 4)
        have Q := P.next hq
        have how := Q.own
        rw [hl4] at how
        clear P hq hoq
        go_wp2_with (first | (at_builtin; refine wpList_append_own _ rfl _ _ 26 rfl w4.heap.size 5 i0 (.int .u8 0) 1 1 Try.underlying26 hi hz0 hz1' hz2 rfl (by decide) v6 24 _ rfl how ⟨w6.heap.size, 0, none⟩ 4 4 ((bytesOf on 4).map (Value.int .u8)) rfl (by simp [bytesOf_length]) (seg_news ns) (news_one _) (by unfold maxLen; omega) (by omega) Q.below.size ?_; intro v8 w8 ho8 hg8 hx9; clear hx9; have P8 := Q.app (ys := bytesOf on 4) (n := 4) (by rw [hl4]; exact ho8) (bytesOf_length _ 4) hg8) | (at_builtin; refine wpList_append_each _ rfl _ _ 26 rfl w4.heap.size 5 i0 (.int .u8 0) 1 1 Try.underlying26 hi hz0 hz1' hz2 rfl (by decide) v8 (24 + 4) _ rfl ho8 oa ol oc (oz.map (Value.int .u8)) rfl hoo (by simp [hoz]) (fun b hb => seg_news (by rw [← hb]; exact hos.below (hB4.trans (P8.below.mono hB4.size)))) (news_one oz) (by unfold maxLen; omega) (by omega) P8.below.size ?_; intro v9 w9 ho9 hg9))
        have P9 := P8.app (ys := oz) (n := ol) (by rw [List.length_append, hl4, bytesOf_length, List.map_append]; exact ho9) hoz hg9
        have o9 := P9.own
        have hb9 := P9.below
        have hlen9 : (Y ++ bytesOf on 4 ++ oz).length = 24 + 4 + ol := by rw [List.length_append, List.length_append, hl4, bytesOf_length, hoz]
        rw [hlen9] at o9
        rw [List.append_assoc] at o9 hlen9
        have hby9 : Byt (Y ++ (bytesOf on 4 ++ oz)) := hbt.append ((byt_bytesOf _ 4).append hob)
        generalize Y ++ (bytesOf on 4 ++ oz) = Z9 at *
        generalize 24 + 4 + ol = L9 at *
        obtain ⟨a9, k9, e9, s9, hl9, hm9, hn9⟩ := own_val o9 hlen9
        subst e9
        clear P9 P8 ho9 hg9 ho8 hg8 Q ns how o9
        refine (clget_any a9 L9 k9 Z9 w9 hl9 hm9 hlen9 hby9 s9 hn9).mono ?_
        rintro e wA ⟨hbA, ⟨_, rfl⟩ | ⟨he, _⟩⟩
        case inr => rw [HF.out] at he; exact absurd he (by decide)
        rw [HF.out]
        have hBA := (hB4.trans (hb9.mono hB4.size)).trans (hbA.mono (hB4.trans (hb9.mono hB4.size)).size)
        have hBB := hBA.alloc hBA.size (.cells #[.int .u32 0, .int .u32 0, .int .u32 0, .int .u32 0, .int .u32 0, .string ⟨#[]⟩, .int .u32 0, .int .u32 0, .int .u32 0, .slice none 0 0, .slice none 0 0] 28)
        go_wp2
        go_ret
        exact ⟨rfl, hBB⟩
end Go.Proofs.Ytciinabhelfnoaa
