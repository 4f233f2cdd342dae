/- The law CallsBack: the walk. -/
import Derived.Test.YtciinabhelfnoaaAliveClM
import Derived.Test.YtciinabhelfnoaaCallCxM
import Derived.Test.YtciinabhelfnoaaSameClM
import Derived.Test.YtciinabhelfnoaaCallMath2M
import Derived.Test.YtciinabhelfnoaaPxKitAppendEachM
import Derived.Test.YtciinabhelfnoaaOwnVal4
import Derived.Test.YtciinabhelfnoaaBeyonds
namespace Go.Proofs.Ytciinabhelfnoaa
set_option linter.unusedVariables false
open Go.RowKit

theorem byt_who {x p v c f : Int} {m : ByteArray} {s u g : Int} {ga : Option Addr} {gl gc : Nat} {ba : Option Addr} {bl bc : Nat} {gs bs : List Int} {w : World} (h : CallOk x p v c f m s u g ga gl gc ba bl bc gs bs w) (hm : MayWho f m s u g gl) : Byt (whoB f s (tz m) u g gs) := by
  unfold whoB
  split
  · exact fun i => by simp
  · exact byt_credB _ (tz_byt m) _ _ _

/-- What is got of a call that was put. -/
structure Got (x p v c f : Int) (m : ByteArray) (s u g : Int) (gs bs Z : List Int) : Prop where
  e : clE Z = 0
  x : clX Z = x
  p : clP Z = p
  v : clV Z = v
  c : clC Z = c
  f : clF Z = f
  m : strOfNums (clM Z) = m
  s : clS Z = s
  u : clU Z = u
  g : clG Z = g
  l : clL Z = gs
  b : clB Z = bs

theorem got_put {x p v c f : Int} {m : ByteArray} {s u g : Int} {ga : Option Addr} {gl gc : Nat} {ba : Option Addr} {bl bc : Nat} {gs bs : List Int} {w : World} (h : CallOk x p v c f m s u g ga gl gc ba bl bc gs bs w) (hm : MayWho f m s u g gl) (body : List Int) (hl : (callZ x p v c f s m u g gs body).length ≤ 65536) : Got x p v c f m s u g gs body (callZ x p v c f s m u g gs body) := by
  obtain ⟨q0, q1, q2, q3, q4, q5, q6, q7⟩ := cl_put h.num (h.who hm) body
  obtain ⟨r1, r2, r3, r4, r5⟩ := fields_got (h.who hm) q5 q6
  exact ⟨q0.trans (if_neg (by simpa [callZ] using Nat.not_lt.2 hl)), q1, q2, q3, q4, q5, by rw [show clM (callZ x p v c f s m u g gs body) = tz m from r2, str_tz], r1, r3, r4, r5, q7⟩

theorem own_seg {w : World} {base e n c : Nat} {a : Option Addr} {zs : List Int} (h : w.ownsRow base e 1 (.slice a n c) n (zs.map (Value.int .u8))) (hz : zs.length = n) : Seg w a zs := by
  obtain ⟨a', c', e, s, _⟩ := own_val h hz
  injection e with e1
  rw [e1]
  exact s
theorem own_seg4 {w : World} {base e n c : Nat} {a : Option Addr} {zs : List Int} (h : w.ownsRow base e 1 (.slice a n c) n (zs.map (Value.int .u32))) (hz : zs.length = n) : Seg4 w a zs := by
  obtain ⟨a', c', e, s, _⟩ := own_val4 h hz
  injection e with e1
  rw [e1]
  exact s

set_option maxRecDepth 100000 in
set_option maxHeartbeats 4000000 in
theorem clback_walk (x p v c f : Int) (m : ByteArray) (s u g : Int) (ga : Option Addr) (gl gc : Nat) (ba : Option Addr) (bl bc : Nat) (gs bs : List Int) (w : World) (h : CallOk x p v c f m s u g ga gl gc ba bl bc gs bs w) (oa : Option Addr) (ol oc : Nat) (oz : List Int) (hol : ol ≤ oc) (hom : oc ≤ 140737488351232) (hoz : oz.length = ol) (hob : Byt oz) (hos : Seg w oa oz) (hoo : oa = none → ol = 0 ∧ oc = 0) :
    Calls Try.prog 3 #[.agg #[.int .u32 x, .int .u32 p, .int .u32 v, .int .u32 c, .int .u32 f, .string m, .int .u32 s, .int .u32 u, .int .u32 g, .slice ga gl gc, .slice ba bl bc], .slice oa ol oc] w fun e w' => e = .returned (.bool true) ∧ Below w.heap.size w w' := by
  obtain ⟨i0, hi, hz0, hz1', hz2⟩ := info_parts infoB
  have X0 := Cx.start w x p v c f m s u g ga gl gc ba bl bc
  have hol' : ol ≤ 140737488351232 := by omega
  by_cases hgr : isGreat m gl bl
  · go_enter Try.func3, Try.ntmps3
    go_wp2_with fail
    generalize w.alloc (.cells #[.int .u32 x, .int .u32 p, .int .u32 v, .int .u32 c, .int .u32 f, .string m, .int .u32 s, .int .u32 u, .int .u32 g, .slice ga gl gc, .slice ba bl bc] 28) = w0 at *
    refine (alive_any w0).mono ?_
    rintro e w1 ⟨rfl, hb1⟩
    have X1 := X0.next hb1
    clear X0 hb1
    obtain ⟨c0, c1, c2, c3, c4, c5, c6, c7, c8, c9, c10⟩ := call_at X1.call
    go_wp2_with fail
    refine (great_yes x p v c f m s u g ga gl gc ba bl bc w1 h.hm h.gcm h.bcm hgr).mono ?_
    rintro e w2 ⟨rfl, hb2⟩
    have X2 := X1.next hb2
    clear X1 hb2 c0 c1 c2 c3 c4 c5 c6 c7 c8 c9 c10
    go_wp2_with fail
    refine (alive_any _).mono ?_
    rintro e w9 ⟨rfl, hb9⟩
    have X9 := X2.next hb9
    go_wp2
    go_ret
    exact ⟨rfl, X9.below⟩
  cases hbey : beyond 0 [ol] with
  | true =>
    go_enter Try.func3, Try.ntmps3
    go_wp2_with fail
    generalize w.alloc (.cells #[.int .u32 x, .int .u32 p, .int .u32 v, .int .u32 c, .int .u32 f, .string m, .int .u32 s, .int .u32 u, .int .u32 g, .slice ga gl gc, .slice ba bl bc] 28) = w0 at *
    refine (alive_any w0).mono ?_
    rintro e w1 ⟨rfl, hb1⟩
    have X1 := X0.next hb1
    clear X0 hb1
    obtain ⟨c0, c1, c2, c3, c4, c5, c6, c7, c8, c9, c10⟩ := call_at X1.call
    go_wp2_with fail
    refine (great_no x p v c f m s u g ga gl gc ba bl bc w1 hgr).mono ?_
    rintro e w2 ⟨rfl, hb2⟩
    have X2 := X1.next hb2
    clear X1 hb2 c0 c1 c2 c3 c4 c5 c6 c7 c8 c9 c10
    go_wp2_with fail
    refine (beyond_any [ol] _ 1 _ rfl (by omega) (by intro n hn; simp at hn; omega) (cell_lone w2 3 ol)).mono ?_
    rintro e w' ⟨rfl, rfl⟩
    rw [hbey]
    have X3 := X2.alloc (.cells #[.int .i64 (ol : Int)] 3)
    generalize w2.alloc (.cells #[.int .i64 (ol : Int)] 3) = w3 at *
    clear X2
    go_wp2_with fail
    refine (alive_any _).mono ?_
    rintro e w9 ⟨rfl, hb9⟩
    have X9 := X3.next hb9
    go_wp2
    go_ret
    exact ⟨rfl, X9.below⟩
  | false =>
    have hl1 := beyond_le hbey (n := ol) (by simp)
    have hm5 : m.size ≤ 5000 := Nat.le_of_not_lt fun k => hgr (.inl k)
    have hg5 : gl ≤ 1000 := Nat.le_of_not_lt fun k => hgr (.inr (.inl k))
    have hb5 : bl ≤ 200000 := Nat.le_of_not_lt fun k => hgr (.inr (.inr k))
    go_enter Try.func3, Try.ntmps3
    go_wp2_with fail
    generalize w.alloc (.cells #[.int .u32 x, .int .u32 p, .int .u32 v, .int .u32 c, .int .u32 f, .string m, .int .u32 s, .int .u32 u, .int .u32 g, .slice ga gl gc, .slice ba bl bc] 28) = w0 at *
    refine (alive_any w0).mono ?_
    rintro e w1 ⟨rfl, hb1⟩
    have X1 := X0.next hb1
    clear X0 hb1
    obtain ⟨c0, c1, c2, c3, c4, c5, c6, c7, c8, c9, c10⟩ := call_at X1.call
    go_wp2_with fail
    refine (great_no x p v c f m s u g ga gl gc ba bl bc w1 hgr).mono ?_
    rintro e w2 ⟨rfl, hb2⟩
    have X2 := X1.next hb2
    clear X1 hb2 c0 c1 c2 c3 c4 c5 c6 c7 c8 c9 c10
    go_wp2_with fail
    refine (beyond_any [ol] _ 1 _ rfl (by omega) (by intro n hn; simp at hn; omega) (cell_lone w2 3 ol)).mono ?_
    rintro e w' ⟨rfl, rfl⟩
    rw [hbey]
    have X3 := X2.alloc (.cells #[.int .i64 (ol : Int)] 3)
    generalize w2.alloc (.cells #[.int .i64 (ol : Int)] 3) = w3 at *
    clear X2
    clear hgr hbey
    obtain ⟨c0, c1, c2, c3, c4, c5, c6, c7, c8, c9, c10⟩ := call_at X3.call
    go_wp2_with fail
    refine (clput_any x p v c f m s u g ga gl gc ba bl bc gs bs w3 (h.below X3.below)).mono ?_
    rintro e w4 ⟨hb4, ⟨_, rfl⟩ | ⟨_, _, rfl⟩ | ⟨hmay, hsm, vb, rfl, ob⟩⟩
    · have X4 := X3.next hb4
      go_wp2
      go_ret
      exact ⟨rfl, X4.below⟩
    · have X4 := X3.next hb4
      go_wp2
      go_ret
      exact ⟨rfl, X4.below⟩
    have X4 := X3.next hb4
    have hb34 := hb4
    clear hb4 c0 c1 c2 c3 c4 c5 c6 c7 c8 c9 c10
    have hG := got_put h hmay bs hsm
    have hmore : callZ x p v c f s m u g gs bs ++ oz = callZ x p v c f s m u g gs (bs ++ oz) := callB_more _ _ _ _ _ _ _ _
    have hG2 : (callZ x p v c f s m u g gs bs ++ oz).length ≤ 65536 → Got x p v c f m s u g gs (bs ++ oz) (callZ x p v c f s m u g gs bs ++ oz) := fun hl => by
      rw [hmore] at hl ⊢
      exact got_put h hmay _ hl
    have hbz : Byt (callZ x p v c f s m u g gs bs) := (byt_numsB _).append ((byt_op (byt_who h hmay)).append ((byt_numsB _).append h.bb))
    have hzl := callB_length x p v c f (whoB f s (tz m) u g gs) bs
    have hwl := (who_len (h.who hmay)).1
    have hpad := padN_lt (whoB f s (tz m) u g gs).length
    have hshort := fun k hk => cl_short h.num (h.who hmay) bs k hk
    rw [show callB x p v c f (whoB f s (tz m) u g gs) bs = callZ x p v c f s m u g gs bs from rfl] at hshort hzl
    obtain ⟨N, hN⟩ : ∃ N, N = 28 + (4 + ((whoB f s (tz m) u g gs).length + padN (whoB f s (tz m) u g gs).length)) + 8 := ⟨_, rfl⟩
    rw [← hN, h.bz] at hzl
    rw [← hN] at hshort
    have hN1 : 40 ≤ N := by omega
    have hN2 : N ≤ 500 := by omega
    clear hmore hN hwl hpad
    obtain ⟨gb, kb, rfl, hlb, hkb, hgb⟩ := own_shape ob (by omega)
    generalize callZ x p v c f s m u g gs bs = Z at *
    generalize hZl : Z.length = zl at *
    subst hzl
    obtain ⟨_, _, _, _, _, _, _, _, _, _, c10⟩ := call_at X4.call
    go_wp2_with fail
    clear c10
    generalize hzN : N + bl = zl at *
    have HzN : Hid (N + bl = zl) := hzN
    have hNz : N ≤ zl := by omega
    clear hzN
    have sZ := seg_own ob hZl
    go_loopw [8] (fun i wr => ∃ k : Nat, k ≤ N ∧ i = .int .i64 k ∧ Below w4.heap.size w4 wr) (fun i _ => N - (intOf i).toNat)
    case atStart => exact ⟨0, by omega, rfl, Below.refl _ _⟩
    case round =>
      obtain ⟨k, hk, rfl, hbr⟩ := hrel
      by_cases hlt : k < N
      · have hE := hshort k hlt
        have hlk : (Z.take k).length = k := by rw [List.length_take]; omega
        have sk := (sZ.take k).below hbr
        have hbk : Byt (Z.take k) := hbz.take k
        have hkl : k ≤ zl := by omega
        generalize Z.take k = Y at *
        clear hG hG2 hshort ob sZ
        go_wp2_with fail
        refine (clget_any (some ⟨gb, 0, none⟩) k kb Y wr (by omega) hkb hlk hbk sk (fun e => by cases e)).mono ?_
        rintro e w5 ⟨hb5', ⟨_, rfl⟩ | ⟨he, _⟩⟩
        case inr => rw [hE] at he; exact absurd he (by decide)
        rw [hE]
        have hbr5 := hbr.trans (hb5'.mono hbr.size)
        have hbr6 := hbr5.alloc hbr5.size (.cells #[.int .u32 0, .int .u32 0, .int .u32 0, .int .u32 0, .int .u32 0, .string ⟨#[]⟩, .int .u32 0, .int .u32 0, .int .u32 0, .slice none 0 0, .slice none 0 0] 28)
        clear hE hbr hb5' sk
        go_wp2_with fail
        go_roundw
        case rel => exact ⟨k + 1, by omega, by go_num, hbr6⟩
        case measure => simp [intOf]; omega
      · obtain rfl : k = N := by omega
        clear hshort hlt hk
        have X5 := X4.next hbr
        have sW := sZ.below hbr
        have hb4r := hbr
        go_wp2_with fail
        refine (clget_any (some ⟨gb, 0, none⟩) zl kb Z wr hlb hkb hZl hbz sW (fun e => by cases e)).mono ?_
        rintro e w6 ⟨hb6, ⟨hne, _⟩ | ⟨_, g1, k1, b1, k2, rfl, og, od⟩⟩
        · exact absurd hG.e hne
        rw [hG.x, hG.p, hG.v, hG.c, hG.f, hG.m, hG.s, hG.u, hG.g, hG.l, hG.b, h.gz, h.bz]
        rw [hG.l, h.gz] at og
        rw [hG.b, h.bz] at od
        obtain ⟨_, _, e1, sg1, _, _, _⟩ := own_val4 og h.gz
        obtain ⟨_, _, e2, sb1, _, _, _⟩ := own_val od h.bz
        injection e1 with e11 _ e12
        injection e2 with e21 _ e22
        subst e11 e12 e21 e22
        have X6 := X5.next hb6
        have hb46 := hb4r.trans (hb6.mono hb4r.size)
        clear X5 hb6 og od hG sW sZ hb4r
        have hc6 : (w6.alloc (.cells #[.int .u32 x, .int .u32 p, .int .u32 v, .int .u32 c, .int .u32 f, .string m, .int .u32 s, .int .u32 u, .int .u32 g, .slice g1 gl k1, .slice b1 bl k2] 28)).heap[w6.heap.size]? = some (.cells #[.int .u32 x, .int .u32 p, .int .u32 v, .int .u32 c, .int .u32 f, .string m, .int .u32 s, .int .u32 u, .int .u32 g, .slice g1 gl k1, .slice b1 bl k2] 28) := heap_alloc_new w6 _
        have X7 := X6.alloc (.cells #[.int .u32 x, .int .u32 p, .int .u32 v, .int .u32 c, .int .u32 f, .string m, .int .u32 s, .int .u32 u, .int .u32 g, .slice g1 gl k1, .slice b1 bl k2] 28)
        have hb67 : Below w6.heap.size w6 (w6.alloc (.cells #[.int .u32 x, .int .u32 p, .int .u32 v, .int .u32 c, .int .u32 f, .string m, .int .u32 s, .int .u32 u, .int .u32 g, .slice g1 gl k1, .slice b1 bl k2] 28)) := (Below.refl _ _).alloc (Nat.le_refl _) _
        obtain ⟨c0, c1, c2, c3, c4, c5, c6, c7, c8, c9, c10⟩ := call_at X7.call
        go_wp2_with fail
        have sg7 := sg1.below hb67
        have sb7 := sb1.below hb67
        have hb47 := hb46.trans (hb67.mono hb46.size)
        clear hb67 c0 c1 c2 c3 c4 c5 c6 c7 c8 c9 c10 X6 hb46 sg1 sb1
        generalize w6.alloc (.cells #[.int .u32 x, .int .u32 p, .int .u32 v, .int .u32 c, .int .u32 f, .string m, .int .u32 s, .int .u32 u, .int .u32 g, .slice g1 gl k1, .slice b1 bl k2] 28) = w7 at *
        generalize w6.heap.size = H6 at *
        refine (samecall_true x p v c f m s u g g1 ga gl k1 gc b1 ba bl k2 bc gs bs w7 (by omega) h.gz sg7 (h.gseg.below X7.below) (by omega) h.bz sb7 (h.bseg.below X7.below)).mono ?_
        rintro e w8 ⟨rfl, hb8⟩
        have X8 := X7.next hb8
        replace hc6 := (hb8.block _ (Array.getElem?_eq_some_iff.1 hc6).1).trans hc6
        replace sg7 := sg7.below hb8
        replace sb7 := sb7.below hb8
        have hb48 := hb47.trans (hb8.mono hb47.size)
        clear X7 hb8 hb47
        by_cases hbig : 65536 < zl + ol
        · have hbg : (65536 : Int) < (zl : Int) + ol := by omega
          obtain ⟨c0, c1, c2, c3, c4, c5, c6, c7, c8, c9, c10⟩ := call_at X8.call
          obtain ⟨d0, d1, d2, d3, d4, d5, d6, d7, d8, d9, d10⟩ := call_at hc6
          clear hG2
          go_wp2_with fail
          refine (samecall_true x p v c f m s u g g1 ga gl k1 gc b1 ba bl k2 bc gs bs w8 (by omega) h.gz sg7 (h.gseg.below X8.below) (by omega) h.bz sb7 (h.bseg.below X8.below)).mono ?_
          rintro e w9 ⟨rfl, hb9⟩
          have X9 := X8.next hb9
          clear c0 c1 c2 c3 c4 c5 c6 c7 c8 c9 c10 d0 d1 d2 d3 d4 d5 d6 d7 d8 d9 d10
          go_wp2
          go_ret
          exact ⟨rfl, X9.below⟩
        · have hbg : ¬ (65536 : Int) < (zl : Int) + ol := by omega
          have hlen : (Z ++ oz).length = zl + ol := by rw [List.length_append, hZl, hoz]
          have hG3 := hG2 (by omega)
          have hb38 := hb34.trans (hb48.mono hb34.size)
          have ob8 := own_below ob hb48
          have P : Px w3 (.slice (some ⟨gb, 0, none⟩) zl kb) Z w8 := ⟨hb38, by rw [hZl]; exact ob8⟩
          have hos8 := hos.below X8.below
          clear sg7 sb7 hc6 hG2 hb48
          go_wp2_with (at_builtin; refine wpList_append_each _ rfl _ _ 26 rfl w3.heap.size 5 i0 (.int .u8 0) 1 1 Try.underlying26 hi hz0 hz1' hz2 rfl (by decide) (.slice (some ⟨gb, 0, none⟩) zl kb) zl _ rfl ob8 oa ol oc (oz.map (Value.int .u8)) rfl hoo (by simp [hoz]) (fun b hb => seg_news (by rw [← hb]; exact hos8)) (news_one oz) (by unfold maxLen; omega) (by omega) hb38.size ?_; intro v9 w9 ho9 hg9)
          have P9 := P.app (ys := oz) (n := ol) (by rw [hZl]; exact ho9) hoz hg9
          have o9 := P9.own
          have X9 := X3.next P9.below
          rw [hlen] at o9
          have hby9 : Byt (Z ++ oz) := hbz.append hob
          clear P P9 ho9 hg9 ob8 ob hb38 hos8 X8 hbg
          generalize Z ++ oz = Z9 at *
          generalize hL : zl + ol = L9 at *
          have HL : Hid (zl + ol = L9) := hL
          clear hL
          obtain ⟨a9, k9, e9, s9, hl9, hm9, hn9⟩ := own_val o9 hlen
          subst e9
          clear o9
          refine (clget_any a9 L9 k9 Z9 w9 hl9 hm9 hlen hby9 s9 hn9).mono ?_
          rintro e wA ⟨hbA, ⟨hne, _⟩ | ⟨_, g3, k3, b3, k4, rfl, og, od⟩⟩
          · exact absurd hG3.e hne
          have hbl2 : (bs ++ oz).length = bl + ol := by rw [List.length_append, h.bz, hoz]
          rw [hG3.x, hG3.p, hG3.v, hG3.c, hG3.f, hG3.m, hG3.s, hG3.u, hG3.g, hG3.l, hG3.b, h.gz, hbl2]
          rw [hG3.l, h.gz] at og
          rw [hG3.b, hbl2] at od
          obtain ⟨_, _, e1, sg3, _, _, _⟩ := own_val4 og h.gz
          obtain ⟨_, _, e2, sb3, _, _, _⟩ := own_val od hbl2
          injection e1 with e11 _ e12
          injection e2 with e21 _ e22
          subst e11 e12 e21 e22
          have XA := X9.next hbA
          have hlt9 : w.heap.size < w9.heap.size := (Array.getElem?_eq_some_iff.1 X9.call).1
          clear hbA X9 hG3 s9
          have hcB : (wA.alloc (.cells #[.int .u32 x, .int .u32 p, .int .u32 v, .int .u32 c, .int .u32 f, .string m, .int .u32 s, .int .u32 u, .int .u32 g, .slice g3 gl k3, .slice b3 (bl + ol) k4] 28)).heap[wA.heap.size]? = some (.cells #[.int .u32 x, .int .u32 p, .int .u32 v, .int .u32 c, .int .u32 f, .string m, .int .u32 s, .int .u32 u, .int .u32 g, .slice g3 gl k3, .slice b3 (bl + ol) k4] 28) := heap_alloc_new wA _
          have XB := XA.alloc (.cells #[.int .u32 x, .int .u32 p, .int .u32 v, .int .u32 c, .int .u32 f, .string m, .int .u32 s, .int .u32 u, .int .u32 g, .slice g3 gl k3, .slice b3 (bl + ol) k4] 28)
          have hbAB : Below wA.heap.size wA (wA.alloc (.cells #[.int .u32 x, .int .u32 p, .int .u32 v, .int .u32 c, .int .u32 f, .string m, .int .u32 s, .int .u32 u, .int .u32 g, .slice g3 gl k3, .slice b3 (bl + ol) k4] 28)) := (Below.refl _ _).alloc (Nat.le_refl _) _
          obtain ⟨c0, c1, c2, c3, c4, c5, c6, c7, c8, c9, c10⟩ := call_at XB.call
          have fz := fun k => frozen_at (k := k) XB.call
          have hbsB := h.bseg.below XB.below
          have hosB := hos.below XB.below
          have hbz' := h.bz
          have hbn' := h.bnil
          have hsB : (wA.alloc (.cells #[.int .u32 x, .int .u32 p, .int .u32 v, .int .u32 c, .int .u32 f, .string m, .int .u32 s, .int .u32 u, .int .u32 g, .slice g3 gl k3, .slice b3 (bl + ol) k4] 28)).heap.size = wA.heap.size + 1 := by simp
          have hbBB := Below.refl (wA.heap.size + 1) (wA.alloc (.cells #[.int .u32 x, .int .u32 p, .int .u32 v, .int .u32 c, .int .u32 f, .string m, .int .u32 s, .int .u32 u, .int .u32 g, .slice g3 gl k3, .slice b3 (bl + ol) k4] 28))
          go_wp2_with (first | (at_builtin; refine wpList_append_each _ rfl _ _ 26 rfl (wA.heap.size + 1) 5 i0 (.int .u8 0) 1 1 Try.underlying26 hi hz0 hz1' hz2 rfl (by decide) (.slice none 0 0) 0 [] rfl (own_empty _ _ _) ba bl bc (bs.map (Value.int .u8)) rfl hbn' (by simp [hbz']) (fun b hb => seg_news (by rw [← hb]; exact hbsB)) (news_one bs) (by unfold maxLen; omega) (by omega) (Nat.le_of_eq hsB.symm) ?_; intro vC wC hoC hgC; have hbAC := hbBB.grown hgC (Nat.le_of_eq hsB.symm) (by simp [Value.ownBlock]); have hoC' : wC.ownsRow (wA.heap.size + 1) 5 1 vC bl (bs.map (Value.int .u8)) := (by rw [Nat.zero_add, List.nil_append] at hoC; exact hoC); clear c0 c1 c2 c3 c4 c5 c6 c7 c8 c9 c10 fz) | (at_builtin; refine wpList_append_each _ rfl _ _ 26 rfl (wA.heap.size + 1) 5 i0 (.int .u8 0) 1 1 Try.underlying26 hi hz0 hz1' hz2 rfl (by decide) vC bl _ rfl hoC' oa ol oc (oz.map (Value.int .u8)) rfl hoo (by simp [hoz]) (fun b hb => seg_news (by rw [← hb]; exact hos.below (XB.next (by rw [hsB]; exact hbAC)).below)) (news_one oz) (by unfold maxLen; omega) (by omega) (by have := hbAC.size; omega) ?_; intro vD wD hoD hgD; have hbAD := hbAC.grown hgD (by have := hbAC.size; omega) (fun k e => own_low hoC' e); obtain ⟨aD, kD, eD, sD, _, _, _⟩ := own_val (zs := bs ++ oz) (by rw [List.map_append]; exact hoD) hbl2; subst eD; have XD := XB.next (by rw [hsB]; exact hbAD); have hcBD := (hbAD.block wA.heap.size (by omega)).trans hcB; have hcBE : (wD.setCell ⟨w.heap.size, 10, none⟩ (.slice aD (bl + ol) kD)).heap[wA.heap.size]? = some (.cells #[.int .u32 x, .int .u32 p, .int .u32 v, .int .u32 c, .int .u32 f, .string m, .int .u32 s, .int .u32 u, .int .u32 g, .slice g3 gl k3, .slice b3 (bl + ol) k4] 28) := (Below.heap_setCell wD ⟨w.heap.size, 10, none⟩ _ wA.heap.size (by have := (Array.getElem?_eq_some_iff.1 XA.call).1; simp; omega)).trans hcBD; obtain ⟨m0, m1, m2, m3, m4, m5, m6, m7, m8, m9, m10⟩ := call_at hcBE; have hlA : w.heap.size < wA.heap.size := (Array.getElem?_eq_some_iff.1 XA.call).1; have fz := fun k => frozen_at (k := k) XD.call; obtain ⟨_, _, _, _, _, _, _, _, _, _, c10⟩ := call_at XD.call; have hcD := (setCell_same (k := 10) XD.call (.slice aD (bl + ol) kD)); have hcD' : (wD.setCell ⟨w.heap.size, 10, none⟩ (.slice aD (bl + ol) kD)).heap[w.heap.size]? = some (.cells #[.int .u32 x, .int .u32 p, .int .u32 v, .int .u32 c, .int .u32 f, .string m, .int .u32 s, .int .u32 u, .int .u32 g, .slice ga gl gc, .slice aD (bl + ol) kD] 28) := hcD; obtain ⟨n0, n1, n2, n3, n4, n5, n6, n7, n8, n9, n10⟩ := call_at hcD'))
          have hk := kept_one (W := wD) (h := w.heap.size) (k := 10) (.slice aD (bl + ol) kD)
          have ogE := own_seg4 (bo hk (own_below (own_below og hbAB) (by rw [hsB]; exact hbAD)) hlt9) h.gz
          have odE := own_seg (bo hk (own_below (own_below od hbAB) (by rw [hsB]; exact hbAD)) hlt9) hbl2
          have oaE := own_seg (zs := bs ++ oz) (bo hk (by rw [List.map_append]; exact hoD) (by omega)) hbl2
          have hBE : Below w.heap.size w (wD.setCell ⟨w.heap.size, 10, none⟩ (.slice aD (bl + ol) kD)) := XD.below.setCell (Nat.le_refl _) _
          refine (samecall_true x p v c f m s u g g3 ga gl k3 gc b3 aD (bl + ol) k4 kD gs (bs ++ oz) _ (by omega) h.gz ogE (h.gseg.below hBE) (by omega) hbl2 odE oaE).mono ?_
          rintro e wF ⟨rfl, hbF⟩
          have hBF := hBE.trans (hbF.mono hBE.size)
          clear m0 m1 m2 m3 m4 m5 m6 m7 m8 m9 m10 n0 n1 n2 n3 n4 n5 n6 n7 n8 n9 n10 c10
          go_wp2
          go_ret
          exact ⟨rfl, hBF⟩
end Go.Proofs.Ytciinabhelfnoaa
