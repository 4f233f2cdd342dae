/- The law CallsParts: the walk. -/
import Derived.Test.YtciinabhelfnoaaAliveClM
import Derived.Test.YtciinabhelfnoaaCallCxM
import Derived.Test.YtciinabhelfnoaaPxKitAppendEachM
import Derived.Test.YtciinabhelfnoaaOwnVal4
namespace Go.Proofs.Ytciinabhelfnoaa
set_option linter.unusedVariables false
open Go.RowKit

theorem numsB_snoc (ls : List Int) (k : Nat) (h : k < ls.length) : numsB (ls.take (k + 1)) = numsB (ls.take k) ++ bytesOf (ls[k]?.getD 0) 4 := by
  rw [List.take_succ_eq_append_getElem h, numsB_append, numsB_one, List.getElem?_eq_getElem h, Option.getD_some]

theorem seg4_cell {w : World} {g : Nat} {zs : List Int} (h : Seg4 w (some ⟨g, 0, none⟩) zs) (k : Nat) (hk : k < zs.length) : w.cell? ⟨g, k, none⟩ = some (.int .u32 (zs[k]?.getD 0)) := by
  rcases h with h | ⟨b, off, e, hc⟩
  · rw [h] at hk; simp at hk
  · cases e
    have := hc k hk
    rwa [Nat.zero_add] at this

set_option maxRecDepth 100000 in
set_option maxHeartbeats 4000000 in
theorem clparts_walk (x p v c f : Int) (m : ByteArray) (s u g : Int) (ga : Option Addr) (gl gc : Nat) (ba : Option Addr) (bl bc : Nat) (gs bs : List Int) (w : World) (h : CallOk x p v c f m s u g ga gl gc ba bl bc gs bs w) :
    Calls Try.prog 5 #[.agg #[.int .u32 x, .int .u32 p, .int .u32 v, .int .u32 c, .int .u32 f, .string m, .int .u32 s, .int .u32 u, .int .u32 g, .slice ga gl gc, .slice ba bl bc]] w fun e w' => e = .returned (.bool true) ∧ Below w.heap.size w w' := by
  obtain ⟨i0, hi, hz0, hz1', hz2⟩ := info_parts infoB
  have X0 := Cx.start w x p v c f m s u g ga gl gc ba bl bc
  by_cases hgr : isGreat m gl bl
  · go_enter Try.func5, Try.ntmps5
    go_wp2_with fail
    generalize w.alloc (.cells #[.int .u32 x, .int .u32 p, .int .u32 v, .int .u32 c, .int .u32 f, .string m, .int .u32 s, .int .u32 u, .int .u32 g, .slice ga gl gc, .slice ba bl bc] 28) = w0 at *
    refine (alive_any w0).mono ?_
    rintro e w1 ⟨rfl, hb1⟩
    have X1 := X0.next hb1
    clear X0 hb1
    obtain ⟨c0, c1, c2, c3, c4, c5, c6, c7, c8, c9, c10⟩ := call_at X1.call
    go_wp2_with fail
    refine (great_yes x p v c f m s u g ga gl gc ba bl bc w1 h.hm h.gcm h.bcm hgr).mono ?_
    rintro e w2 ⟨rfl, hb2⟩
    have X2 := X1.next hb2
    clear X1 hb2 c0 c1 c2 c3 c4 c5 c6 c7 c8 c9 c10
    go_wp2_with fail
    refine (alive_any _).mono ?_
    rintro e w3 ⟨rfl, hb3⟩
    have X3 := X2.next hb3
    go_wp2
    go_ret
    exact ⟨rfl, X3.below⟩
  · have hm5 : m.size ≤ 5000 := Nat.le_of_not_lt fun k => hgr (.inl k)
    have hg5 : gl ≤ 1000 := Nat.le_of_not_lt fun k => hgr (.inr (.inl k))
    have hb5 : bl ≤ 200000 := Nat.le_of_not_lt fun k => hgr (.inr (.inr k))
    go_enter Try.func5, Try.ntmps5
    go_wp2_with fail
    generalize w.alloc (.cells #[.int .u32 x, .int .u32 p, .int .u32 v, .int .u32 c, .int .u32 f, .string m, .int .u32 s, .int .u32 u, .int .u32 g, .slice ga gl gc, .slice ba bl bc] 28) = w0 at *
    refine (alive_any w0).mono ?_
    rintro e w1 ⟨rfl, hb1⟩
    have X1 := X0.next hb1
    clear X0 hb1
    obtain ⟨c0, c1, c2, c3, c4, c5, c6, c7, c8, c9, c10⟩ := call_at X1.call
    go_wp2_with fail
    refine (great_no x p v c f m s u g ga gl gc ba bl bc w1 hgr).mono ?_
    rintro e w2 ⟨rfl, hb2⟩
    have X2 := X1.next hb2
    clear X1 hb2 c0 c1 c2 c3 c4 c5 c6 c7 c8 c9 c10 hgr
    obtain ⟨c0, c1, c2, c3, c4, c5, c6, c7, c8, c9, c10⟩ := call_at X2.call
    go_wp2_with fail
    refine (clput_any x p v c f m s u g ga gl gc ba bl bc gs bs w2 (h.below X2.below)).mono ?_
    rintro e w3 ⟨hb3, ⟨_, rfl⟩ | ⟨_, _, rfl⟩ | ⟨hmay, hsm, vb, rfl, ob⟩⟩
    · have X3 := X2.next hb3
      go_wp2
      go_ret
      exact ⟨rfl, X3.below⟩
    · have X3 := X2.next hb3
      go_wp2
      go_ret
      exact ⟨rfl, X3.below⟩
    have X3 := X2.next hb3
    clear X2 hb3 c0 c1 c2 c3 c4 c5 c6 c7 c8 c9 c10
    obtain ⟨ab, kb, rfl, sb, hlb, hkb, _⟩ := own_val ob rfl
    clear ob
    obtain ⟨c0, c1, c2, c3, c4, c5, c6, c7, c8, c9, c10⟩ := call_at X3.call
    go_wp2_with fail
    clear c0 c1 c2 c3 c4 c5 c6 c7 c8 c9 c10
    have hs4 := seg4_lit w3 22 [x, 0, 2, p, v, c, f]
    have X4 := X3.alloc (.cells (([x, 0, 2, p, v, c, f] : List Int).map (Value.int .u32)).toArray 22)
    replace sb := sb.below ((Below.refl _ _).alloc (Nat.le_refl _) (.cells (([x, 0, 2, p, v, c, f] : List Int).map (Value.int .u32)).toArray 22))
    simp only [List.map_cons, List.map_nil] at hs4 X4 sb
    generalize w3.alloc (.cells #[.int .u32 x, .int .u32 0, .int .u32 2, .int .u32 p, .int .u32 v, .int .u32 c, .int .u32 f] 22) = W4 at *
    generalize w3.heap.size = H3 at *
    clear X3
    have hB4 := X4.below
    have hcall := X4.call
    have hO := h.below hB4
    have hlw : w.heap.size < W4.heap.size := (Array.getElem?_eq_some_iff.1 hcall).1
    have hls : ([x, 0, 2, p, v, c, f] : List Int).length = 7 := rfl
    have hun : ∀ k : Nat, 0 ≤ ([x, 0, 2, p, v, c, f] : List Int)[k]?.getD 0 ∧ ([x, 0, 2, p, v, c, f] : List Int)[k]?.getD 0 ≤ 4294967295 := u32s_of_all (zs := [x, 0, 2, p, v, c, f]) (by
      intro z hz
      simp only [List.mem_cons, List.not_mem_nil, or_false] at hz
      rcases hz with rfl | rfl | rfl | rfl | rfl | rfl | rfl
      · exact h.hx
      · omega
      · omega
      · exact h.hp
      · exact h.hv
      · exact h.hc
      · exact h.hf)
    have hX : (numsB [x, 0, 2, p, v, c, f]).length = 28 := by rw [numsB_len]; rfl
    have HZ : Hid (callZ x p v c f s m u g gs bs = ((((numsB [x, 0, 2, p, v, c, f] ++ opBytes (whoB f s (tz m) u g gs)) ++ bytesOf 0 4) ++ opBytes []) ++ bs)) := callZ_parts x p v c f s m u g gs bs
    generalize callZ x p v c f s m u g gs bs = Z at *
    generalize ([x, 0, 2, p, v, c, f] : List Int) = ls at *
    clear X4
    go_loopw [5, 8] (fun vx i wr => ∃ k : Nat, k ≤ 7 ∧ i = .int .i64 k ∧ Px W4 vx (numsB (ls.take k)) wr) (fun _ i _ => 7 - (intOf i).toNat)
    case atStart => exact ⟨0, by omega, rfl, Below.refl _ _, World.ownsRow_nil _ _ _ _⟩
    case round =>
      obtain ⟨k, hk, rfl, P⟩ := hrel
      by_cases hlt : k < 7
      · have hck : wr.cell? ⟨H3, k, none⟩ = some (.int .u32 (ls[k]?.getD 0)) := seg4_cell (hs4.below P.below) k (by omega)
        have hnk := hun k
        have HN : Hid (numsB (ls.take (k + 1)) = numsB (ls.take k) ++ bytesOf (ls[k]?.getD 0) 4) := numsB_snoc ls k (by omega)
        have hlk : (numsB (ls.take k)).length ≤ 28 := by rw [numsB_len, List.length_take]; omega
        generalize ls[k]?.getD 0 = nn at *
        generalize numsB (ls.take k) = X at *
        clear hun hs4 HZ hO
        go_wp2_with fail
        refine (Put_any nn hnk.1 (by omega) wr).mono ?_
        rintro e yk ⟨rfl, hoq, hq⟩
        have ns := seg_own hoq (bytesOf_length _ 4)
        have Q := P.next hq
        clear P hq hoq
        go_wp2_with (at_builtin; refine wpList_append_own _ rfl _ _ 26 rfl W4.heap.size 5 i0 (.int .u8 0) 1 1 Try.underlying26 hi hz0 hz1' hz2 rfl (by decide) u5 X.length _ rfl Q.own ⟨wr.heap.size, 0, none⟩ 4 4 ((bytesOf nn 4).map (Value.int .u8)) rfl (by simp [bytesOf_length]) (seg_news ns) (news_one _) (by unfold maxLen; omega) (by omega) Q.below.size ?_; intro v2 w2 ho hg hx9; clear hx9; have P2 := Q.app ho (bytesOf_length _ 4) hg)
        go_roundw
        case rel => exact ⟨k + 1, by omega, by go_num, by rw [HN.out]; exact P2⟩
        case measure => simp [intOf]; omega
      · obtain rfl : k = 7 := by omega
        rw [List.take_of_length_le (by omega)] at P
        generalize numsB ls = X at *
        have hX' : X.length ≤ 28 := by omega
        clear hX hun hs4 hls hlt hk
        have hZ : Z.length ≤ 65536 := hsm
        obtain ⟨_, _, _, _, c4, c5, c6, c7, c8, c9, _⟩ := call_at ((P.below.block _ hlw).trans hcall)
        rcases hmay with ⟨rfl, hn⟩ | ⟨rfl, hm1, hg1⟩
        · rw [show whoB 0 s (tz m) u g gs = [] from by rw [whoB, if_pos rfl]] at HZ
          go_wp2_with fail
          refine (putopq_any none 0 0 [] wr (Nat.le_refl _) (by omega) rfl (.inl rfl) (fun _ => ⟨rfl, rfl⟩)).mono ?_
          rintro e y1 ⟨q1, rfl, hoq, hq⟩
          obtain ⟨g1, k1, rfl, _, _, _⟩ := own_shape hoq (by omega)
          rw [show 4 + (0 + padN 0) = 4 from rfl] at hoq
          have hopl : (opBytes []).length = 4 := rfl
          have ns := seg_own hoq hopl
          have Q := P.next hq
          clear P hq hoq
          go_wp2_with (at_builtin; refine wpList_append_own _ rfl _ _ 26 rfl W4.heap.size 5 i0 (.int .u8 0) 1 1 Try.underlying26 hi hz0 hz1' hz2 rfl (by decide) u5 X.length _ rfl Q.own ⟨g1, 0, none⟩ 4 k1 ((opBytes []).map (Value.int .u8)) rfl (by rw [List.length_map, hopl, Nat.mul_one]) (seg_news ns) (news_one _) (by unfold maxLen; omega) (by omega) Q.below.size ?_; intro v2 w2 ho hg hx9; clear hx9; have P2 := Q.app ho hopl hg)
          have hX2 : (X ++ opBytes []).length ≤ 400 := by rw [List.length_append, hopl]; omega
          generalize X ++ opBytes [] = X2 at P2 hX2 HZ
          clear Q ns ho hg hopl
          refine (Put_any 0 (by omega) (by omega) w2).mono ?_
          rintro e y2 ⟨rfl, hoq, hq⟩
          have ns := seg_own hoq (bytesOf_length _ 4)
          have Q := P2.next hq
          clear P2 hq hoq
          go_wp2_with (at_builtin; refine wpList_append_own _ rfl _ _ 26 rfl W4.heap.size 5 i0 (.int .u8 0) 1 1 Try.underlying26 hi hz0 hz1' hz2 rfl (by decide) v2 X2.length _ rfl Q.own ⟨w2.heap.size, 0, none⟩ 4 4 ((bytesOf 0 4).map (Value.int .u8)) rfl (by simp [bytesOf_length]) (seg_news ns) (news_one _) (by unfold maxLen; omega) (by omega) Q.below.size ?_; intro v3 w5 ho hg hx9; clear hx9; have P3 := Q.app ho (bytesOf_length _ 4) hg)
          have hX3 : (X2 ++ bytesOf 0 4).length ≤ 404 := by rw [List.length_append, bytesOf_length]; omega
          generalize X2 ++ bytesOf 0 4 = X3 at P3 hX3 HZ
          clear Q ns ho hg
          refine (putopq_any none 0 0 [] w5 (Nat.le_refl _) (by omega) rfl (.inl rfl) (fun _ => ⟨rfl, rfl⟩)).mono ?_
          rintro e y3 ⟨q3, rfl, hoq, hq⟩
          obtain ⟨g3, k3, rfl, _, _, _⟩ := own_shape hoq (by omega)
          rw [show 4 + (0 + padN 0) = 4 from rfl] at hoq
          have hol0 : (opBytes []).length = 4 := rfl
          have HX4 : Hid ((X3 ++ opBytes []).length = X3.length + 4) := by show _ = _; rw [List.length_append, hol0]
          have ns := seg_own hoq hol0
          have Q := P3.next hq
          clear P3 hq hoq
          have hbs := hO.bseg
          have hbz := hO.bz
          have hbn := hO.bnil
          go_wp2_with (first | (at_builtin; refine wpList_append_own _ rfl _ _ 26 rfl W4.heap.size 5 i0 (.int .u8 0) 1 1 Try.underlying26 hi hz0 hz1' hz2 rfl (by decide) v3 X3.length _ rfl Q.own ⟨g3, 0, none⟩ 4 k3 ((opBytes []).map (Value.int .u8)) rfl (by rw [List.length_map, hol0]) (seg_news ns) (news_one _) (by unfold maxLen; omega) (by omega) Q.below.size ?_; intro v4 w6 ho hg hx9; clear hx9; have P4 := Q.app ho hol0 hg; obtain ⟨g4, k4, rfl, _, hk4, _⟩ := own_shape ho (by omega); obtain ⟨_, _, _, _, _, _, _, _, _, _, c10⟩ := call_at ((P4.below.block _ hlw).trans hcall)) | (at_builtin; refine wpList_append_each _ rfl _ _ 26 rfl W4.heap.size 5 i0 (.int .u8 0) 1 1 Try.underlying26 hi hz0 hz1' hz2 rfl (by decide) (.slice (some ⟨g4, 0, none⟩) (X3.length + 4) k4) (X3.length + 4) _ rfl ho ba bl bc (bs.map (Value.int .u8)) rfl hbn (by simp [hbz]) (fun b hb => seg_news (by rw [← hb]; exact hbs.below P4.below)) (news_one bs) (by unfold maxLen; omega) (by omega) P4.below.size ?_; intro v5 w7 ho5 hg5))
          have P5 := P4.app (n := bl) (by rw [HX4.out, List.map_append]; exact ho5) hbz hg5
          rw [← HZ.out] at P5
          have hown := P5.own
          obtain ⟨a7, k7, e7, s7, hl7, hk7, _⟩ := own_val hown rfl
          subst e7
          have hB7 := hB4.trans (P5.below.mono hB4.size)
          have sb7 := sb.below P5.below
          clear P5 P4 Q ho5 hg5 ho hg ns hown hcall hO
          go_wp2_with fail
          refine (same_true ab a7 Z.length kb k7 Z w7 (by omega) rfl sb7 s7).mono ?_
          rintro e w' ⟨rfl, n, rfl⟩
          have hB8 := below_drewN hB7 n
          go_wp2
          go_ret
          exact ⟨rfl, hB8⟩
        · rw [show whoB 1 s (tz m) u g gs = credB s (tz m) u g gs from by rw [whoB, if_neg (by decide)]] at HZ
          go_wp2_with fail
          refine (cput_yes s m u g ga gl gc gs wr hm1 hg1 h.hs h.hu h.hg h.gz h.gu (hO.gseg.below P.below)).mono ?_
          rintro e wr' ⟨vw, rfl, how, hbw⟩
          have hwl : (credB s (tz m) u g gs).length ≤ 344 := crB_le (h.cr hm1 hg1)
          generalize credB s (tz m) u g gs = Wh at *
          replace P := P.next hbw
          obtain ⟨aw, cw, rfl, sw, lcw, cmw, nlw⟩ := own_val how rfl
          clear how hbw c4 c5 c6 c7 c8 c9
          have hwl4 : Wh.length ≤ 344 := hwl
          clear hwl
          generalize hwl : Wh.length = wl at *
          have hpad := padN_lt wl
          go_wp2_with fail
          refine (putopq_any aw wl cw Wh wr' lcw (by omega) hwl sw nlw).mono ?_
          rintro e y1 ⟨q1, rfl, hoq, hq⟩
          obtain ⟨g1, k1, rfl, _, _, _⟩ := own_shape hoq (by omega)
          have hopl : (opBytes Wh).length = 4 + (wl + padN wl) := by rw [opBytes_length, hwl]
          have ns := seg_own hoq hopl
          have Q := P.next hq
          clear P hq hoq
          go_wp2_with (at_builtin; refine wpList_append_own _ rfl _ _ 26 rfl W4.heap.size 5 i0 (.int .u8 0) 1 1 Try.underlying26 hi hz0 hz1' hz2 rfl (by decide) u5 X.length _ rfl Q.own ⟨g1, 0, none⟩ (4 + (wl + padN wl)) k1 ((opBytes Wh).map (Value.int .u8)) rfl (by rw [List.length_map, hopl, Nat.mul_one]) (seg_news ns) (news_one _) (by unfold maxLen; omega) (by omega) Q.below.size ?_; intro v2 w2 ho hg hx9; clear hx9; have P2 := Q.app ho hopl hg)
          have hX2 : (X ++ opBytes Wh).length ≤ 400 := by rw [List.length_append, hopl]; omega
          generalize X ++ opBytes Wh = X2 at P2 hX2 HZ
          clear Q ns ho hg hopl
          refine (Put_any 0 (by omega) (by omega) w2).mono ?_
          rintro e y2 ⟨rfl, hoq, hq⟩
          have ns := seg_own hoq (bytesOf_length _ 4)
          have Q := P2.next hq
          clear P2 hq hoq
          go_wp2_with (at_builtin; refine wpList_append_own _ rfl _ _ 26 rfl W4.heap.size 5 i0 (.int .u8 0) 1 1 Try.underlying26 hi hz0 hz1' hz2 rfl (by decide) v2 X2.length _ rfl Q.own ⟨w2.heap.size, 0, none⟩ 4 4 ((bytesOf 0 4).map (Value.int .u8)) rfl (by simp [bytesOf_length]) (seg_news ns) (news_one _) (by unfold maxLen; omega) (by omega) Q.below.size ?_; intro v3 w5 ho hg hx9; clear hx9; have P3 := Q.app ho (bytesOf_length _ 4) hg)
          have hX3 : (X2 ++ bytesOf 0 4).length ≤ 404 := by rw [List.length_append, bytesOf_length]; omega
          generalize X2 ++ bytesOf 0 4 = X3 at P3 hX3 HZ
          clear Q ns ho hg
          refine (putopq_any none 0 0 [] w5 (Nat.le_refl _) (by omega) rfl (.inl rfl) (fun _ => ⟨rfl, rfl⟩)).mono ?_
          rintro e y3 ⟨q3, rfl, hoq, hq⟩
          obtain ⟨g3, k3, rfl, _, _, _⟩ := own_shape hoq (by omega)
          rw [show 4 + (0 + padN 0) = 4 from rfl] at hoq
          have hol0 : (opBytes []).length = 4 := rfl
          have HX4 : Hid ((X3 ++ opBytes []).length = X3.length + 4) := by show _ = _; rw [List.length_append, hol0]
          have ns := seg_own hoq hol0
          have Q := P3.next hq
          clear P3 hq hoq
          have hbs := hO.bseg
          have hbz := hO.bz
          have hbn := hO.bnil
          go_wp2_with (first | (at_builtin; refine wpList_append_own _ rfl _ _ 26 rfl W4.heap.size 5 i0 (.int .u8 0) 1 1 Try.underlying26 hi hz0 hz1' hz2 rfl (by decide) v3 X3.length _ rfl Q.own ⟨g3, 0, none⟩ 4 k3 ((opBytes []).map (Value.int .u8)) rfl (by rw [List.length_map, hol0]) (seg_news ns) (news_one _) (by unfold maxLen; omega) (by omega) Q.below.size ?_; intro v4 w6 ho hg hx9; clear hx9; have P4 := Q.app ho hol0 hg; obtain ⟨g4, k4, rfl, _, hk4, _⟩ := own_shape ho (by omega); obtain ⟨_, _, _, _, _, _, _, _, _, _, c10⟩ := call_at ((P4.below.block _ hlw).trans hcall)) | (at_builtin; refine wpList_append_each _ rfl _ _ 26 rfl W4.heap.size 5 i0 (.int .u8 0) 1 1 Try.underlying26 hi hz0 hz1' hz2 rfl (by decide) (.slice (some ⟨g4, 0, none⟩) (X3.length + 4) k4) (X3.length + 4) _ rfl ho ba bl bc (bs.map (Value.int .u8)) rfl hbn (by simp [hbz]) (fun b hb => seg_news (by rw [← hb]; exact hbs.below P4.below)) (news_one bs) (by unfold maxLen; omega) (by omega) P4.below.size ?_; intro v5 w7 ho5 hg5))
          have P5 := P4.app (n := bl) (by rw [HX4.out, List.map_append]; exact ho5) hbz hg5
          rw [← HZ.out] at P5
          have hown := P5.own
          obtain ⟨a7, k7, e7, s7, hl7, hk7, _⟩ := own_val hown rfl
          subst e7
          have hB7 := hB4.trans (P5.below.mono hB4.size)
          have sb7 := sb.below P5.below
          clear P5 P4 Q ho5 hg5 ho hg ns hown hcall hO
          go_wp2_with fail
          refine (same_true ab a7 Z.length kb k7 Z w7 (by omega) rfl sb7 s7).mono ?_
          rintro e w' ⟨rfl, n, rfl⟩
          have hB8 := below_drewN hB7 n
          go_wp2
          go_ret
          exact ⟨rfl, hB8⟩
end Go.Proofs.Ytciinabhelfnoaa
