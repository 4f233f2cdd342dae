/- The document's 'Put' of a call: what it answers; nothing that was there turns. -/
import Derived.Test.YtciinabhelfnoaaDoorCallPut2M
import Derived.Test.YtciinabhelfnoaaDoorCallCxRefPadRefPut4M
import Derived.Test.YtciinabhelfnoaaDoorRefCrM
import Derived.Test.YtciinabhelfnoaaDoorRefPutFxRefStrPutM
namespace Go.Proofs.YtciinabhelfnoaaDoor
set_option linter.unusedVariables false
open Go.RowKit

theorem numsB_snoc (ls : List Int) (k : Nat) (h : k < ls.length) : numsB (ls.take (k + 1)) = numsB (ls.take k) ++ bytesOf (ls[k]?.getD 0) 4 := by
  rw [List.take_succ_eq_append_getElem h, numsB_append, numsB_one, List.getElem?_eq_getElem h, Option.getD_some]
theorem seg4_at6 {w : World} {g : Nat} {zs : List Int} (h : Seg4 w (some ⟨g, 0, none⟩) zs) (k : Nat) (hk : k < zs.length) : w.cell? ⟨g, k, none⟩ = some (.int .u32 (zs[k]?.getD 0)) := by
  rcases h with h | ⟨b, off, e, hc⟩
  · rw [h] at hk; simp at hk
  · cases e
    have := hc k hk
    rwa [Nat.zero_add] at this

/-- What 'Put' answers of a call. -/
def PutPost6 (x p v c f : Int) (m : ByteArray) (s u g : Int) (ga : Option Addr) (gl gc : Nat) (ba : Option Addr) (bl bc : Nat) (gs bs : List Int) (w : World) (e : Ending) (w' : World) : Prop :=
  Below w.heap.size w w' ∧ ((¬ MayWho f m s u g gl ∧ e = .returned (.tuple #[.slice none 0 0, .int .i64 1])) ∨ (MayWho f m s u g gl ∧ 65536 < (callZ x p v c f s m u g gs bs).length ∧ e = .returned (.tuple #[.slice none 0 0, .int .i64 3])) ∨
      (MayWho f m s u g gl ∧ (callZ x p v c f s m u g gs bs).length ≤ 65536 ∧ ∃ vb, e = .returned (.tuple #[vb, .int .i64 0]) ∧ w'.ownsRow w.heap.size 5 1 vb (callZ x p v c f s m u g gs bs).length ((callZ x p v c f s m u g gs bs).map (Value.int .u8))))

theorem callZ_five (x p v c f s : Int) (m : ByteArray) (u g : Int) (gs bs : List Int) : callZ x p v c f s m u g gs bs = ((numsB [x, 0, 2, p, v, c, f] ++ opBytes (whoB f s (tz m) u g gs)) ++ [0, 0, 0, 0, 0, 0, 0, 0]) ++ bs := by
  simp only [callZ, callB, List.append_assoc]
  rfl

set_option maxRecDepth 100000 in
set_option maxHeartbeats 4000000 in
theorem refclput_any (x p v c f : Int) (m : ByteArray) (s u g : Int) (ga : Option Addr) (gl gc : Nat) (ba : Option Addr) (bl bc : Nat) (gs bs : List Int) (w : World) (h : CallOk x p v c f m s u g ga gl gc ba bl bc gs bs w) : Calls Tryd.prog 7 #[.agg #[.int .u32 x, .int .u32 p, .int .u32 v, .int .u32 c, .int .u32 f, .string m, .int .u32 s, .int .u32 u, .int .u32 g, .slice ga gl gc, .slice ba bl bc]] w (PutPost6 x p v c f m s u g ga gl gc ba bl bc gs bs w) := by
  obtain ⟨i0, hi, hz0, hz1', hz2⟩ := info_parts infoB
  have X0 := Cx.start w x p v c f m s u g ga gl gc ba bl bc
  have hgl : gl ≤ 140737488351232 := h.gcm
  have hbl : bl ≤ 140737488351232 := h.bcm
  have hms : m.size ≤ 140737488351232 := h.hm
  have hme := isEmpty_size' m
  by_cases hf0 : f = 0
  · subst hf0
    by_cases hN : Nob m s u g gl
    · have hmay : MayWho 0 m s u g gl := .inl ⟨rfl, hN⟩
      have HM : Hid (MayWho 0 m s u g gl) := hmay
      have HZ : Hid (callZ x p v c 0 s m u g gs bs = ((numsB [x, 0, 2, p, v, c, 0] ++ opBytes []) ++ [0, 0, 0, 0, 0, 0, 0, 0]) ++ bs) := by
        have := callZ_five x p v c 0 s m u g gs bs
        rwa [show whoB 0 s (tz m) u g gs = [] from by rw [whoB, if_pos rfl]] at this
      obtain ⟨n1, n2, n3, n4, n5⟩ := hN
      have n1' : decide (m.size = 0) = true := by simp [n1]
      rw [n1'] at hme
      subst n2 n3 n4 n5
      clear n1 n1' hmay
      go_enter Tryd.func7, Tryd.ntmps7
      go_wp2_with fail
      have hsz0 : (w.alloc (.cells #[.int .u32 x, .int .u32 p, .int .u32 v, .int .u32 c, .int .u32 0, .string m, .int .u32 0, .int .u32 0, .int .u32 0, .slice ga 0 gc, .slice ba bl bc] 28)).heap.size = w.heap.size + 1 := by simp
      generalize w.alloc (.cells #[.int .u32 x, .int .u32 p, .int .u32 v, .int .u32 c, .int .u32 0, .string m, .int .u32 0, .int .u32 0, .int .u32 0, .slice ga 0 gc, .slice ba bl bc] 28) = w0 at *

      have hs4 := seg4_lit w0 22 [x, 0, 2, p, v, c, 0]
      have X4 := X0.alloc (.cells (([x, 0, 2, p, v, c, 0] : List Int).map (Value.int .u32)).toArray 22)
      simp only [List.map_cons, List.map_nil] at hs4 X4
      generalize w0.alloc (.cells #[.int .u32 x, .int .u32 0, .int .u32 2, .int .u32 p, .int .u32 v, .int .u32 c, .int .u32 0] 22) = W4 at *
      rw [hsz0] at hs4
      generalize w.heap.size + 1 = H3 at *
      have hB4 := X4.below
      have hcall := X4.call
      have hO := h.below hB4
      have hlw : w.heap.size < W4.heap.size := (Array.getElem?_eq_some_iff.1 hcall).1
      have hls : ([x, 0, 2, p, v, c, 0] : List Int).length = 7 := rfl
      have hun : ∀ k : Nat, 0 ≤ ([x, 0, 2, p, v, c, 0] : List Int)[k]?.getD 0 ∧ ([x, 0, 2, p, v, c, 0] : List Int)[k]?.getD 0 ≤ 4294967295 := u32s_of_all (zs := [x, 0, 2, p, v, c, 0]) (by
        intro z hz
        simp only [List.mem_cons, List.not_mem_nil, or_false] at hz
        rcases hz with rfl | rfl | rfl | rfl | rfl | rfl | rfl
        · exact h.hx
        · omega
        · omega
        · exact h.hp
        · exact h.hv
        · exact h.hc
        · omega)
      have hX : (numsB [x, 0, 2, p, v, c, 0]).length = 28 := by rw [numsB_len]; rfl
      generalize hZ0 : callZ x p v c 0 0 m 0 0 gs bs = Z at *
      have HZ0 : Hid (callZ x p v c 0 0 m 0 0 gs bs = Z) := hZ0
      clear hZ0
      generalize ([x, 0, 2, p, v, c, 0] : List Int) = ls at *
      clear X4
      go_loopw [8, 9] (fun vx i wr => ∃ k : Nat, k ≤ 7 ∧ i = .int .i64 k ∧ Px W4 vx (numsB (ls.take k)) wr) (fun _ i _ => 7 - (intOf i).toNat)
      case atStart => exact ⟨0, by omega, rfl, Below.refl _ _, World.ownsRow_nil _ _ _ _⟩
      case round =>
        obtain ⟨k, hk, rfl, P⟩ := hrel
        by_cases hlt : k < 7
        · have hck : wr.cell? ⟨H3, k, none⟩ = some (.int .u32 (ls[k]?.getD 0)) := seg4_at6 (hs4.below P.below) k (by omega)
          have hnk := hun k
          have HN : Hid (numsB (ls.take (k + 1)) = numsB (ls.take k) ++ bytesOf (ls[k]?.getD 0) 4) := numsB_snoc ls k (by omega)
          have hlk : (numsB (ls.take k)).length ≤ 28 := by rw [numsB_len, List.length_take]; omega
          generalize ls[k]?.getD 0 = nn at *
          generalize numsB (ls.take k) = X at *
          clear hun hs4 HZ hO HZ0 HM
          go_wp2_with fail
          refine (refPut_own nn hnk.1 (by omega) wr).mono ?_
          rintro e yk ⟨rfl, hoq, hq⟩
          have ns := seg_own hoq (bytesOf_length _ 4)
          have Q := P.next hq
          clear P hq hoq
          go_wp2_with (at_builtin; refine wpList_append_own _ rfl _ _ 26 rfl W4.heap.size 5 i0 (.int .u8 0) 1 1 Tryd.underlying26 hi hz0 hz1' hz2 rfl (by decide) u8 X.length _ rfl Q.own ⟨wr.heap.size, 0, none⟩ 4 4 ((bytesOf nn 4).map (Value.int .u8)) rfl (by simp [bytesOf_length]) (seg_news ns) (news_one _) (by unfold maxLen; omega) (by omega) Q.below.size ?_; intro v2 w2 ho hg hx9; clear hx9; have P2 := Q.app ho (bytesOf_length _ 4) hg)
          go_roundw
          case rel => exact ⟨k + 1, by omega, by go_num, by rw [HN.out]; exact P2⟩
          case measure => simp [intOf]; omega
        · obtain rfl : k = 7 := by omega
          rw [List.take_of_length_le (by omega)] at P
          generalize numsB ls = X at *
          have hX' : X.length ≤ 28 := by omega
          have HX : Hid (X.length = 28) := hX
          clear hX hun hs4 hls hlt hk
          go_wp2_with fail
          refine (refputopq_any none 0 0 [] wr (Nat.le_refl _) (by omega) rfl (.inl rfl) (fun _ => ⟨rfl, rfl⟩)).mono ?_
          rintro e y1 ⟨q1, rfl, hoq, hq⟩
          obtain ⟨g1, k1, rfl, _, _, _⟩ := own_shape hoq (by omega)
          rw [show 4 + (0 + padN 0) = 4 from rfl] at hoq
          have hopl : (opBytes []).length = 4 := rfl
          have ns := seg_own hoq hopl
          have Q := P.next hq
          clear P hq hoq
          obtain ⟨X2, HXE⟩ : ∃ X2, Hid (X2 = X ++ opBytes []) := ⟨_, rfl⟩
          have hX2 : X2.length ≤ 400 := by rw [HXE.out, List.length_append, hopl]; omega
          have hx4 : X2.length + 8 + bl = Z.length := by rw [HZ.out, HXE.out]; simp only [List.length_append, h.bz, List.length_cons, List.length_nil]
          have HZ2 : Hid (Z = (X2 ++ [0, 0, 0, 0, 0, 0, 0, 0]) ++ bs) := by show _ = _; rw [HZ.out, HXE.out]
          have hbs := hO.bseg
          have hbz := hO.bz
          have hbn := hO.bnil
          have HX4 : Hid ((X2 ++ [0, 0, 0, 0, 0, 0, 0, 0]).length = X2.length + 8) := by show _ = _; rw [List.length_append]; rfl
          clear HZ HX
          by_cases hbig : 65536 < Z.length
          · have hbig' : (65536 : Int) < (X2.length : Int) + 8 + bl := by omega
            have HB : Hid (65536 < Z.length) := hbig
            clear hbig hx4
            go_wp2_with (first | (at_builtin; refine wpList_append_own _ rfl _ _ 26 rfl W4.heap.size 5 i0 (.int .u8 0) 1 1 Tryd.underlying26 hi hz0 hz1' hz2 rfl (by decide) u8 X.length _ rfl Q.own ⟨g1, 0, none⟩ (4) k1 ((opBytes []).map (Value.int .u8)) rfl (by rw [List.length_map, hopl, Nat.mul_one]) (seg_news ns) (news_one _) (by unfold maxLen; omega) (by omega) Q.below.size ?_; intro v2 w2 ho hg hx9; clear hx9; have P2 : Px W4 v2 X2 w2 := (by rw [HXE.out]; exact Q.app ho hopl hg); have lit := seg_lit w2 5 [0, 0, 0, 0, 0, 0, 0, 0]; have Q2 := P2.next ((Below.refl _ _).alloc (Nat.le_refl _) (.cells (([0, 0, 0, 0, 0, 0, 0, 0] : List Int).map (Value.int .u8)).toArray 5)); have o2 := Q2.own; clear ns Q ho hg) | (at_builtin; refine wpList_append_own _ rfl _ _ 26 rfl W4.heap.size 5 i0 (.int .u8 0) 1 1 Tryd.underlying26 hi hz0 hz1' hz2 rfl (by decide) v2 X2.length _ rfl o2 ⟨w2.heap.size, 0, none⟩ 8 8 (([0, 0, 0, 0, 0, 0, 0, 0] : List Int).map (Value.int .u8)) rfl rfl (seg_news lit) (news_one _) (by unfold maxLen; omega) (by omega) Q2.below.size ?_; intro v3 w5 ho3 hg3 hx9; clear hx9; have P3 := Q2.app (ys := [0, 0, 0, 0, 0, 0, 0, 0]) (n := 8) ho3 rfl hg3; obtain ⟨g4, k4, e4, _, hk4, _⟩ := own_shape ho3 (by omega); subst e4; obtain ⟨_, _, _, _, _, _, _, _, _, _, c10⟩ := call_at ((P3.below.block _ hlw).trans hcall); clear lit Q2 o2))
            go_ret2
            refine ⟨hB4.trans (P3.below.mono hB4.size), .inr (.inl ⟨HM.out, by rw [HZ0.out]; exact HB.out, rfl⟩)⟩
          · have hbig' : ¬ (65536 : Int) < (X2.length : Int) + 8 + bl := by omega
            have hle : X2.length + 8 + bl ≤ 65536 := by omega
            have HS : Hid (Z.length ≤ 65536) := Nat.le_of_not_lt hbig
            clear hbig hx4
            go_wp2_with (first | (at_builtin; refine wpList_append_own _ rfl _ _ 26 rfl W4.heap.size 5 i0 (.int .u8 0) 1 1 Tryd.underlying26 hi hz0 hz1' hz2 rfl (by decide) u8 X.length _ rfl Q.own ⟨g1, 0, none⟩ (4) k1 ((opBytes []).map (Value.int .u8)) rfl (by rw [List.length_map, hopl, Nat.mul_one]) (seg_news ns) (news_one _) (by unfold maxLen; omega) (by omega) Q.below.size ?_; intro v2 w2 ho hg hx9; clear hx9; have P2 : Px W4 v2 X2 w2 := (by rw [HXE.out]; exact Q.app ho hopl hg); have lit := seg_lit w2 5 [0, 0, 0, 0, 0, 0, 0, 0]; have Q2 := P2.next ((Below.refl _ _).alloc (Nat.le_refl _) (.cells (([0, 0, 0, 0, 0, 0, 0, 0] : List Int).map (Value.int .u8)).toArray 5)); have o2 := Q2.own; clear ns Q ho hg) | (at_builtin; refine wpList_append_own _ rfl _ _ 26 rfl W4.heap.size 5 i0 (.int .u8 0) 1 1 Tryd.underlying26 hi hz0 hz1' hz2 rfl (by decide) v2 X2.length _ rfl o2 ⟨w2.heap.size, 0, none⟩ 8 8 (([0, 0, 0, 0, 0, 0, 0, 0] : List Int).map (Value.int .u8)) rfl rfl (seg_news lit) (news_one _) (by unfold maxLen; omega) (by omega) Q2.below.size ?_; intro v3 w5 ho3 hg3 hx9; clear hx9; have P3 := Q2.app (ys := [0, 0, 0, 0, 0, 0, 0, 0]) (n := 8) ho3 rfl hg3; obtain ⟨g4, k4, e4, _, hk4, _⟩ := own_shape ho3 (by omega); subst e4; obtain ⟨_, _, _, _, _, _, _, _, _, _, c10⟩ := call_at ((P3.below.block _ hlw).trans hcall); clear lit Q2 o2) | (at_builtin; refine wpList_append_each _ rfl _ _ 26 rfl W4.heap.size 5 i0 (.int .u8 0) 1 1 Tryd.underlying26 hi hz0 hz1' hz2 rfl (by decide) (.slice (some ⟨g4, 0, none⟩) (X2.length + 8) k4) (X2.length + 8) _ rfl ho3 ba bl bc (bs.map (Value.int .u8)) rfl hbn (by simp [hbz]) (fun b hb => seg_news (by rw [← hb]; exact hbs.below P3.below)) (news_one bs) (by unfold maxLen; omega) (by omega) P3.below.size ?_; intro v5 w7 ho5 hg5))
            go_ret2
            have P5 := P3.app (n := bl) (by rw [HX4.out, List.map_append]; exact ho5) hbz hg5
            rw [← HZ2.out, ← HZ0.out] at P5
            exact ⟨hB4.trans (P5.below.mono hB4.size), .inr (.inr ⟨HM.out, by rw [HZ0.out]; exact HS.out, _, rfl, own_base P5.own hB4.size⟩)⟩
    · have hmay : ¬ MayWho 0 m s u g gl := by
        rintro (⟨_, k⟩ | ⟨k, _⟩)
        · exact hN k
        · omega
      have HM : Hid (¬ MayWho 0 m s u g gl) := hmay
      have hB0 := X0.below
      clear hmay
      by_cases n1 : m.size = 0
      case neg =>
        have n1' : decide (m.size = 0) = false := by simp [n1]
        rw [n1'] at hme
        clear n1 n1' hN
        go_enter Tryd.func7, Tryd.ntmps7
        go_wp2
        go_ret2
        exact ⟨hB0, .inl ⟨HM.out, rfl⟩⟩
      have n1' : decide (m.size = 0) = true := by simp [n1]
      rw [n1'] at hme
      clear n1'
      by_cases n2 : s = 0
      case neg =>
        have n2' : (s != 0) = true := by simp [n2]
        clear n1 n2 hN
        go_enter Tryd.func7, Tryd.ntmps7
        go_wp2
        go_ret2
        exact ⟨hB0, .inl ⟨HM.out, rfl⟩⟩
      subst n2
      by_cases n3 : u = 0
      case neg =>
        have n3' : (u != 0) = true := by simp [n3]
        clear n1 n3 hN
        go_enter Tryd.func7, Tryd.ntmps7
        go_wp2
        go_ret2
        exact ⟨hB0, .inl ⟨HM.out, rfl⟩⟩
      subst n3
      by_cases n4 : g = 0
      case neg =>
        have n4' : (g != 0) = true := by simp [n4]
        clear n1 n4 hN
        go_enter Tryd.func7, Tryd.ntmps7
        go_wp2
        go_ret2
        exact ⟨hB0, .inl ⟨HM.out, rfl⟩⟩
      subst n4
      have n5 : gl ≠ 0 := fun k => hN ⟨n1, rfl, rfl, rfl, k⟩
      have n5' : (0 : Int) < gl := by omega
      clear n1 hN
      go_enter Tryd.func7, Tryd.ntmps7
      go_wp2
      go_ret2
      exact ⟨hB0, .inl ⟨HM.out, rfl⟩⟩
  by_cases hf1 : f = 1
  · subst hf1
    by_cases hno : 255 < m.size ∨ 16 < gl
    · have hmay : ¬ MayWho 1 m s u g gl := by
        rintro (⟨k, _⟩ | ⟨_, k1, k2⟩)
        · omega
        · omega
      have HM : Hid (¬ MayWho 1 m s u g gl) := hmay
      clear hmay hme
      go_enter Tryd.func7, Tryd.ntmps7
      go_wp2_with fail
      generalize w.alloc (.cells #[.int .u32 x, .int .u32 p, .int .u32 v, .int .u32 c, .int .u32 1, .string m, .int .u32 s, .int .u32 u, .int .u32 g, .slice ga gl gc, .slice ba bl bc] 28) = w0 at *
      refine (refcput_no s m u g ga gl gc w0 (by omega) (by omega) hno).mono ?_
      rintro e w1 ⟨rfl, hb1⟩
      have X1 := X0.next hb1
      go_wp2
      go_ret2
      exact ⟨X1.below, .inl ⟨HM.out, rfl⟩⟩
    · have hm1 : m.size ≤ 255 := by omega
      have hg1 : gl ≤ 16 := by omega
      have HM : Hid (MayWho 1 m s u g gl) := .inr ⟨rfl, hm1, hg1⟩
      have HZ : Hid (callZ x p v c 1 s m u g gs bs = ((numsB [x, 0, 2, p, v, c, 1] ++ opBytes (credB s (tz m) u g gs)) ++ [0, 0, 0, 0, 0, 0, 0, 0]) ++ bs) := by
        have := callZ_five x p v c 1 s m u g gs bs
        rwa [show whoB 1 s (tz m) u g gs = credB s (tz m) u g gs from by rw [whoB, if_neg (by decide)]] at this
      clear hme hno
      go_enter Tryd.func7, Tryd.ntmps7
      go_wp2_with fail
      generalize w.alloc (.cells #[.int .u32 x, .int .u32 p, .int .u32 v, .int .u32 c, .int .u32 1, .string m, .int .u32 s, .int .u32 u, .int .u32 g, .slice ga gl gc, .slice ba bl bc] 28) = w0 at *
      refine (refcput_yes s m u g ga gl gc gs w0 hm1 hg1 h.hs h.hu h.hg h.gz h.gu (h.gseg.below X0.below)).mono ?_
      rintro e w1 ⟨vw, rfl, how, hbw⟩
      have X1 := X0.next hbw
      have hwl4 : (credB s (tz m) u g gs).length ≤ 344 := crB_le (h.cr hm1 hg1)
      generalize credB s (tz m) u g gs = Wh at *
      obtain ⟨aw, cw, rfl, sw, lcw, cmw, nlw⟩ := own_val how rfl
      clear how hbw X0
      generalize hwl : Wh.length = wl at *
      have hpad := padN_lt wl
      obtain ⟨c0, c1, c2, c3, c4, _, _, _, _, _, _⟩ := call_at X1.call
      go_wp2_with fail
      clear c0 c1 c2 c3 c4

      have hs4 := seg4_lit w1 22 [x, 0, 2, p, v, c, 1]
      have X4 := X1.alloc (.cells (([x, 0, 2, p, v, c, 1] : List Int).map (Value.int .u32)).toArray 22)
      replace sw := sw.below ((Below.refl _ _).alloc (Nat.le_refl _) (.cells (([x, 0, 2, p, v, c, 1] : List Int).map (Value.int .u32)).toArray 22))
      simp only [List.map_cons, List.map_nil] at hs4 X4 sw
      generalize w1.alloc (.cells #[.int .u32 x, .int .u32 0, .int .u32 2, .int .u32 p, .int .u32 v, .int .u32 c, .int .u32 1] 22) = W4 at *
      generalize w1.heap.size = H3 at *
      have hB4 := X4.below
      have hcall := X4.call
      have hO := h.below hB4
      have hlw : w.heap.size < W4.heap.size := (Array.getElem?_eq_some_iff.1 hcall).1
      have hls : ([x, 0, 2, p, v, c, 1] : List Int).length = 7 := rfl
      have hun : ∀ k : Nat, 0 ≤ ([x, 0, 2, p, v, c, 1] : List Int)[k]?.getD 0 ∧ ([x, 0, 2, p, v, c, 1] : List Int)[k]?.getD 0 ≤ 4294967295 := u32s_of_all (zs := [x, 0, 2, p, v, c, 1]) (by
        intro z hz
        simp only [List.mem_cons, List.not_mem_nil, or_false] at hz
        rcases hz with rfl | rfl | rfl | rfl | rfl | rfl | rfl
        · exact h.hx
        · omega
        · omega
        · exact h.hp
        · exact h.hv
        · exact h.hc
        · omega)
      have hX : (numsB [x, 0, 2, p, v, c, 1]).length = 28 := by rw [numsB_len]; rfl
      generalize hZ0 : callZ x p v c 1 s m u g gs bs = Z at *
      have HZ0 : Hid (callZ x p v c 1 s m u g gs bs = Z) := hZ0
      clear hZ0
      generalize ([x, 0, 2, p, v, c, 1] : List Int) = ls at *
      clear X4
      go_loopw [8, 9] (fun vx i wr => ∃ k : Nat, k ≤ 7 ∧ i = .int .i64 k ∧ Px W4 vx (numsB (ls.take k)) wr) (fun _ i _ => 7 - (intOf i).toNat)
      case atStart => exact ⟨0, by omega, rfl, Below.refl _ _, World.ownsRow_nil _ _ _ _⟩
      case round =>
        obtain ⟨k, hk, rfl, P⟩ := hrel
        by_cases hlt : k < 7
        · have hck : wr.cell? ⟨H3, k, none⟩ = some (.int .u32 (ls[k]?.getD 0)) := seg4_at6 (hs4.below P.below) k (by omega)
          have hnk := hun k
          have HN : Hid (numsB (ls.take (k + 1)) = numsB (ls.take k) ++ bytesOf (ls[k]?.getD 0) 4) := numsB_snoc ls k (by omega)
          have hlk : (numsB (ls.take k)).length ≤ 28 := by rw [numsB_len, List.length_take]; omega
          generalize ls[k]?.getD 0 = nn at *
          generalize numsB (ls.take k) = X at *
          clear hun hs4 HZ hO HZ0 HM
          go_wp2_with fail
          refine (refPut_own nn hnk.1 (by omega) wr).mono ?_
          rintro e yk ⟨rfl, hoq, hq⟩
          have ns := seg_own hoq (bytesOf_length _ 4)
          have Q := P.next hq
          clear P hq hoq
          go_wp2_with (at_builtin; refine wpList_append_own _ rfl _ _ 26 rfl W4.heap.size 5 i0 (.int .u8 0) 1 1 Tryd.underlying26 hi hz0 hz1' hz2 rfl (by decide) u8 X.length _ rfl Q.own ⟨wr.heap.size, 0, none⟩ 4 4 ((bytesOf nn 4).map (Value.int .u8)) rfl (by simp [bytesOf_length]) (seg_news ns) (news_one _) (by unfold maxLen; omega) (by omega) Q.below.size ?_; intro v2 w2 ho hg hx9; clear hx9; have P2 := Q.app ho (bytesOf_length _ 4) hg)
          go_roundw
          case rel => exact ⟨k + 1, by omega, by go_num, by rw [HN.out]; exact P2⟩
          case measure => simp [intOf]; omega
        · obtain rfl : k = 7 := by omega
          rw [List.take_of_length_le (by omega)] at P
          generalize numsB ls = X at *
          have hX' : X.length ≤ 28 := by omega
          have HX : Hid (X.length = 28) := hX
          clear hX hun hs4 hls hlt hk
          go_wp2_with fail
          refine (refputopq_any aw wl cw Wh wr lcw (by omega) hwl (sw.below P.below) nlw).mono ?_
          rintro e y1 ⟨q1, rfl, hoq, hq⟩
          obtain ⟨g1, k1, rfl, _, _, _⟩ := own_shape hoq (by omega)
          have hopl : (opBytes Wh).length = 4 + (wl + padN wl) := by rw [opBytes_length, hwl]
          have ns := seg_own hoq hopl
          have Q := P.next hq
          clear P hq hoq
          obtain ⟨X2, HXE⟩ : ∃ X2, Hid (X2 = X ++ opBytes Wh) := ⟨_, rfl⟩
          have hX2 : X2.length ≤ 400 := by rw [HXE.out, List.length_append, hopl]; omega
          have hx4 : X2.length + 8 + bl = Z.length := by rw [HZ.out, HXE.out]; simp only [List.length_append, h.bz, List.length_cons, List.length_nil]
          have HZ2 : Hid (Z = (X2 ++ [0, 0, 0, 0, 0, 0, 0, 0]) ++ bs) := by show _ = _; rw [HZ.out, HXE.out]
          have hbs := hO.bseg
          have hbz := hO.bz
          have hbn := hO.bnil
          have HX4 : Hid ((X2 ++ [0, 0, 0, 0, 0, 0, 0, 0]).length = X2.length + 8) := by show _ = _; rw [List.length_append]; rfl
          clear HZ HX
          by_cases hbig : 65536 < Z.length
          · have hbig' : (65536 : Int) < (X2.length : Int) + 8 + bl := by omega
            have HB : Hid (65536 < Z.length) := hbig
            clear hbig hx4
            go_wp2_with (first | (at_builtin; refine wpList_append_own _ rfl _ _ 26 rfl W4.heap.size 5 i0 (.int .u8 0) 1 1 Tryd.underlying26 hi hz0 hz1' hz2 rfl (by decide) u8 X.length _ rfl Q.own ⟨g1, 0, none⟩ (4 + (wl + padN wl)) k1 ((opBytes Wh).map (Value.int .u8)) rfl (by rw [List.length_map, hopl, Nat.mul_one]) (seg_news ns) (news_one _) (by unfold maxLen; omega) (by omega) Q.below.size ?_; intro v2 w2 ho hg hx9; clear hx9; have P2 : Px W4 v2 X2 w2 := (by rw [HXE.out]; exact Q.app ho hopl hg); have lit := seg_lit w2 5 [0, 0, 0, 0, 0, 0, 0, 0]; have Q2 := P2.next ((Below.refl _ _).alloc (Nat.le_refl _) (.cells (([0, 0, 0, 0, 0, 0, 0, 0] : List Int).map (Value.int .u8)).toArray 5)); have o2 := Q2.own; clear ns Q ho hg) | (at_builtin; refine wpList_append_own _ rfl _ _ 26 rfl W4.heap.size 5 i0 (.int .u8 0) 1 1 Tryd.underlying26 hi hz0 hz1' hz2 rfl (by decide) v2 X2.length _ rfl o2 ⟨w2.heap.size, 0, none⟩ 8 8 (([0, 0, 0, 0, 0, 0, 0, 0] : List Int).map (Value.int .u8)) rfl rfl (seg_news lit) (news_one _) (by unfold maxLen; omega) (by omega) Q2.below.size ?_; intro v3 w5 ho3 hg3 hx9; clear hx9; have P3 := Q2.app (ys := [0, 0, 0, 0, 0, 0, 0, 0]) (n := 8) ho3 rfl hg3; obtain ⟨g4, k4, e4, _, hk4, _⟩ := own_shape ho3 (by omega); subst e4; obtain ⟨_, _, _, _, _, _, _, _, _, _, c10⟩ := call_at ((P3.below.block _ hlw).trans hcall); clear lit Q2 o2))
            go_ret2
            refine ⟨hB4.trans (P3.below.mono hB4.size), .inr (.inl ⟨HM.out, by rw [HZ0.out]; exact HB.out, rfl⟩)⟩
          · have hbig' : ¬ (65536 : Int) < (X2.length : Int) + 8 + bl := by omega
            have hle : X2.length + 8 + bl ≤ 65536 := by omega
            have HS : Hid (Z.length ≤ 65536) := Nat.le_of_not_lt hbig
            clear hbig hx4
            go_wp2_with (first | (at_builtin; refine wpList_append_own _ rfl _ _ 26 rfl W4.heap.size 5 i0 (.int .u8 0) 1 1 Tryd.underlying26 hi hz0 hz1' hz2 rfl (by decide) u8 X.length _ rfl Q.own ⟨g1, 0, none⟩ (4 + (wl + padN wl)) k1 ((opBytes Wh).map (Value.int .u8)) rfl (by rw [List.length_map, hopl, Nat.mul_one]) (seg_news ns) (news_one _) (by unfold maxLen; omega) (by omega) Q.below.size ?_; intro v2 w2 ho hg hx9; clear hx9; have P2 : Px W4 v2 X2 w2 := (by rw [HXE.out]; exact Q.app ho hopl hg); have lit := seg_lit w2 5 [0, 0, 0, 0, 0, 0, 0, 0]; have Q2 := P2.next ((Below.refl _ _).alloc (Nat.le_refl _) (.cells (([0, 0, 0, 0, 0, 0, 0, 0] : List Int).map (Value.int .u8)).toArray 5)); have o2 := Q2.own; clear ns Q ho hg) | (at_builtin; refine wpList_append_own _ rfl _ _ 26 rfl W4.heap.size 5 i0 (.int .u8 0) 1 1 Tryd.underlying26 hi hz0 hz1' hz2 rfl (by decide) v2 X2.length _ rfl o2 ⟨w2.heap.size, 0, none⟩ 8 8 (([0, 0, 0, 0, 0, 0, 0, 0] : List Int).map (Value.int .u8)) rfl rfl (seg_news lit) (news_one _) (by unfold maxLen; omega) (by omega) Q2.below.size ?_; intro v3 w5 ho3 hg3 hx9; clear hx9; have P3 := Q2.app (ys := [0, 0, 0, 0, 0, 0, 0, 0]) (n := 8) ho3 rfl hg3; obtain ⟨g4, k4, e4, _, hk4, _⟩ := own_shape ho3 (by omega); subst e4; obtain ⟨_, _, _, _, _, _, _, _, _, _, c10⟩ := call_at ((P3.below.block _ hlw).trans hcall); clear lit Q2 o2) | (at_builtin; refine wpList_append_each _ rfl _ _ 26 rfl W4.heap.size 5 i0 (.int .u8 0) 1 1 Tryd.underlying26 hi hz0 hz1' hz2 rfl (by decide) (.slice (some ⟨g4, 0, none⟩) (X2.length + 8) k4) (X2.length + 8) _ rfl ho3 ba bl bc (bs.map (Value.int .u8)) rfl hbn (by simp [hbz]) (fun b hb => seg_news (by rw [← hb]; exact hbs.below P3.below)) (news_one bs) (by unfold maxLen; omega) (by omega) P3.below.size ?_; intro v5 w7 ho5 hg5))
            go_ret2
            have P5 := P3.app (n := bl) (by rw [HX4.out, List.map_append]; exact ho5) hbz hg5
            rw [← HZ2.out, ← HZ0.out] at P5
            exact ⟨hB4.trans (P5.below.mono hB4.size), .inr (.inr ⟨HM.out, by rw [HZ0.out]; exact HS.out, _, rfl, own_base P5.own hB4.size⟩)⟩
  · have hmay : ¬ MayWho f m s u g gl := by
      rintro (⟨k, _⟩ | ⟨k, _⟩)
      · exact hf0 k
      · exact hf1 k
    have HM : Hid (¬ MayWho f m s u g gl) := hmay
    have hB0 := X0.below
    have k0 : (f == 0) = false := by simp [hf0]
    have k1 : (f == 1) = false := by simp [hf1]
    clear hmay hf0 hf1
    go_enter Tryd.func7, Tryd.ntmps7
    go_wp2
    go_ret2
    exact ⟨hB0, .inl ⟨HM.out, rfl⟩⟩
end Go.Proofs.YtciinabhelfnoaaDoor
