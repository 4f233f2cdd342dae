/- 'Put' of a call: the walk. -/
import Derived.Test.YtciinabhelfnoaaDoorCallPutM
namespace Go.Proofs.YtciinabhelfnoaaDoor
set_option linter.unusedVariables false
open Go.RowKit

/-- The bytes of a call. -/
def callZ (x p v c f s : Int) (m : ByteArray) (u g : Int) (gs bs : List Int) : List Int := callB x p v c f (whoB f s (tz m) u g gs) bs

theorem callZ_parts (x p v c f s : Int) (m : ByteArray) (u g : Int) (gs bs : List Int) : callZ x p v c f s m u g gs bs = ((((numsB [x, 0, 2, p, v, c, f] ++ opBytes (whoB f s (tz m) u g gs)) ++ bytesOf 0 4) ++ opBytes []) ++ bs) := by
  simp only [callZ, callB, numsB_two, opBytes_nil, numsB_one, List.append_assoc]

set_option maxRecDepth 100000 in
set_option maxHeartbeats 4000000 in
theorem clput_any (x p v c f : Int) (m : ByteArray) (s u g : Int) (ga : Option Addr) (gl gc : Nat) (ba : Option Addr) (bl bc : Nat) (gs bs : List Int) (w : World) (h : CallOk x p v c f m s u g ga gl gc ba bl bc gs bs w) :
    Calls Tryd.prog 6 #[.agg #[.int .u32 x, .int .u32 p, .int .u32 v, .int .u32 c, .int .u32 f, .string m, .int .u32 s, .int .u32 u, .int .u32 g, .slice ga gl gc, .slice ba bl bc]] w fun e w' => Below w.heap.size w w' ∧ ((¬ MayWho f m s u g gl ∧ e = .returned (.tuple #[.slice none 0 0, .int .i64 1])) ∨ (MayWho f m s u g gl ∧ 65536 < (callZ x p v c f s m u g gs bs).length ∧ e = .returned (.tuple #[.slice none 0 0, .int .i64 3])) ∨
      (MayWho f m s u g gl ∧ (callZ x p v c f s m u g gs bs).length ≤ 65536 ∧ ∃ vb, e = .returned (.tuple #[vb, .int .i64 0]) ∧ w'.ownsRow w.heap.size 5 1 vb (callZ x p v c f s m u g gs bs).length ((callZ x p v c f s m u g gs bs).map (Value.int .u8)))) := by
  obtain ⟨i0, hi, hz0, hz1', hz2⟩ := info_parts infoB
  have hB : Below w.heap.size w (w.alloc (.cells #[.int .u32 x, .int .u32 p, .int .u32 v, .int .u32 c, .int .u32 f, .string m, .int .u32 s, .int .u32 u, .int .u32 g, .slice ga gl gc, .slice ba bl bc] 28)) := (Below.refl _ _).alloc (Nat.le_refl _) _
  have hh0 : (w.alloc (.cells #[.int .u32 x, .int .u32 p, .int .u32 v, .int .u32 c, .int .u32 f, .string m, .int .u32 s, .int .u32 u, .int .u32 g, .slice ga gl gc, .slice ba bl bc] 28)).heap[w.heap.size]? = some (.cells #[.int .u32 x, .int .u32 p, .int .u32 v, .int .u32 c, .int .u32 f, .string m, .int .u32 s, .int .u32 u, .int .u32 g, .slice ga gl gc, .slice ba bl bc] 28) := heap_alloc_new w _
  have hO := h.below hB
  have hbl : bl ≤ 140737488351232 := by have := h.blc; have := h.bcm; omega
  go_enter Tryd.func6, Tryd.ntmps6
  go_wp2_with fail
  refine (putwho_any x p v c f m s u g ga gl gc ba bl bc gs bs _ hO).mono ?_
  rintro e W1 ⟨hb1, ⟨hmay, vw, rfl, how⟩ | ⟨hmay, rfl⟩⟩
  case inr =>
    go_wp2
    go_ret2
    exact ⟨hB.trans (hb1.mono hB.size), .inl ⟨hmay, rfl⟩⟩
  have hB1 := hB.trans (hb1.mono hB.size)
  have hh1 := (hb1.block _ (Array.getElem?_eq_some_iff.1 hh0).1).trans hh0
  have hO1 := hO.below hb1
  have hlw : w.heap.size < W1.heap.size := (Array.getElem?_eq_some_iff.1 hh1).1
  have hwl := (who_len (h.who hmay)).1
  have hparts := callZ_parts x p v c f s m u g gs bs
  have hpad := padN_lt (whoB f s (tz m) u g gs).length
  have hopl := opBytes_length (whoB f s (tz m) u g gs)
  generalize whoB f s (tz m) u g gs = Wh at *
  obtain ⟨Z, HZ0⟩ : ∃ Z, Hid (Z = callZ x p v c f s m u g gs bs) := ⟨_, rfl⟩
  rw [← HZ0.out] at hparts
  obtain ⟨aw, cw, rfl, sw, lcw, cmw, nlw⟩ := own_val how rfl
  have hMW : Hid (MayWho f m s u g gl) := hmay
  clear hB hb1 hh0 hO h how hmay
  generalize hwl' : Wh.length = wl at *
  have hx := hO1.hx
  have hp := hO1.hp
  have hv := hO1.hv
  have hc := hO1.hc
  have hf := hO1.hf
  obtain ⟨c0, c1, c2, c3, c4, c5, c6, c7, c8, c9, c10⟩ := call_at hh1
  go_wp2_with fail
  clear c0 c1 c2 c3 c4 c5 c6 c7 c8 c9 c10
  go_loopw [6, 28] (fun vx i wr => ∃ k : Nat, k ≤ 7 ∧ i = .int .i64 k ∧ Px W1 vx (numsB ([x, 0, 2, p, v, c, f].take k)) wr) (fun _ i _ => 7 - (intOf i).toNat)
  case atStart => exact ⟨0, by omega, rfl, Below.refl _ _, World.ownsRow_nil _ _ _ _⟩
  case round =>
    obtain ⟨k, hk, rfl, P⟩ := hrel
    by_cases hlt : k < 7
    · have hk7 : k = 0 ∨ k = 1 ∨ k = 2 ∨ k = 3 ∨ k = 4 ∨ k = 5 ∨ k = 6 := by omega
      clear hk hlt
      rcases hk7 with rfl | rfl | rfl | rfl | rfl | rfl | rfl
      · replace P : Px W1 u6 (numsB []) wr := P
        have hl : (numsB []).length = 0 := by rw [numsB_len]; rfl
        have HN : Hid (numsB [x] = numsB [] ++ bytesOf x 4) := by show _ = _; simp [numsB]
        generalize numsB [] = X at P hl HN
        have hix : ∀ w : World, (Instr.index 50 (.agg #[.int .u32 x, .int .u32 0, .int .u32 2, .int .u32 p, .int .u32 v, .int .u32 c, .int .u32 f]) (.int .i64 0)).run Tryd.prog w = .ok (.int .u32 x) w := fun _ => rfl
        replace hl : X.length ≤ 0 := by omega
        go_wp2_with fail
        refine (Put_any x (by omega) (by omega) wr).mono ?_
        rintro e yk ⟨rfl, hoq, hq⟩
        have ns := seg_own hoq (bytesOf_length _ 4)
        have Q := P.next hq
        clear P hq hoq
        go_wp2_with (at_builtin; refine wpList_append_own _ rfl _ _ 26 rfl W1.heap.size 5 i0 (.int .u8 0) 1 1 Tryd.underlying26 hi hz0 hz1' hz2 rfl (by decide) u6 X.length _ rfl Q.own ⟨wr.heap.size, 0, none⟩ 4 4 ((bytesOf x 4).map (Value.int .u8)) rfl (by simp [bytesOf_length]) (seg_news ns) (news_one _) (by unfold maxLen; omega) (by omega) Q.below.size ?_; intro v2 w2 ho hg _; have P2 := Q.app ho (bytesOf_length _ 4) hg)
        go_roundw
        case rel => exact ⟨1, by omega, rfl, by show Px W1 _ (numsB [x]) _; rw [HN.out]; exact P2⟩
        case measure => simp [intOf]
      · replace P : Px W1 u6 (numsB [x]) wr := P
        have hl : (numsB [x]).length = 4 := by rw [numsB_len]; rfl
        have HN : Hid (numsB [x, 0] = numsB [x] ++ bytesOf 0 4) := by show _ = _; simp [numsB]
        generalize numsB [x] = X at P hl HN
        have hix : ∀ w : World, (Instr.index 50 (.agg #[.int .u32 x, .int .u32 0, .int .u32 2, .int .u32 p, .int .u32 v, .int .u32 c, .int .u32 f]) (.int .i64 1)).run Tryd.prog w = .ok (.int .u32 0) w := fun _ => rfl
        replace hl : X.length ≤ 4 := by omega
        go_wp2_with fail
        refine (Put_any 0 (by omega) (by omega) wr).mono ?_
        rintro e yk ⟨rfl, hoq, hq⟩
        have ns := seg_own hoq (bytesOf_length _ 4)
        have Q := P.next hq
        clear P hq hoq
        go_wp2_with (at_builtin; refine wpList_append_own _ rfl _ _ 26 rfl W1.heap.size 5 i0 (.int .u8 0) 1 1 Tryd.underlying26 hi hz0 hz1' hz2 rfl (by decide) u6 X.length _ rfl Q.own ⟨wr.heap.size, 0, none⟩ 4 4 ((bytesOf 0 4).map (Value.int .u8)) rfl (by simp [bytesOf_length]) (seg_news ns) (news_one _) (by unfold maxLen; omega) (by omega) Q.below.size ?_; intro v2 w2 ho hg _; have P2 := Q.app ho (bytesOf_length _ 4) hg)
        go_roundw
        case rel => exact ⟨2, by omega, rfl, by show Px W1 _ (numsB [x, 0]) _; rw [HN.out]; exact P2⟩
        case measure => simp [intOf]
      · replace P : Px W1 u6 (numsB [x, 0]) wr := P
        have hl : (numsB [x, 0]).length = 8 := by rw [numsB_len]; rfl
        have HN : Hid (numsB [x, 0, 2] = numsB [x, 0] ++ bytesOf 2 4) := by show _ = _; simp [numsB]
        generalize numsB [x, 0] = X at P hl HN
        have hix : ∀ w : World, (Instr.index 50 (.agg #[.int .u32 x, .int .u32 0, .int .u32 2, .int .u32 p, .int .u32 v, .int .u32 c, .int .u32 f]) (.int .i64 2)).run Tryd.prog w = .ok (.int .u32 2) w := fun _ => rfl
        replace hl : X.length ≤ 8 := by omega
        go_wp2_with fail
        refine (Put_any 2 (by omega) (by omega) wr).mono ?_
        rintro e yk ⟨rfl, hoq, hq⟩
        have ns := seg_own hoq (bytesOf_length _ 4)
        have Q := P.next hq
        clear P hq hoq
        go_wp2_with (at_builtin; refine wpList_append_own _ rfl _ _ 26 rfl W1.heap.size 5 i0 (.int .u8 0) 1 1 Tryd.underlying26 hi hz0 hz1' hz2 rfl (by decide) u6 X.length _ rfl Q.own ⟨wr.heap.size, 0, none⟩ 4 4 ((bytesOf 2 4).map (Value.int .u8)) rfl (by simp [bytesOf_length]) (seg_news ns) (news_one _) (by unfold maxLen; omega) (by omega) Q.below.size ?_; intro v2 w2 ho hg _; have P2 := Q.app ho (bytesOf_length _ 4) hg)
        go_roundw
        case rel => exact ⟨3, by omega, rfl, by show Px W1 _ (numsB [x, 0, 2]) _; rw [HN.out]; exact P2⟩
        case measure => simp [intOf]
      · replace P : Px W1 u6 (numsB [x, 0, 2]) wr := P
        have hl : (numsB [x, 0, 2]).length = 12 := by rw [numsB_len]; rfl
        have HN : Hid (numsB [x, 0, 2, p] = numsB [x, 0, 2] ++ bytesOf p 4) := by show _ = _; simp [numsB]
        generalize numsB [x, 0, 2] = X at P hl HN
        have hix : ∀ w : World, (Instr.index 50 (.agg #[.int .u32 x, .int .u32 0, .int .u32 2, .int .u32 p, .int .u32 v, .int .u32 c, .int .u32 f]) (.int .i64 3)).run Tryd.prog w = .ok (.int .u32 p) w := fun _ => rfl
        replace hl : X.length ≤ 12 := by omega
        go_wp2_with fail
        refine (Put_any p (by omega) (by omega) wr).mono ?_
        rintro e yk ⟨rfl, hoq, hq⟩
        have ns := seg_own hoq (bytesOf_length _ 4)
        have Q := P.next hq
        clear P hq hoq
        go_wp2_with (at_builtin; refine wpList_append_own _ rfl _ _ 26 rfl W1.heap.size 5 i0 (.int .u8 0) 1 1 Tryd.underlying26 hi hz0 hz1' hz2 rfl (by decide) u6 X.length _ rfl Q.own ⟨wr.heap.size, 0, none⟩ 4 4 ((bytesOf p 4).map (Value.int .u8)) rfl (by simp [bytesOf_length]) (seg_news ns) (news_one _) (by unfold maxLen; omega) (by omega) Q.below.size ?_; intro v2 w2 ho hg _; have P2 := Q.app ho (bytesOf_length _ 4) hg)
        go_roundw
        case rel => exact ⟨4, by omega, rfl, by show Px W1 _ (numsB [x, 0, 2, p]) _; rw [HN.out]; exact P2⟩
        case measure => simp [intOf]
      · replace P : Px W1 u6 (numsB [x, 0, 2, p]) wr := P
        have hl : (numsB [x, 0, 2, p]).length = 16 := by rw [numsB_len]; rfl
        have HN : Hid (numsB [x, 0, 2, p, v] = numsB [x, 0, 2, p] ++ bytesOf v 4) := by show _ = _; simp [numsB]
        generalize numsB [x, 0, 2, p] = X at P hl HN
        have hix : ∀ w : World, (Instr.index 50 (.agg #[.int .u32 x, .int .u32 0, .int .u32 2, .int .u32 p, .int .u32 v, .int .u32 c, .int .u32 f]) (.int .i64 4)).run Tryd.prog w = .ok (.int .u32 v) w := fun _ => rfl
        replace hl : X.length ≤ 16 := by omega
        go_wp2_with fail
        refine (Put_any v (by omega) (by omega) wr).mono ?_
        rintro e yk ⟨rfl, hoq, hq⟩
        have ns := seg_own hoq (bytesOf_length _ 4)
        have Q := P.next hq
        clear P hq hoq
        go_wp2_with (at_builtin; refine wpList_append_own _ rfl _ _ 26 rfl W1.heap.size 5 i0 (.int .u8 0) 1 1 Tryd.underlying26 hi hz0 hz1' hz2 rfl (by decide) u6 X.length _ rfl Q.own ⟨wr.heap.size, 0, none⟩ 4 4 ((bytesOf v 4).map (Value.int .u8)) rfl (by simp [bytesOf_length]) (seg_news ns) (news_one _) (by unfold maxLen; omega) (by omega) Q.below.size ?_; intro v2 w2 ho hg _; have P2 := Q.app ho (bytesOf_length _ 4) hg)
        go_roundw
        case rel => exact ⟨5, by omega, rfl, by show Px W1 _ (numsB [x, 0, 2, p, v]) _; rw [HN.out]; exact P2⟩
        case measure => simp [intOf]
      · replace P : Px W1 u6 (numsB [x, 0, 2, p, v]) wr := P
        have hl : (numsB [x, 0, 2, p, v]).length = 20 := by rw [numsB_len]; rfl
        have HN : Hid (numsB [x, 0, 2, p, v, c] = numsB [x, 0, 2, p, v] ++ bytesOf c 4) := by show _ = _; simp [numsB]
        generalize numsB [x, 0, 2, p, v] = X at P hl HN
        have hix : ∀ w : World, (Instr.index 50 (.agg #[.int .u32 x, .int .u32 0, .int .u32 2, .int .u32 p, .int .u32 v, .int .u32 c, .int .u32 f]) (.int .i64 5)).run Tryd.prog w = .ok (.int .u32 c) w := fun _ => rfl
        replace hl : X.length ≤ 20 := by omega
        go_wp2_with fail
        refine (Put_any c (by omega) (by omega) wr).mono ?_
        rintro e yk ⟨rfl, hoq, hq⟩
        have ns := seg_own hoq (bytesOf_length _ 4)
        have Q := P.next hq
        clear P hq hoq
        go_wp2_with (at_builtin; refine wpList_append_own _ rfl _ _ 26 rfl W1.heap.size 5 i0 (.int .u8 0) 1 1 Tryd.underlying26 hi hz0 hz1' hz2 rfl (by decide) u6 X.length _ rfl Q.own ⟨wr.heap.size, 0, none⟩ 4 4 ((bytesOf c 4).map (Value.int .u8)) rfl (by simp [bytesOf_length]) (seg_news ns) (news_one _) (by unfold maxLen; omega) (by omega) Q.below.size ?_; intro v2 w2 ho hg _; have P2 := Q.app ho (bytesOf_length _ 4) hg)
        go_roundw
        case rel => exact ⟨6, by omega, rfl, by show Px W1 _ (numsB [x, 0, 2, p, v, c]) _; rw [HN.out]; exact P2⟩
        case measure => simp [intOf]
      · replace P : Px W1 u6 (numsB [x, 0, 2, p, v, c]) wr := P
        have hl : (numsB [x, 0, 2, p, v, c]).length = 24 := by rw [numsB_len]; rfl
        have HN : Hid (numsB [x, 0, 2, p, v, c, f] = numsB [x, 0, 2, p, v, c] ++ bytesOf f 4) := by show _ = _; simp [numsB]
        generalize numsB [x, 0, 2, p, v, c] = X at P hl HN
        have hix : ∀ w : World, (Instr.index 50 (.agg #[.int .u32 x, .int .u32 0, .int .u32 2, .int .u32 p, .int .u32 v, .int .u32 c, .int .u32 f]) (.int .i64 6)).run Tryd.prog w = .ok (.int .u32 f) w := fun _ => rfl
        replace hl : X.length ≤ 24 := by omega
        go_wp2_with fail
        refine (Put_any f (by omega) (by omega) wr).mono ?_
        rintro e yk ⟨rfl, hoq, hq⟩
        have ns := seg_own hoq (bytesOf_length _ 4)
        have Q := P.next hq
        clear P hq hoq
        go_wp2_with (at_builtin; refine wpList_append_own _ rfl _ _ 26 rfl W1.heap.size 5 i0 (.int .u8 0) 1 1 Tryd.underlying26 hi hz0 hz1' hz2 rfl (by decide) u6 X.length _ rfl Q.own ⟨wr.heap.size, 0, none⟩ 4 4 ((bytesOf f 4).map (Value.int .u8)) rfl (by simp [bytesOf_length]) (seg_news ns) (news_one _) (by unfold maxLen; omega) (by omega) Q.below.size ?_; intro v2 w2 ho hg _; have P2 := Q.app ho (bytesOf_length _ 4) hg)
        go_roundw
        case rel => exact ⟨7, by omega, rfl, by show Px W1 _ (numsB [x, 0, 2, p, v, c, f]) _; rw [HN.out]; exact P2⟩
        case measure => simp [intOf]
    · obtain rfl : k = 7 := by omega
      replace P : Px W1 u6 (numsB [x, 0, 2, p, v, c, f]) wr := P
      have hl : (numsB [x, 0, 2, p, v, c, f]).length = 28 := by rw [numsB_len]; rfl
      generalize numsB [x, 0, 2, p, v, c, f] = X at P hl hparts
      have hX : X.length ≤ 28 := by omega
      have HX : Hid (X.length = 28) := hl
      clear hl hlt hk
      have hzl : Z.length = 40 + (wl + padN wl) + bl := by
        rw [hparts]
        simp only [List.length_append, hopl, bytesOf_length, hO1.bz, HX.out, opBytes_nil, numsB_len, List.length_cons, List.length_nil]
        omega
      go_wp2_with fail
      refine (putopq_any aw wl cw Wh wr lcw (by omega) hwl' (sw.below P.below) nlw).mono ?_
      rintro e y1 ⟨q1, rfl, hoq, hq⟩
      obtain ⟨g1, k1, rfl, _, _, _⟩ := own_shape hoq (by omega)
      have ns := seg_own hoq hopl
      have Q := P.next hq
      clear P hq hoq
      go_wp2_with (at_builtin; refine wpList_append_own _ rfl _ _ 26 rfl W1.heap.size 5 i0 (.int .u8 0) 1 1 Tryd.underlying26 hi hz0 hz1' hz2 rfl (by decide) u6 X.length _ rfl Q.own ⟨g1, 0, none⟩ (4 + (wl + padN wl)) k1 ((opBytes Wh).map (Value.int .u8)) rfl (by simp [hopl]) (seg_news ns) (news_one _) (by unfold maxLen; omega) (by omega) Q.below.size ?_; intro v2 w2 ho hg _; have P2 := Q.app ho hopl hg)
      have hX2 : (X ++ opBytes Wh).length ≤ 400 := by rw [List.length_append, hopl]; omega
      have HX2 : Hid ((X ++ opBytes Wh).length = 28 + (4 + (wl + padN wl))) := by show _ = _; rw [List.length_append, hopl, HX.out]
      generalize X ++ opBytes Wh = X2 at P2 hX2 HX2 hparts
      clear Q ns ho hg HX hX
      refine (Put_any 0 (by omega) (by omega) w2).mono ?_
      rintro e y2 ⟨rfl, hoq, hq⟩
      have ns := seg_own hoq (bytesOf_length _ 4)
      have Q := P2.next hq
      clear P2 hq hoq
      go_wp2_with (at_builtin; refine wpList_append_own _ rfl _ _ 26 rfl W1.heap.size 5 i0 (.int .u8 0) 1 1 Tryd.underlying26 hi hz0 hz1' hz2 rfl (by decide) v2 X2.length _ rfl Q.own ⟨w2.heap.size, 0, none⟩ 4 4 ((bytesOf 0 4).map (Value.int .u8)) rfl (by simp [bytesOf_length]) (seg_news ns) (news_one _) (by unfold maxLen; omega) (by omega) Q.below.size ?_; intro v3 w3 ho hg _; have P3 := Q.app ho (bytesOf_length _ 4) hg)
      have hX3 : (X2 ++ bytesOf 0 4).length ≤ 404 := by rw [List.length_append, bytesOf_length]; omega
      have HX3 : Hid ((X2 ++ bytesOf 0 4).length = 32 + (4 + (wl + padN wl))) := by show _ = _; rw [List.length_append, bytesOf_length, HX2.out]; omega
      generalize X2 ++ bytesOf 0 4 = X3 at P3 hX3 HX3 hparts
      clear Q ns ho hg HX2 hX2
      have hx4 : X3.length + 4 + bl = Z.length := by rw [HX3.out, hzl]; omega
      have hol0 : (opBytes []).length = 4 := rfl
      have HX4 : Hid ((X3 ++ opBytes []).length = X3.length + 4) := by show _ = _; rw [List.length_append, hol0]
      have HZ : Hid (Z = (X3 ++ opBytes []) ++ bs) := hparts
      clear hparts hzl HX3
      refine (putopq_any none 0 0 [] w3 (Nat.le_refl _) (by omega) rfl (.inl rfl) (fun _ => ⟨rfl, rfl⟩)).mono ?_
      rintro e y3 ⟨q3, rfl, hoq, hq⟩
      obtain ⟨g3, k3, rfl, _, _, _⟩ := own_shape hoq (by omega)
      rw [show 4 + (0 + padN 0) = 4 from rfl] at hoq
      have ns := seg_own hoq hol0
      have Q := P3.next hq
      clear P3 hq hoq
      have hbs := hO1.bseg
      have hbz := hO1.bz
      have hbn := hO1.bnil
      by_cases hbig : 65536 < Z.length
      · have hbig' : (65536 : Int) < (X3.length : Int) + 4 + bl := by omega
        rw [HZ0.out] at hbig
        go_wp2_with (at_builtin; refine wpList_append_own _ rfl _ _ 26 rfl W1.heap.size 5 i0 (.int .u8 0) 1 1 Tryd.underlying26 hi hz0 hz1' hz2 rfl (by decide) v3 X3.length _ rfl Q.own ⟨g3, 0, none⟩ 4 k3 ((opBytes []).map (Value.int .u8)) rfl (by rw [List.length_map, hol0]) (seg_news ns) (news_one _) (by unfold maxLen; omega) (by omega) Q.below.size ?_; intro v4 w4 ho hg _; have P4 := Q.app ho hol0 hg; obtain ⟨g4, k4, rfl, _, hk4, _⟩ := own_shape ho (by omega); obtain ⟨_, _, _, _, _, _, _, _, _, _, c10⟩ := call_at ((P4.below.block _ hlw).trans hh1))
        go_ret2
        exact ⟨hB1.trans (P4.below.mono hB1.size), .inr (.inl ⟨hMW.out, hbig, rfl⟩)⟩
      · have hbig' : ¬ (65536 : Int) < (X3.length : Int) + 4 + bl := by omega
        have hle : X3.length + 4 + bl ≤ 65536 := by omega
        have hsm : Z.length ≤ 65536 := by omega
        rw [HZ0.out] at hsm
        clear hbig
        go_wp2_with (first | (at_builtin; refine wpList_append_own _ rfl _ _ 26 rfl W1.heap.size 5 i0 (.int .u8 0) 1 1 Tryd.underlying26 hi hz0 hz1' hz2 rfl (by decide) v3 X3.length _ rfl Q.own ⟨g3, 0, none⟩ 4 k3 ((opBytes []).map (Value.int .u8)) rfl (by rw [List.length_map, hol0]) (seg_news ns) (news_one _) (by unfold maxLen; omega) (by omega) Q.below.size ?_; intro v4 w4 ho hg _; have P4 := Q.app ho hol0 hg; obtain ⟨g4, k4, rfl, _, hk4, _⟩ := own_shape ho (by omega); obtain ⟨_, _, _, _, _, _, _, _, _, _, c10⟩ := call_at ((P4.below.block _ hlw).trans hh1)) | (at_builtin; refine wpList_append_each _ rfl _ _ 26 rfl W1.heap.size 5 i0 (.int .u8 0) 1 1 Tryd.underlying26 hi hz0 hz1' hz2 rfl (by decide) (.slice (some ⟨g4, 0, none⟩) (X3.length + 4) k4) (X3.length + 4) _ rfl ho ba bl bc (bs.map (Value.int .u8)) rfl hbn (by simp [hbz]) (fun b hb => seg_news (by rw [← hb]; exact hbs.below P4.below)) (news_one bs) (by unfold maxLen; omega) (by omega) P4.below.size ?_; intro v5 w5 ho5 hg5))
        go_ret2
        have P5 := P4.app (n := bl) (by rw [HX4.out, List.map_append]; exact ho5) hbz hg5
        rw [← HZ.out, HZ0.out] at P5
        exact ⟨hB1.trans (P5.below.mono hB1.size), .inr (.inr ⟨hMW.out, hsm, _, rfl, own_base P5.own hB1.size⟩)⟩
end Go.Proofs.YtciinabhelfnoaaDoor
