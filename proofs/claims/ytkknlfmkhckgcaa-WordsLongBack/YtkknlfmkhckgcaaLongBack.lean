/- The walk of 'WordsLongBack': true for any long number, any bytes behind it, any cut; nothing that was there turns. -/
import Derived.Test.YtkknlfmkhckgcaaBack
import Derived.Deep.RegionHeld3
namespace Go.Proofs.Ytkknlfmkhckgcaa
set_option linter.unusedVariables false
open Go.RowKit

theorem getlong_put (n : Int) (zs : List Int) (h0 : 0 ≤ n) (h1 : n ≤ 18446744073709551615) : getM (bytesOf n 8 ++ zs) = n ∧ getF (bytesOf n 8 ++ zs) = 0 := by
  have hl : ¬ (bytesOf n 8 ++ zs).length < 8 := by rw [List.length_append, bytesOf_length]; omega
  unfold getM getF
  rw [if_neg hl, if_neg hl, List.take_left' (bytesOf_length n 8)]
  exact ⟨be_bytesOf 8 n h0 (by omega), rfl⟩

/-- The halves of a long number's bytes. -/
theorem halves (n : Int) : bytesOf n 8 = bytesOf (n / 4294967296 % 4294967296) 4 ++ bytesOf (n % 4294967296) 4 := by
  have h1 := bytesOf_add n 4 4
  have h2 := bytesOf_mod (n / 4294967296) 4
  have h3 := bytesOf_mod n 4
  rw [show (256 : Int) ^ 4 = 4294967296 from by decide] at h1 h2 h3
  rw [h2, h3, ← h1]

/-- What stays while the halves are looked at. -/
structure St (w : World) (g : Nat) (n : Int) (W : World) : Prop where
  below : Below w.heap.size w W
  own : W.ownsRow g 5 1 (.slice (some ⟨g, 0, none⟩) 8 8) 8 ((bytesOf n 8).map (Value.int .u8))

theorem St.all {w W : World} {g : Nat} {n : Int} (h : St w g n W) : Seg W (some ⟨g, 0, none⟩) (bytesOf n 8) := seg_own h.own (bytesOf_length n 8)

theorem Seg.right {w : World} {g : Nat} {xs ys : List Int} {k : Nat} (h : Seg w (some ⟨g, 0, none⟩) (xs ++ ys)) (hk : xs.length = k) : Seg w (some ⟨g, k, none⟩) ys := by
  rcases h with h | ⟨b, off, e, hc⟩
  · exact .inl (by simp at h; exact h.2)
  · cases e
    refine .inr ⟨g, k, rfl, fun i hi => ?_⟩
    have := hc (k + i) (by rw [List.length_append]; omega)
    rw [List.getElem?_append_right (by omega), show k + i - xs.length = i from by omega, Nat.zero_add] at this
    exact this

theorem Seg.left {w : World} {g : Nat} {xs ys : List Int} (h : Seg w (some ⟨g, 0, none⟩) (xs ++ ys)) : Seg w (some ⟨g, 0, none⟩) xs := by
  have := h.take xs.length
  rwa [List.take_left] at this

theorem St.hi {w W : World} {g : Nat} {n : Int} (h : St w g n W) : Seg W (some ⟨g, 0, none⟩) (bytesOf (n / 4294967296 % 4294967296) 4) := by
  have := h.all
  rw [halves] at this
  exact this.left
theorem St.lo {w W : World} {g : Nat} {n : Int} (h : St w g n W) : Seg W (some ⟨g, 4, none⟩) (bytesOf (n % 4294967296) 4) := by
  have := h.all
  rw [halves] at this
  exact this.right (bytesOf_length _ _)

theorem St.put {w W W' : World} {g : Nat} {n : Int} (h : St w g n W) (hb : Below W.heap.size W W') : St w g n W' := ⟨h.below.trans (hb.mono h.below.size), own_below h.own hb⟩
theorem St.drewN {w W : World} {g : Nat} {n : Int} (h : St w g n W) (k : Nat) : St w g n (W.drewN k) := ⟨below_drewN h.below k, own_below h.own (below_drewN (Below.refl _ _) k)⟩

theorem Put_st (w : World) (g : Nat) (n x : Int) (W : World) (h : St w g n W) :
    Calls Try.prog 18 #[.int .u32 (IntKind.u32.wrap x)] W fun e W' => ∃ g', e = .returned (.slice (some ⟨g', 0, none⟩) 4 4) ∧ Seg W' (some ⟨g', 0, none⟩) (bytesOf (x % 4294967296) 4) ∧ St w g n W' := by
  rw [IntKind.wrap_u32']
  refine (Put_any (x % 4294967296) (by omega) (by omega) W).mono ?_
  rintro e W' ⟨rfl, hown, hb⟩
  exact ⟨_, rfl, seg_own hown (bytesOf_length _ _), h.put hb⟩

theorem same_hi (w : World) (g g' : Nat) (n : Int) (W : World) (h : St w g n W) (hs : Seg W (some ⟨g', 0, none⟩) (bytesOf (n / 4294967296 % 4294967296) 4)) :
    Calls Try.prog 20 #[.slice (some ⟨g, 0, none⟩) 4 8, .slice (some ⟨g', 0, none⟩) 4 4] W fun e W' => e = .returned (.bool true) ∧ St w g n W' := by
  refine (same_true _ _ 4 8 4 (bytesOf (n / 4294967296 % 4294967296) 4) W (by omega) (bytesOf_length _ _) h.hi hs).mono ?_
  rintro e W' ⟨rfl, k, rfl⟩
  exact ⟨rfl, h.drewN k⟩

theorem same_lo (w : World) (g g' : Nat) (n : Int) (W : World) (h : St w g n W) (hs : Seg W (some ⟨g', 0, none⟩) (bytesOf (n % 4294967296) 4)) :
    Calls Try.prog 20 #[.slice (some ⟨g, 4, none⟩) 4 4, .slice (some ⟨g', 0, none⟩) 4 4] W fun e W' => e = .returned (.bool true) ∧ St w g n W' := by
  refine (same_true _ _ 4 4 4 (bytesOf (n % 4294967296) 4) W (by omega) (bytesOf_length _ _) h.lo hs).mono ?_
  rintro e W' ⟨rfl, k, rfl⟩
  exact ⟨rfl, h.drewN k⟩

set_option maxRecDepth 100000 in
set_option maxHeartbeats 2000000 in
theorem longback_walk (n : Int) (a : Option Addr) (len cap : Nat) (zs : List Int) (cut : Int) (w : World) (hn0 : 0 ≤ n) (hn1 : n ≤ 18446744073709551615) (hc0 : 0 ≤ cut) (hc1 : cut ≤ 255)
    (hlc : len ≤ cap) (hm : cap ≤ 9223372036854775807) (hz : zs.length = len) (hb : Byt zs) (hs : Seg w a zs) (hnil : a = none → len = 0 ∧ cap = 0) :
    Calls Try.prog 7 #[.int .u64 n, .slice a len cap, .int .u8 cut] w fun e w' => e = .returned (.bool true) ∧ Below w.heap.size w w' := by
  obtain ⟨i0, hi, hz0, hz1, hz2⟩ := info_parts infoB
  by_cases hl : 1048576 < len
  · go_enter Try.func7, Try.ntmps7
    go_wp2_with fail
    refine (alive_any w).mono ?_
    rintro e w1 ⟨rfl, hB1⟩
    go_wp2_with (go_at_call 8; refine (beyond_yes (len : Int) _ _ (by omega) (by omega) (by simp)).mono ?_; rintro e w' ⟨rfl, rfl⟩)
    refine (alive_any _).mono ?_
    rintro e w2 ⟨rfl, hB2⟩
    have hB3 := (hB1.alloc hB1.size (.cells #[.int .i64 (len : Int)] 3)).trans (hB2.mono (by simp; have := hB1.size; omega))
    go_wp2
    go_ret
    exact ⟨rfl, hB3⟩
  · go_enter Try.func7, Try.ntmps7
    go_wp2_with fail
    refine (alive_any w).mono ?_
    rintro e w1 ⟨rfl, hB1⟩
    go_wp2_with (go_at_call 8; refine (beyond_no (len : Int) _ _ (by omega) (by omega) (by simp)).mono ?_; rintro e w' ⟨rfl, rfl⟩)
    have hB2 := hB1.alloc hB1.size (.cells #[.int .i64 (len : Int)] 3)
    generalize w1.alloc (.cells #[.int .i64 (len : Int)] 3) = w2 at hB2 ⊢
    clear hB1
    refine (PutLong_any n hn0 hn1 _).mono ?_
    rintro e w3 ⟨rfl, hown, hb3⟩
    have hB3 := hB2.trans (hb3.mono hB2.size)
    have hg : w.heap.size ≤ w2.heap.size := hB2.size
    generalize w2.heap.size = g at *
    clear hb3 hB2
    have hst : St w g n w3.drew := ⟨hB3.drew, own_below hown ((Below.refl _ _).drew)⟩
    have hs3 := hs.below hB3
    clear hB3 hown
    go_wp2_with fail
    go_region_held3 (fun w' => St w g n w') (assumption) (first
      | (go_at_call 18; refine (Put_st w g n _ _ ?_).mono ?_; assumption; rintro e w' ⟨g', rfl, hsx, hsty⟩)
      | (go_at_call_of 20 (⟨g, 0, none⟩ : Addr); refine (same_hi w g _ n _ ?_ ?_).mono ?_; assumption; assumption; rintro e w' ⟨rfl, hsty⟩)
      | (go_at_call_of 20 (⟨g, 4, none⟩ : Addr); refine (same_lo w g _ n _ ?_ ?_).mono ?_; assumption; assumption; rintro e w' ⟨rfl, hsty⟩))
    obtain ⟨hB3, hown⟩ := hsty
    rename_i hHd
    clear hHd hst hs3 hsx
    have hsg := seg_own hown (bytesOf_length n 8)
    have hsa := hs.below hB3
    have hcl : ((bytesOf n 8).take (cut % 8).toNat).length = (cut % 8).toNat := by rw [List.length_take, bytesOf_length]; omega
    have hgp := getlong_put n zs hn0 hn1
    have hln : ((bytesOf n 8).map (Value.int .u8)).length = 8 := by rw [List.length_map, bytesOf_length]
    go_wp2_with fail
    refine (getlong_any _ (cut % 8).toNat 8 ((bytesOf n 8).take (cut % 8).toNat) _ (by omega) (by omega) hcl ((byt_bytesOf n 8).take _) (hsg.take _)).mono ?_
    rintro e w' ⟨rfl, rfl⟩
    rw [show getM ((bytesOf n 8).take (cut % 8).toNat) = 0 from by unfold getM; rw [hcl, if_pos (by omega)], show getF ((bytesOf n 8).take (cut % 8).toNat) = 4 from by unfold getF; rw [hcl, if_pos (by omega)]]
    have HG : Hid (getM (bytesOf n 8 ++ zs) = n ∧ getF (bytesOf n 8 ++ zs) = 0) := hgp
    clear hcl hgp hln
    cases a with
    | none =>
      obtain ⟨rfl, rfl⟩ := hnil rfl
      obtain rfl : zs = [] := List.length_eq_zero_iff.1 hz
      go_wp2_with (at_builtin; refine wpList_append_own_none rfl _ _ 22 rfl w.heap.size 5 i0 1 Try.underlying22 hi _ 8 _ rfl (own_base hown hg) rfl ?_)
      rw [List.append_nil] at HG
      refine (getlong_any _ 8 8 (bytesOf n 8) _ (by omega) (by omega) (bytesOf_length n 8) (byt_bytesOf n 8) hsg).mono ?_
      rintro e w' ⟨rfl, rfl⟩
      rw [HG.out.1, HG.out.2]
      clear HG
      go_wp2
      go_ret
      exact ⟨by simp, hB3⟩
    | some ad =>
      go_wp2_with (at_builtin; refine wpList_append_own _ rfl _ _ 22 rfl w.heap.size 5 i0 (.int .u8 0) 1 1 Try.underlying22 hi hz0 hz1 hz2 rfl (by decide) (.slice (some ⟨g, 0, none⟩) 8 8) 8 _ rfl (own_base hown hg) ad len cap (zs.map (Value.int .u8)) rfl (by simp [hz]) (seg_news hsa) (news_one zs) (by unfold maxLen; omega) (by omega) hB3.size ?_; intro v' w4 hown4 hgrow4 _)
      obtain ⟨g4, cap4, rfl, hcap, hmx, hg4⟩ := own_shape hown4 (by omega)
      rw [← List.map_append] at hown4
      have hl4 : (bytesOf n 8 ++ zs).length = 8 + len := by rw [List.length_append, bytesOf_length, hz]
      have hB4 : Below w.heap.size w w4 := hB3.grown hgrow4 hB3.size (fun k e => by cases e; exact hg)
      refine (getlong_any _ (8 + len) cap4 (bytesOf n 8 ++ zs) _ hcap hmx hl4 ((byt_bytesOf n 8).append hb) (seg_own hown4 hl4)).mono ?_
      rintro e w' ⟨rfl, rfl⟩
      rw [HG.out.1, HG.out.2]
      clear HG hown4 hgrow4 hown hsg hsa hs
      go_wp2
      go_ret
      exact ⟨by simp, hB4⟩
end Go.Proofs.Ytkknlfmkhckgcaa
