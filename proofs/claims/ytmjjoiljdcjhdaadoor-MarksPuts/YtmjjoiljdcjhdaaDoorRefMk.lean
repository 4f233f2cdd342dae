/- The document's fragment, Put and Cut of marks: a message in fragments, in memory of its own, or the error; nothing that was there turns. -/
import Derived.Test.YtmjjoiljdcjhdaaDoorRefPut4
import Derived.Test.YtmjjoiljdcjhdaaDoorMCut
namespace Go.Proofs.YtmjjoiljdcjhdaaDoor
set_option linter.unusedVariables false
open Go.RowKit

theorem own_four (w : World) (n : Int) : (w.alloc (.cells ((bytesOf n 4).map (Value.int .u8)).toArray 5)).ownsRow w.heap.size 5 1 (.slice (some ⟨w.heap.size, 0, none⟩) 4 4) 4 ((bytesOf n 4).map (Value.int .u8)) := by
  refine ⟨by simp [bytesOf_length], .inr ⟨w.heap.size, 4, _, rfl, Nat.le_refl _, World.alloc_heap_new _ _, Nat.le_refl _, by unfold maxLen; omega, by simp [bytesOf_length], ?_⟩⟩
  rw [List.take_of_length_le (by simp [bytesOf_length])]

set_option maxRecDepth 100000 in
set_option maxHeartbeats 1000000 in
theorem reffrag_any (l : Bool) (a : Option Addr) (k c : Nat) (zs : List Int) (w : World) (hk : k ≤ 65536) (hz : zs.length = k) (hs : Seg w a zs) (hnil : a = none → k = 0 ∧ c = 0) :
    Calls Tryd.prog 22 #[.slice a k c, .bool l] w fun e w' => ∃ v, e = .returned v ∧ w'.ownsRow w.heap.size 5 1 v (4 + k) ((frag l zs).map (Value.int .u8)) ∧ Below w.heap.size w w' := by
  obtain ⟨i0, hi, hz0, hz1, hz2⟩ := info_parts infoB
  have HF : Hid (frag l zs = bytesOf ((if l then 2147483648 else 0) + (k : Int)) 4 ++ zs) := by
    show _ = _
    rw [frag, hz]
  have hpt : ∀ X : Int, 0 ≤ X → X ≤ 4294967295 → Calls Tryd.prog 50 #[.int .u32 X] w fun e w' => e = .returned (.slice (some ⟨w.heap.size, 0, none⟩) 4 4) ∧ w'.ownsRow w.heap.size 5 1 (.slice (some ⟨w.heap.size, 0, none⟩) 4 4) 4 ((bytesOf X 4).map (Value.int .u8)) ∧ Below w.heap.size w w' := by
    intro X h0 h1
    refine (refPut_any X h0 h1 w).mono ?_
    rintro e w' ⟨rfl, rfl⟩
    exact ⟨rfl, own_four w X, (Below.refl _ _).alloc (Nat.le_refl _) _⟩
  cases l with
  | false =>
    cases a with
    | none =>
      obtain ⟨rfl, rfl⟩ := hnil rfl
      obtain rfl : zs = [] := List.length_eq_zero_iff.1 hz
      have HX : Hid (frag false [] = bytesOf 0 4 ++ []) := by
        show _ = _
        rw [HF.out]
        congr 2 <;> (try simp) <;> (try omega)
      have hp := hpt 0 (by omega) (by omega)
      clear HF hpt
      go_enter Tryd.func22, Tryd.ntmps22
      go_wp2_with fail
      refine hp.mono ?_
      rintro e w1 ⟨rfl, hown1, hB1⟩
      go_wp2_with (at_builtin; refine wpList_append_own_none rfl _ _ 22 rfl w.heap.size 5 i0 1 Tryd.underlying22 hi (.slice (some ⟨w.heap.size, 0, none⟩) 4 4) 4 _ rfl hown1 rfl ?_)
      go_ret
      refine ⟨_, rfl, ?_, hB1⟩
      rw [HX.out, List.append_nil]
      exact hown1
    | some ad =>
      have HX : Hid (frag false zs = bytesOf (k : Int) 4 ++ zs) := by
        show _ = _
        rw [HF.out]
        congr 2 <;> (try simp) <;> (try omega)
      have hp := hpt (k : Int) (by omega) (by omega)
      clear HF hpt
      go_enter Tryd.func22, Tryd.ntmps22
      go_wp2_with fail
      refine hp.mono ?_
      rintro e w1 ⟨rfl, hown1, hB1⟩
      go_wp2_with (at_builtin; refine wpList_append_own _ rfl _ _ 22 rfl w.heap.size 5 i0 (.int .u8 0) 1 1 Tryd.underlying22 hi hz0 hz1 hz2 rfl (by decide) (.slice (some ⟨w.heap.size, 0, none⟩) 4 4) 4 _ rfl hown1 ad k c (zs.map (Value.int .u8)) rfl (by simp [hz]) (seg_news (hs.below hB1)) (news_one _) (by unfold maxLen; omega) (by omega) hB1.size ?_; intro v' w7 hown7 hgrow7 _)
      go_ret
      refine ⟨_, rfl, ?_, hB1.grown hgrow7 hB1.size (fun k e => own_low hown1 e)⟩
      rw [HX.out, List.map_append]
      exact hown7
  | true =>
    cases a with
    | none =>
      obtain ⟨rfl, rfl⟩ := hnil rfl
      obtain rfl : zs = [] := List.length_eq_zero_iff.1 hz
      have HX : Hid (frag true [] = bytesOf 2147483648 4 ++ []) := by
        show _ = _
        rw [HF.out]
        congr 2 <;> (try simp) <;> (try omega)
      have hp := hpt 2147483648 (by omega) (by omega)
      clear HF hpt
      go_enter Tryd.func22, Tryd.ntmps22
      go_wp2_with fail
      refine hp.mono ?_
      rintro e w1 ⟨rfl, hown1, hB1⟩
      go_wp2_with (at_builtin; refine wpList_append_own_none rfl _ _ 22 rfl w.heap.size 5 i0 1 Tryd.underlying22 hi (.slice (some ⟨w.heap.size, 0, none⟩) 4 4) 4 _ rfl hown1 rfl ?_)
      go_ret
      refine ⟨_, rfl, ?_, hB1⟩
      rw [HX.out, List.append_nil]
      exact hown1
    | some ad =>
      have HX : Hid (frag true zs = bytesOf ((k : Int) + 2147483648) 4 ++ zs) := by
        show _ = _
        rw [HF.out]
        congr 2 <;> (try simp) <;> (try omega)
      have hp := hpt ((k : Int) + 2147483648) (by omega) (by omega)
      clear HF hpt
      go_enter Tryd.func22, Tryd.ntmps22
      go_wp2_with fail
      refine hp.mono ?_
      rintro e w1 ⟨rfl, hown1, hB1⟩
      go_wp2_with (at_builtin; refine wpList_append_own _ rfl _ _ 22 rfl w.heap.size 5 i0 (.int .u8 0) 1 1 Tryd.underlying22 hi hz0 hz1 hz2 rfl (by decide) (.slice (some ⟨w.heap.size, 0, none⟩) 4 4) 4 _ rfl hown1 ad k c (zs.map (Value.int .u8)) rfl (by simp [hz]) (seg_news (hs.below hB1)) (news_one _) (by unfold maxLen; omega) (by omega) hB1.size ?_; intro v' w7 hown7 hgrow7 _)
      go_ret
      refine ⟨_, rfl, ?_, hB1.grown hgrow7 hB1.size (fun k e => own_low hown1 e)⟩
      rw [HX.out, List.map_append]
      exact hown7

set_option maxRecDepth 100000 in
set_option maxHeartbeats 1000000 in
theorem refmput_any (a : Option Addr) (len cap : Nat) (zs : List Int) (w : World) (hlc : len ≤ cap) (hm : cap ≤ 9223372036854775807) (hz : zs.length = len) (hs : Seg w a zs) (hn : a = none → len = 0 ∧ cap = 0) :
    Calls Tryd.prog 9 #[.slice a len cap] w fun e w' => ∃ v, e = .returned (.tuple #[v, .int .i64 (putE len)]) ∧ w'.ownsRow w.heap.size 5 1 v (putZs zs).length ((putZs zs).map (Value.int .u8)) ∧ Below w.heap.size w w' := by
  by_cases h : 65536 < len
  · rw [putE, if_pos h, putZs, if_neg (by omega)]
    go_enter Tryd.func9, Tryd.ntmps9
    go_wp2
    go_ret2
    exact ⟨_, rfl, own_empty _ _ _, Below.refl _ _⟩
  · rw [putE, if_neg h, putZs, if_pos (by omega), frag_length, hz]
    have hf := reffrag_any true a len cap zs w (by omega) hz hs hn
    generalize frag true zs = fs at *
    go_enter Tryd.func9, Tryd.ntmps9
    go_wp2_with fail
    refine hf.mono ?_
    rintro e w1 ⟨v, rfl, hown, hB⟩
    go_wp2
    go_ret2
    exact ⟨v, rfl, hown, hB⟩

set_option maxRecDepth 100000 in
set_option maxHeartbeats 1000000 in
theorem refcut_bad (a : Option Addr) (len cap : Nat) (size : Int) (w : World) (hlc : len ≤ cap) (hm : cap ≤ 9223372036854775807) (h1 : -9223372036854775808 ≤ size) (h2 : size ≤ 9223372036854775807) (he : cutE size len ≠ 0) :
    Calls Tryd.prog 10 #[.slice a len cap, .int .i64 size] w fun e w' => e = .returned (.tuple #[.slice none 0 0, .int .i64 (cutE size len)]) ∧ w' = w := by
  unfold cutE at *
  by_cases hs1 : size < 1
  · rw [if_pos (.inl hs1)]
    go_enter Tryd.func10, Tryd.ntmps10
    go_wp2
    go_ret2
    exact ⟨rfl, rfl⟩
  · by_cases hs2 : 65536 < size
    · rw [if_pos (.inr hs2)]
      go_enter Tryd.func10, Tryd.ntmps10
      go_wp2
      go_ret2
      exact ⟨rfl, rfl⟩
    · rw [if_neg (by omega)] at he ⊢
      by_cases hl : 65536 < len
      · rw [if_pos hl]
        go_enter Tryd.func10, Tryd.ntmps10
        go_wp2
        go_ret2
        exact ⟨rfl, rfl⟩
      · rw [if_neg hl] at he
        exact absurd rfl he

set_option maxRecDepth 100000 in
set_option maxHeartbeats 2000000 in
theorem refcut_good (a : Option Addr) (len cap : Nat) (size : Nat) (zs : List Int) (w : World) (hlc : len ≤ cap) (hm : cap ≤ 9223372036854775807) (hz : zs.length = len) (hs : Seg w a zs) (hn : a = none → len = 0 ∧ cap = 0) (h1 : 1 ≤ size) (h2 : size ≤ 65536) (h3 : len ≤ 65536) :
    Calls Tryd.prog 10 #[.slice a len cap, .int .i64 (size : Int)] w fun e w' => ∃ v, e = .returned (.tuple #[v, .int .i64 0]) ∧ w'.ownsRow w.heap.size 5 1 v (cutB size zs).length ((cutB size zs).map (Value.int .u8)) ∧ Below w.heap.size w w' := by
  obtain ⟨i0, hi, hz0, hz1, hz2⟩ := info_parts infoB
  have hcl := cut_length size zs h1
  rw [hz] at hcl
  go_enter Tryd.func10, Tryd.ntmps10
  go_wp2
  go_loopw [0, 6] (fun m v wr => ∃ (j n cv : Nat) (ax av : Option Addr) (c : Nat) (pre : List Int), j ≤ len ∧ m = .slice ax (len - j) c ∧ v = .slice av n cv ∧ pre.length = n ∧ len - j ≤ c ∧ c ≤ cap ∧ Seg w ax (zs.drop j) ∧ (ax = none → len - j = 0 ∧ c = 0) ∧
      wr.ownsRow w.heap.size 5 1 (.slice av n cv) n (pre.map (Value.int .u8)) ∧ Below w.heap.size w wr ∧ cutB size zs = pre ++ cutB size (zs.drop j)) (fun m _ _ => lenOf m)
  case atStart => exact ⟨0, 0, 0, a, none, cap, [], by omega, rfl, rfl, rfl, hlc, Nat.le_refl _, hs, hn, own_empty _ _ _, Below.refl _ _, rfl⟩
  case round =>
    obtain ⟨j, n, cv, ax, av, c, pre, hj, rfl, rfl, hpl, hjc, hcc, hsj, hnj, hown, hB, hcut⟩ := hrel
    have hnb : n ≤ 1000000 := by
      have := congrArg List.length hcut
      rw [List.length_append] at this
      omega
    have hdl : (zs.drop j).length = len - j := by rw [List.length_drop, hz]
    by_cases hlt : size < len - j
    · have hm1 := cutB_more size (zs.drop j) h1 (by omega)
      rw [List.drop_drop] at hm1
      have htl : ((zs.drop j).take size).length = size := by rw [List.length_take]; omega
      rcases hsj with h0 | ⟨b, off, rfl, hc⟩
      · rw [h0] at hdl
        simp at hdl
        omega
      · have hsj : Seg w (some ⟨b, off, none⟩) (zs.drop j) := .inr ⟨b, off, rfl, hc⟩
        have hw := reffrag_any false (some ⟨b, off, none⟩) size c ((zs.drop j).take size) wr h2 htl ((hsj.below hB).take size) (by simp)
        have hsd := hsj.drop size
        rw [List.drop_drop] at hsd
        have HC : Hid (cutB size zs = pre ++ (frag false ((zs.drop j).take size) ++ cutB size (zs.drop (j + size)))) := by
          show _ = _
          rw [hcut, hm1]
        have hfl : (frag false ((zs.drop j).take size)).length = 4 + size := by rw [frag_length, htl]
        have hnj2 : ¬ c = size := by omega
        clear hc hsj hm1 hcut hcl
        have HQ : Hid (len - (j + size) = len - j - size) := by show _ = _; omega
        have hjs : j + size ≤ len := by omega
        generalize len - j = q at *
        go_wp2_with fail
        refine hw.mono ?_
        rintro e w1 ⟨v', rfl, hown1, hb1⟩
        obtain ⟨g1, c1, rfl, hc1, hd1, he1⟩ := own_shape hown1 (by omega)
        have hB1 := hB.trans (hb1.mono hB.size)
        have hsg := seg_own hown1 hfl
        replace hown := own_below hown hb1
        clear hown1 hb1
        go_wp2_with (at_builtin; refine wpList_append_own _ rfl _ _ 22 rfl w.heap.size 5 i0 (.int .u8 0) 1 1 Tryd.underlying22 hi hz0 hz1 hz2 rfl (by decide) (.slice av n cv) n _ rfl hown ⟨g1, 0, none⟩ (4 + size) c1 ((frag false ((zs.drop j).take size)).map (Value.int .u8)) rfl (by simp [hfl]) (seg_news hsg) (news_one _) (by unfold maxLen; omega) (by omega) hB1.size ?_; intro v6 w6 hown6 hgrow6 _; obtain ⟨g6, c6, rfl, _⟩ := own_shape hown6 (by omega))
        have hB6 := hB1.grown hgrow6 hB1.size (fun k e => own_low hown e)
        rw [← List.map_append] at hown6
        go_roundw
        case rel =>
          refine ⟨j + size, n + (4 + size), c6, some ⟨b, off + size, none⟩, some ⟨g6, 0, none⟩, c - size, pre ++ frag false ((zs.drop j).take size), hjs, by rw [HQ.out], rfl, by rw [List.length_append, hpl, hfl], by rw [HQ.out]; omega, by omega, hsd, by simp, hown6, hB6, by rw [HC.out, List.append_assoc]⟩
        case measure => simp [lenOf]; omega
    · have hw := reffrag_any true ax (len - j) c (zs.drop j) wr (by omega) hdl (hsj.below hB) hnj
      have HC : Hid (cutB size zs = pre ++ frag true (zs.drop j)) := by
        show _ = _
        rw [hcut, cutB_end size (zs.drop j) (by omega)]
      have hfl : (frag true (zs.drop j)).length = 4 + (len - j) := by rw [frag_length, hdl]
      clear hcut hsj hcl
      have hq : len - j ≤ 65536 := by omega
      generalize frag true (zs.drop j) = fs at *
      generalize len - j = q at *
      go_wp2_with fail
      refine hw.mono ?_
      rintro e w1 ⟨v', rfl, hown1, hb1⟩
      obtain ⟨g1, c1, rfl, hc1, hd1, he1⟩ := own_shape hown1 (by omega)
      have hB1 := hB.trans (hb1.mono hB.size)
      have hsg := seg_own hown1 hfl
      replace hown := own_below hown hb1
      clear hown1 hb1
      go_wp2_with (at_builtin; refine wpList_append_own _ rfl _ _ 22 rfl w.heap.size 5 i0 (.int .u8 0) 1 1 Tryd.underlying22 hi hz0 hz1 hz2 rfl (by decide) (.slice av n cv) n _ rfl hown ⟨g1, 0, none⟩ (4 + q) c1 (fs.map (Value.int .u8)) rfl (by simp [hfl]) (seg_news hsg) (news_one _) (by unfold maxLen; omega) (by omega) hB1.size ?_; intro v6 w6 hown6 hgrow6 _)
      go_ret2
      refine ⟨v6, rfl, ?_, hB1.grown hgrow6 hB1.size (fun k e => own_low hown e)⟩
      rw [HC.out, List.length_append, hpl, hfl, List.map_append]
      exact hown6

/-- The document's 'Cut', at any message and any size. -/
theorem refcut_any (a : Option Addr) (len cap : Nat) (size : Int) (zs : List Int) (w : World) (hlc : len ≤ cap) (hm : cap ≤ 9223372036854775807) (hz : zs.length = len) (hs : Seg w a zs) (hn : a = none → len = 0 ∧ cap = 0) (h1 : -9223372036854775808 ≤ size) (h2 : size ≤ 9223372036854775807) :
    Calls Tryd.prog 10 #[.slice a len cap, .int .i64 size] w fun e w' => ∃ v, e = .returned (.tuple #[v, .int .i64 (cutE size len)]) ∧ w'.ownsRow w.heap.size 5 1 v (cutZs size zs).length ((cutZs size zs).map (Value.int .u8)) ∧ Below w.heap.size w w' := by
  by_cases he : cutE size len = 0
  · have h3 : 1 ≤ size ∧ size ≤ 65536 ∧ len ≤ 65536 := by
      unfold cutE at he
      split at he
      · cases he
      · split at he
        · cases he
        · omega
    obtain ⟨k, rfl⟩ := Int.eq_ofNat_of_zero_le (show 0 ≤ size by omega)
    have hc := refcut_good a len cap k zs w hlc hm hz hs hn (by omega) (by omega) h3.2.2
    rw [cutZs, hz, if_pos he, he, Int.toNat_natCast]
    exact hc
  · refine (refcut_bad a len cap size w hlc hm h1 h2 he).mono ?_
    rintro e w' ⟨rfl, rfl⟩
    rw [cutZs, hz, if_neg he]
    exact ⟨_, rfl, own_empty _ _ _, Below.refl _ _⟩
end Go.Proofs.YtmjjoiljdcjhdaaDoor
