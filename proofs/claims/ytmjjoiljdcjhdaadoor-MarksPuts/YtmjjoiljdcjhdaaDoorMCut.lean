/- 'with', 'Cut', 'Put' of marks: a message in fragments, in memory of its own, or the error; nothing that was there turns. -/
import Derived.Test.YtmjjoiljdcjhdaaDoorMarkMath
import Derived.Test.YtmjjoiljdcjhdaaDoorPieces
import Derived.Test.YtmjjoiljdcjhdaaDoorPut4
import Derived.Laws.AppendOwnNone
namespace Go.Proofs.YtmjjoiljdcjhdaaDoor
set_option linter.unusedVariables false
open Go.RowKit

theorem mark_or (l : Bool) (k : Nat) (h : k ≤ 65536) : bits .or .u32 (if l then 2147483648 else 0) (k : Int) = (if l then 2147483648 else 0) + (k : Int) := by
  cases l
  · have e := u32_or_nat 0 k (by omega) (by omega)
    rw [Nat.zero_or] at e
    simpa using e
  · have e := u32_or_nat 2147483648 k (by omega) (by omega)
    rw [nat_join 31 2147483648 k (by decide) (by omega)] at e
    simpa using e

set_option maxRecDepth 100000 in
set_option maxHeartbeats 2000000 in
theorem with_any (w0 w : World) (av : Option Addr) (n cv : Nat) (pre : List Int) (l : Bool) (a : Option Addr) (k c : Nat) (zs : List Int) (hown : w.ownsRow w0.heap.size 5 1 (.slice av n cv) n (pre.map (Value.int .u8))) (hB : Below w0.heap.size w0 w)
    (hk : k ≤ 65536) (hz : zs.length = k) (hs : Seg w0 a zs) (hnil : a = none → k = 0 ∧ c = 0) (hn : n ≤ 1000000) :
    Calls Tryd.prog 21 #[.slice av n cv, .int .u32 (if l then 2147483648 else 0), .slice a k c] w fun e w' => ∃ v', e = .returned v' ∧ w'.ownsRow w0.heap.size 5 1 v' (n + (4 + k)) ((pre ++ frag l zs).map (Value.int .u8)) ∧ Below w0.heap.size w0 w' := by
  obtain ⟨i0, hi, hz0, hz1, hz2⟩ := info_parts infoB
  have hor := mark_or l k hk
  obtain ⟨bit, hbit⟩ : ∃ x : Int, (if l then (2147483648 : Int) else 0) = x := ⟨_, rfl⟩
  have hbb : 0 ≤ bit ∧ bit ≤ 2147483648 := by rw [← hbit]; cases l <;> simp
  have HF : Hid (frag l zs = bytesOf (bit + (k : Int)) 4 ++ zs) := by
    show _ = _
    rw [frag, hbit, hz]
  rw [hbit] at hor ⊢
  clear hbit
  have hX0 : 0 ≤ bit + (k : Int) := by omega
  have hX1 : bit + (k : Int) ≤ 4294967295 := by omega
  generalize bit + (k : Int) = X at *
  go_enter Tryd.func21, Tryd.ntmps21
  go_wp2_with fail
  refine (Put_any X hX0 hX1 w).mono ?_
  rintro e w1 ⟨rfl, hown1, hb1⟩
  have hsg := seg_own hown1 (bytesOf_length _ 4)
  have hB1 := hB.trans (hb1.mono hB.size)
  have hownv := own_below hown hb1
  clear hown1 hb1 hown
  cases a with
  | none =>
    obtain ⟨rfl, rfl⟩ := hnil rfl
    obtain rfl : zs = [] := List.length_eq_zero_iff.1 hz
    go_wp2_with (first
      | (at_builtin; refine wpList_append_own _ rfl _ _ 22 rfl w0.heap.size 5 i0 (.int .u8 0) 1 1 Tryd.underlying22 hi hz0 hz1 hz2 rfl (by decide) (.slice av n cv) n _ rfl hownv ⟨w.heap.size, 0, none⟩ 4 4 ((bytesOf X 4).map (Value.int .u8)) rfl (by simp [bytesOf_length]) (seg_news hsg) (news_one _) (by unfold maxLen; omega) (by omega) hB1.size ?_; intro v' w6 hown6 hgrow6 _; have hB6 : Below w0.heap.size w0 w6 := hB1.grown hgrow6 hB1.size (fun k e => own_low hownv e); obtain ⟨g6, c6, rfl, hc6, hd6, he6⟩ := own_shape hown6 (by omega); clear hgrow6 hownv hsg hB1)
      | (at_builtin; refine wpList_append_own_none rfl _ _ 22 rfl w0.heap.size 5 i0 1 Tryd.underlying22 hi (.slice (some ⟨g6, 0, none⟩) (n + 4) c6) (n + 4) _ rfl hown6 rfl ?_))
    go_ret
    refine ⟨_, rfl, ?_, hB6⟩
    rw [HF.out, List.append_nil, List.map_append]
    exact hown6
  | some ad =>
    go_wp2_with (first
      | (at_builtin; refine wpList_append_own _ rfl _ _ 22 rfl w0.heap.size 5 i0 (.int .u8 0) 1 1 Tryd.underlying22 hi hz0 hz1 hz2 rfl (by decide) (.slice av n cv) n _ rfl hownv ⟨w.heap.size, 0, none⟩ 4 4 ((bytesOf X 4).map (Value.int .u8)) rfl (by simp [bytesOf_length]) (seg_news hsg) (news_one _) (by unfold maxLen; omega) (by omega) hB1.size ?_; intro v' w6 hown6 hgrow6 _; have hB6 : Below w0.heap.size w0 w6 := hB1.grown hgrow6 hB1.size (fun k e => own_low hownv e); obtain ⟨g6, c6, rfl, hc6, hd6, he6⟩ := own_shape hown6 (by omega); clear hgrow6 hownv hsg hB1)
      | (at_builtin; refine wpList_append_own _ rfl _ _ 22 rfl w0.heap.size 5 i0 (.int .u8 0) 1 1 Tryd.underlying22 hi hz0 hz1 hz2 rfl (by decide) (.slice (some ⟨g6, 0, none⟩) (n + 4) c6) (n + 4) _ rfl hown6 ad k c (zs.map (Value.int .u8)) rfl (by simp [hz]) (seg_news (hs.below hB6)) (news_one _) (by unfold maxLen; omega) (by omega) hB6.size ?_; intro v' w7 hown7 hgrow7 _))
    go_ret
    refine ⟨_, rfl, ?_, hB6.grown hgrow7 hB6.size (fun k e => own_low hown6 e)⟩
    rw [HF.out, ← List.append_assoc, List.map_append, List.map_append, ← Nat.add_assoc]
    exact hown7

/-- How many elements a slice has. -/
def lenOf : Value → Nat
  | .slice _ l _ => l
  | _ => 0

/-- What 'Cut' answers: the error, the bytes. -/
def cutE (size : Int) (len : Nat) : Int := if size < 1 ∨ 65536 < size then 1 else if 65536 < len then 3 else 0
def cutZs (size : Int) (zs : List Int) : List Int := if cutE size zs.length = 0 then cutB size.toNat zs else []

set_option maxRecDepth 100000 in
set_option maxHeartbeats 2000000 in
theorem cut_bad (a : Option Addr) (len cap : Nat) (size : Int) (w : World) (hlc : len ≤ cap) (hm : cap ≤ 9223372036854775807) (h1 : -9223372036854775808 ≤ size) (h2 : size ≤ 9223372036854775807) (he : cutE size len ≠ 0) :
    Calls Tryd.prog 8 #[.slice a len cap, .int .i64 size] w fun e w' => e = .returned (.tuple #[.slice none 0 0, .int .i64 (cutE size len)]) ∧ w' = w := by
  unfold cutE at *
  by_cases hs1 : size < 1
  · rw [if_pos (.inl hs1)]
    go_enter Tryd.func8, Tryd.ntmps8
    go_wp2
    go_ret2
    exact ⟨rfl, rfl⟩
  · by_cases hs2 : 65536 < size
    · rw [if_pos (.inr hs2)]
      go_enter Tryd.func8, Tryd.ntmps8
      go_wp2
      go_ret2
      exact ⟨rfl, rfl⟩
    · rw [if_neg (by omega)] at he ⊢
      by_cases hl : 65536 < len
      · rw [if_pos hl]
        go_enter Tryd.func8, Tryd.ntmps8
        go_wp2
        go_ret2
        exact ⟨rfl, rfl⟩
      · rw [if_neg hl] at he
        exact absurd rfl he

set_option maxRecDepth 100000 in
set_option maxHeartbeats 2000000 in
theorem cut_good (a : Option Addr) (len cap : Nat) (size : Nat) (zs : List Int) (w : World) (hlc : len ≤ cap) (hm : cap ≤ 9223372036854775807) (hz : zs.length = len) (hs : Seg w a zs) (hn : a = none → len = 0 ∧ cap = 0) (h1 : 1 ≤ size) (h2 : size ≤ 65536) (h3 : len ≤ 65536) :
    Calls Tryd.prog 8 #[.slice a len cap, .int .i64 (size : Int)] w fun e w' => ∃ v, e = .returned (.tuple #[v, .int .i64 0]) ∧ w'.ownsRow w.heap.size 5 1 v (cutB size zs).length ((cutB size zs).map (Value.int .u8)) ∧ Below w.heap.size w w' := by
  have hcl := cut_length size zs h1
  rw [hz] at hcl
  go_enter Tryd.func8, Tryd.ntmps8
  go_wp2
  go_loopw [0, 6] (fun m v wr => ∃ (j n cv : Nat) (ax av : Option Addr) (c : Nat) (pre : List Int), j ≤ len ∧ m = .slice ax (len - j) c ∧ v = .slice av n cv ∧ pre.length = n ∧ len - j ≤ c ∧ c ≤ cap ∧ Seg w ax (zs.drop j) ∧ (ax = none → len - j = 0 ∧ c = 0) ∧
      wr.ownsRow w.heap.size 5 1 (.slice av n cv) n (pre.map (Value.int .u8)) ∧ Below w.heap.size w wr ∧ cutB size zs = pre ++ cutB size (zs.drop j)) (fun m _ _ => lenOf m)
  case atStart => exact ⟨0, 0, 0, a, none, cap, [], by omega, rfl, rfl, rfl, hlc, Nat.le_refl _, hs, hn, own_empty _ _ _, Below.refl _ _, rfl⟩
  case round =>
    obtain ⟨j, n, cv, ax, av, c, pre, hj, rfl, rfl, hpl, hjc, hcc, hsj, hnj, hown, hB, hcut⟩ := hrel
    have hnb : n ≤ 1000000 := by
      have := congrArg List.length hcut
      rw [List.length_append] at this
      omega
    have hdl : (zs.drop j).length = len - j := by rw [List.length_drop, hz]
    by_cases hlt : size < len - j
    · have hm1 := cutB_more size (zs.drop j) h1 (by omega)
      rw [List.drop_drop] at hm1
      have htl : ((zs.drop j).take size).length = size := by rw [List.length_take]; omega
      rcases hsj with h0 | ⟨b, off, rfl, hc⟩
      · rw [h0] at hdl
        simp at hdl
        omega
      · have hsj : Seg w (some ⟨b, off, none⟩) (zs.drop j) := .inr ⟨b, off, rfl, hc⟩
        have hw := with_any w wr av n cv pre false (some ⟨b, off, none⟩) size c ((zs.drop j).take size) hown hB h2 htl (hsj.take size) (by simp) hnb
        rw [if_neg (by decide)] at hw
        have hsd := hsj.drop size
        rw [List.drop_drop] at hsd
        have HC : Hid (cutB size zs = pre ++ (frag false ((zs.drop j).take size) ++ cutB size (zs.drop (j + size)))) := by
          show _ = _
          rw [hcut, hm1]
        have hfl : (frag false ((zs.drop j).take size)).length = 4 + size := by rw [frag_length, htl]
        have hnj2 : ¬ c = size := by omega
        clear hc hsj hm1 hcut hown hcl
        have HQ : Hid (len - (j + size) = len - j - size) := by show _ = _; omega
        have hjs : j + size ≤ len := by omega
        generalize len - j = q at *
        go_wp2_with fail
        refine hw.mono ?_
        rintro e w1 ⟨v', rfl, hown1, hB1⟩
        obtain ⟨g1, c1, rfl, _⟩ := own_shape hown1 (by omega)
        go_wp2
        go_roundw
        case rel =>
          refine ⟨j + size, n + (4 + size), c1, some ⟨b, off + size, none⟩, some ⟨g1, 0, none⟩, c - size, pre ++ frag false ((zs.drop j).take size), hjs, by rw [HQ.out], rfl, by rw [List.length_append, hpl, hfl], by rw [HQ.out]; omega, by omega, hsd, by simp, hown1, hB1, by rw [HC.out, List.append_assoc]⟩
        case measure => simp [lenOf]; omega
    · have hw := with_any w wr av n cv pre true ax (len - j) c (zs.drop j) hown hB (by omega) hdl hsj hnj hnb
      rw [if_pos rfl] at hw
      have HC : Hid (cutB size zs = pre ++ frag true (zs.drop j)) := by
        show _ = _
        rw [hcut, cutB_end size (zs.drop j) (by omega)]
      have hfl : Hid ((frag true (zs.drop j)).length = 4 + (len - j)) := by show _ = _; rw [frag_length, hdl]
      clear hcut hown hsj hcl
      generalize len - j = q at *
      go_wp2_with fail
      refine hw.mono ?_
      rintro e w1 ⟨v', rfl, hown1, hB1⟩
      go_wp2
      go_ret2
      refine ⟨v', rfl, ?_, hB1⟩
      rw [HC.out, List.length_append, hpl, hfl.out]
      exact hown1

/-- 'Cut', at any message and any size. -/
theorem cut_any (a : Option Addr) (len cap : Nat) (size : Int) (zs : List Int) (w : World) (hlc : len ≤ cap) (hm : cap ≤ 9223372036854775807) (hz : zs.length = len) (hs : Seg w a zs) (hn : a = none → len = 0 ∧ cap = 0) (h1 : -9223372036854775808 ≤ size) (h2 : size ≤ 9223372036854775807) :
    Calls Tryd.prog 8 #[.slice a len cap, .int .i64 size] w fun e w' => ∃ v, e = .returned (.tuple #[v, .int .i64 (cutE size len)]) ∧ w'.ownsRow w.heap.size 5 1 v (cutZs size zs).length ((cutZs size zs).map (Value.int .u8)) ∧ Below w.heap.size w w' := by
  by_cases he : cutE size len = 0
  · have h3 : 1 ≤ size ∧ size ≤ 65536 ∧ len ≤ 65536 := by
      unfold cutE at he
      split at he
      · cases he
      · split at he
        · cases he
        · omega
    obtain ⟨k, rfl⟩ := Int.eq_ofNat_of_zero_le (show 0 ≤ size by omega)
    have hc := cut_good a len cap k zs w hlc hm hz hs hn (by omega) (by omega) h3.2.2
    rw [cutZs, hz, if_pos he, he, Int.toNat_natCast]
    exact hc
  · refine (cut_bad a len cap size w hlc hm h1 h2 he).mono ?_
    rintro e w' ⟨rfl, rfl⟩
    rw [cutZs, hz, if_neg he]
    exact ⟨_, rfl, own_empty _ _ _, Below.refl _ _⟩

/-- What 'Put' answers. -/
def putE (len : Nat) : Int := if 65536 < len then 3 else 0
def putZs (zs : List Int) : List Int := if zs.length ≤ 65536 then frag true zs else []

theorem put_is (zs : List Int) : cutE 65536 zs.length = putE zs.length ∧ cutZs 65536 zs = putZs zs := by
  have h1 : cutE 65536 zs.length = putE zs.length := by simp [cutE, putE]
  refine ⟨h1, ?_⟩
  unfold cutZs putZs
  rw [h1]
  unfold putE
  by_cases h : 65536 < zs.length
  · rw [if_pos h, if_neg (by decide), if_neg (by omega)]
  · rw [if_neg h, if_pos rfl, if_pos (by omega)]
    exact cutB_end _ _ (by simp; omega)

set_option maxRecDepth 100000 in
set_option maxHeartbeats 2000000 in
theorem mput_any (a : Option Addr) (len cap : Nat) (zs : List Int) (w : World) (hlc : len ≤ cap) (hm : cap ≤ 9223372036854775807) (hz : zs.length = len) (hs : Seg w a zs) (hn : a = none → len = 0 ∧ cap = 0) :
    Calls Tryd.prog 7 #[.slice a len cap] w fun e w' => ∃ v, e = .returned (.tuple #[v, .int .i64 (putE len)]) ∧ w'.ownsRow w.heap.size 5 1 v (putZs zs).length ((putZs zs).map (Value.int .u8)) ∧ Below w.heap.size w w' := by
  have hc := cut_any a len cap 65536 zs w hlc hm hz hs hn (by omega) (by omega)
  obtain ⟨e1, e2⟩ := put_is zs
  rw [e2, ← hz, e1] at hc
  rw [hz] at hc
  rw [← hz] at *
  generalize putE zs.length = x at *
  generalize putZs zs = ys at *
  go_enter Tryd.func7, Tryd.ntmps7
  go_wp2_with fail
  refine hc.mono ?_
  rintro e w' ⟨v, rfl, hown, hB⟩
  go_wp2
  go_ret2
  exact ⟨v, rfl, hown, hB⟩
end Go.Proofs.YtmjjoiljdcjhdaaDoor
