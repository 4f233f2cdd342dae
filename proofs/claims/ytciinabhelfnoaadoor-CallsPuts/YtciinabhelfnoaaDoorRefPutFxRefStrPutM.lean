/- The document's PutFixed and Put of bytes: the bytes with their padding, their number ahead or not, in memory of their own; nothing that was there turns. -/
import Derived.Test.YtciinabhelfnoaaDoorCallCxRefPadRefPut4M
import Derived.Test.YtciinabhelfnoaaDoorPutFixedM
import Derived.Test.YtciinabhelfnoaaDoorPutOpqM
import Derived.Laws.AppendOwnNone
import Derived.Test.YtciinabhelfnoaaDoorTextsPadM
namespace Go.Proofs.YtciinabhelfnoaaDoor
set_option linter.unusedVariables false
open Go.RowKit

theorem rep_snoc (zs : List Int) (k : Nat) : (zs ++ List.replicate k 0).map (Value.int .u8) ++ [.int .u8 0] = (zs ++ List.replicate (k + 1) 0).map (Value.int .u8) := by
  rw [List.replicate_succ', ← List.append_assoc, List.map_append (l₁ := zs ++ List.replicate k 0)]
  rfl

set_option maxRecDepth 100000 in
set_option maxHeartbeats 1000000 in
theorem refputfixed_any (a : Option Addr) (len cap : Nat) (zs : List Int) (w : World) (hlc : len ≤ cap) (hm : len ≤ 1048576) (hz : zs.length = len) (hs : Seg w a zs) (hnil : a = none → len = 0 ∧ cap = 0) :
    Calls Tryd.prog 53 #[.slice a len cap] w fun e w' => ∃ v, e = .returned v ∧ w'.ownsRow w.heap.size 5 1 v (len + padN len) ((padded zs).map (Value.int .u8)) ∧ Below w.heap.size w w' := by
  obtain ⟨i0, hi, hz0, hz1, hz2⟩ := info_parts infoP
  have hp := padN_lt len
  have key : ∀ (W : World) (v : Value), W.ownsRow w.heap.size 5 1 v len (zs.map (Value.int .u8)) → Below w.heap.size w W → True := fun _ _ _ _ => trivial
  have hs0 := World.ownsRow_nil w w.heap.size 5 1
  cases a with
  | none =>
    obtain ⟨rfl, rfl⟩ := hnil rfl
    obtain rfl : zs = [] := List.length_eq_zero_iff.1 hz
    go_enter Tryd.func53, Tryd.ntmps53
    go_wp2_with (at_builtin; refine wpList_append_own_none rfl _ _ 26 rfl w.heap.size 5 i0 1 Tryd.underlying26 hi _ 0 _ rfl hs0 rfl ?_)
    refine wp_loop_rounds 1 ?_
    rw [rounds_succ]
    go_wp2_with (go_at_call 75; refine (refpad_nat 0 _ (by omega)).mono ?_; rintro e w' ⟨rfl, hw'⟩; subst w'; rw [show padN 0 = 0 from rfl])
    go_ret
    exact ⟨_, rfl, hs0, Below.refl _ _⟩
  | some ad =>
    go_enter Tryd.func53, Tryd.ntmps53
    go_wp2_with (at_builtin; refine wpList_append_own _ rfl _ _ 26 rfl w.heap.size 5 i0 (.int .u8 0) 1 1 Tryd.underlying26 hi hz0 hz1 hz2 rfl (by decide) (.slice none 0 0) 0 [] rfl hs0 ad len cap (zs.map (Value.int .u8)) rfl (by simp [hz]) (seg_news hs) (news_one zs) (by unfold maxLen; omega) (by omega) (Nat.le_refl _) ?_; intro v1 w1 hown1 hgrow1 _)
    rw [Nat.zero_add, List.nil_append] at hown1
    have hB1 : Below w.heap.size w w1 := (Below.refl _ _).grown hgrow1 (Nat.le_refl _) (by simp [Value.ownBlock])
    go_loopw [3, 4] (fun v i wr => ∃ k : Nat, k ≤ padN len ∧ i = .int .i64 k ∧ wr.ownsRow w.heap.size 5 1 v (len + k) ((zs ++ List.replicate k 0).map (Value.int .u8)) ∧ Below w.heap.size w wr) (fun _ i _ => padN len - (intOf i).toNat)
    case atStart => exact ⟨0, by omega, rfl, by simpa using hown1, hB1⟩
    case round =>
      obtain ⟨k, hk, rfl, hown, hB⟩ := hrel
      clear hown1 hB1 hgrow1
      by_cases hlt : k < padN len
      · have hBs := hB.size
        go_wp2_with (first
          | (go_at_call 75; refine (refpad_nat len _ (by omega)).mono ?_; rintro e w' ⟨rfl, hw'⟩; subst w')
          | (at_builtin; refine wpList_append_own _ rfl _ _ 26 rfl w.heap.size 5 i0 (.int .u8 0) 1 1 Tryd.underlying26 hi hz0 hz1 hz2 rfl (by decide) _ _ _ rfl (hown.alloc _) ⟨wr.heap.size, 0, none⟩ 1 1 [.int .u8 0] rfl rfl (cell_one_new _ _ _) (by simp [Value.oneCell']) (by unfold maxLen; omega) (by omega) (by simp; omega) ?_; intro v2 w2 hown2 hgrow2 _))
        rw [rep_snoc] at hown2
        have hB2 : Below w.heap.size w w2 := (hB.alloc hBs _).grown hgrow2 (by simp; omega) (fun k e => own_low hown e)
        go_roundw
        case rel => exact ⟨k + 1, by omega, by go_num, hown2, hB2⟩
        case measure => simp [intOf]; omega
      · obtain rfl : k = padN len := by omega
        go_wp2_with (go_at_call 75; refine (refpad_nat len _ (by omega)).mono ?_; rintro e w' ⟨rfl, hw'⟩; subst w')
        go_ret
        refine ⟨_, rfl, ?_, hB⟩
        rw [padded, hz]
        exact hown

set_option maxRecDepth 100000 in
set_option maxHeartbeats 1000000 in
theorem refputopq_any (a : Option Addr) (len cap : Nat) (zs : List Int) (w : World) (hlc : len ≤ cap) (hm : len ≤ 1048576) (hz : zs.length = len) (hs : Seg w a zs) (hnil : a = none → len = 0 ∧ cap = 0) :
    Calls Tryd.prog 20 #[.slice a len cap] w fun e w' => ∃ v, e = .returned v ∧ w'.ownsRow w.heap.size 5 1 v (4 + (len + padN len)) ((opBytes zs).map (Value.int .u8)) ∧ Below w.heap.size w w' := by
  obtain ⟨i0, hi, hz0, hz1, hz2⟩ := info_parts infoP
  have hp := padN_lt len
  go_enter Tryd.func20, Tryd.ntmps20
  go_wp2_with fail
  refine (refPut_any (len : Int) (by omega) (by omega) w).mono ?_
  rintro e w1 ⟨rfl, rfl⟩
  have hB1 : Below w.heap.size w (w.alloc (.cells ((bytesOf (len : Int) 4).map (Value.int .u8)).toArray 5)) := (Below.refl _ _).alloc (Nat.le_refl _) _
  have hown1 : (w.alloc (.cells ((bytesOf (len : Int) 4).map (Value.int .u8)).toArray 5)).ownsRow w.heap.size 5 1 (.slice (some ⟨w.heap.size, 0, none⟩) 4 4) 4 ((bytesOf (len : Int) 4).map (Value.int .u8)) := full_own (by show (w.heap.push _)[w.heap.size]? = _; simp) (Nat.le_refl _) (by simp [bytesOf_length]) (by unfold maxLen; omega)
  generalize w.alloc (.cells ((bytesOf (len : Int) 4).map (Value.int .u8)).toArray 5) = w1 at *
  go_wp2_with fail
  refine (refputfixed_any a len cap zs w1 hlc hm hz (hs.below hB1) hnil).mono ?_
  rintro e w2 ⟨v2, rfl, hown2, hb2⟩
  have hB2 := hB1.trans (hb2.mono hB1.size)
  replace hown1 := own_below hown1 hb2
  have hpl : (padded zs).length = len + padN len := by rw [padded_length, hz]
  have HO : Hid ((bytesOf (len : Int) 4).map (Value.int .u8) ++ (padded zs).map (Value.int .u8) = (opBytes zs).map (Value.int .u8)) := by
    show _ = _
    rw [← List.map_append, opBytes, hz]
  clear hB1 hb2
  rcases hown2.2 with ⟨rfl, h0⟩ | ⟨g2, c2, _, rfl, _⟩
  · have hpe : padded zs = [] := List.length_eq_zero_iff.1 (by omega)
    rw [hpe] at HO
    go_wp2_with (at_builtin; refine wpList_append_own_none rfl _ _ 26 rfl w.heap.size 5 i0 1 Tryd.underlying26 hi _ 4 _ rfl hown1 rfl ?_)
    go_ret
    refine ⟨_, rfl, ?_, hB2⟩
    rw [← HO.out, h0, List.map_nil, List.append_nil]
    exact hown1
  · have hsp := seg_own hown2 hpl
    go_wp2_with (at_builtin; refine wpList_append_own _ rfl _ _ 26 rfl w.heap.size 5 i0 (.int .u8 0) 1 1 Tryd.underlying26 hi hz0 hz1 hz2 rfl (by decide) _ 4 _ rfl hown1 ⟨g2, 0, none⟩ (len + padN len) c2 ((padded zs).map (Value.int .u8)) rfl (by simp [hpl]) (seg_news hsp) (news_one _) (by unfold maxLen; omega) (by omega) hB2.size ?_; intro v3 w3 hown3 hgrow3 _)
    go_ret
    rw [HO.out] at hown3
    exact ⟨_, rfl, hown3, hB2.grown hgrow3 hB2.size (fun k e => own_low hown1 e)⟩
end Go.Proofs.YtciinabhelfnoaaDoor

/- The document's 'Put' of a text; nothing that was there turns. -/
namespace Go.Proofs.YtciinabhelfnoaaDoor
set_option linter.unusedVariables false
open Go.RowKit

set_option maxRecDepth 100000 in
set_option maxHeartbeats 400000 in
theorem refstrput_any (s : ByteArray) (w : World) (hm : s.size ≤ 1048576) :
    Calls Tryd.prog 52 #[.string s] w fun e w' => ∃ v, e = .returned v ∧ w'.ownsRow w.heap.size 5 1 v (4 + (s.size + padN s.size)) ((opBytes (tz s)).map (Value.int .u8)) ∧ Below w.heap.size w w' := by
  obtain ⟨c, hc1, hc2, hrun⟩ := conv_bytes w s (by omega)
  have hB := conv_below w s
  have hs := conv_seg w s
  generalize Lib.bytesWorld w 5 s = w1 at *
  go_enter Tryd.func52, Tryd.ntmps52
  go_wp2_with fail
  refine (refputopq_any _ s.size c (tz s) w1 hc1 hm (tz_len s) hs (by simp)).mono ?_
  rintro e w2 ⟨v, rfl, hown, hb⟩
  go_wp2
  go_ret
  exact ⟨_, rfl, own_base hown hB.size, hB.trans (hb.mono hB.size)⟩
end Go.Proofs.YtciinabhelfnoaaDoor
