/- The document's PutLong and PutYes: the bytes of a number, in memory of their own; nothing that was there turns. -/
import Derived.Test.YtecbhhfncklefaaDoorRefPut4RefTPutRefPutLMx
import Derived.Test.YtecbhhfncklefaaDoorRows
import Derived.Test.YtecbhhfncklefaaDoorBytes
import Derived.WalkKit
import Derived.ArgAppend
import Derived.Test.YtecbhhfncklefaaDoorRefByMx
import Derived.Test.YtecbhhfncklefaaDoorAttrMath2
import Derived.Test.YtecbhhfncklefaaDoorTimeEqKokMathPNeedPiecesMx
namespace Go.Proofs.YtecbhhfncklefaaDoor
set_option linter.unusedVariables false
open Go.RowKit

set_option maxHeartbeats 400000 in
theorem refPutYes_any (y : Bool) (w : World) :
    Calls Tryd.prog 73 #[.bool y] w fun e W' => ∃ g, e = .returned (.slice (some ⟨g, 0, none⟩) 4 4) ∧ Seg W' (some ⟨g, 0, none⟩) (bytesOf (if y then 1 else 0) 4) ∧ Below w.heap.size w W' := by
  cases y
  · go_enter Tryd.func73, Tryd.ntmps73
    go_wp2_with fail
    refine (refPut_seg 0 (by omega) (by omega) _).mono ?_
    rintro e w1 ⟨g1, rfl, s1, b1⟩
    go_wp2
    go_ret
    exact ⟨g1, rfl, s1, b1⟩
  · go_enter Tryd.func73, Tryd.ntmps73
    go_wp2_with fail
    refine (refPut_seg 1 (by omega) (by omega) _).mono ?_
    rintro e w1 ⟨g1, rfl, s1, b1⟩
    go_wp2
    go_ret
    exact ⟨g1, rfl, s1, b1⟩
end Go.Proofs.YtecbhhfncklefaaDoor

/- 'option' and 'how' of the document: what is put behind bytes that are owned; nothing that was there ahead of them turns. -/
namespace Go.Proofs.YtecbhhfncklefaaDoor
set_option linter.unusedVariables false
open Go.RowKit

/-- Bytes in a block that does not turn. -/
theorem seg_other {W W' : World} {row : Option Nat} {g o : Nat} {ys : List Int} (hs : Seg W (some ⟨g, o, none⟩) ys) (hg : W.grownBy W' row) (hne : row ≠ some g) : Seg W' (some ⟨g, o, none⟩) ys := by
  rcases hs with h | ⟨b, off, e, hc⟩
  · exact .inl h
  · cases e
    refine .inr ⟨_, _, rfl, fun i hi => ?_⟩
    have h1 := hc i hi
    have hl := World.block_lt_of_cell? _ _ h1
    have hb := hg.block g hl hne.symm
    simp only [World.cell?, hb] at h1 ⊢
    exact h1

set_option maxRecDepth 100000 in
set_option maxHeartbeats 1000000 in
theorem opt_any (base : Nat) (v : Value) (n : Nat) (zs ys : List Int) (has : Bool) (g m c : Nat) (W : World) (hown : W.ownsRow base 5 1 v n (zs.map (Value.int .u8))) (hbase : base ≤ W.heap.size) (hn : n ≤ 1000) (hm : m ≤ 1000) (hys : ys.length = m)
    (hs : Seg W (some ⟨g, 0, none⟩) ys) (hg : v.ownBlock ≠ some g) :
    Calls Tryd.prog 27 #[v, .bool has, .slice (some ⟨g, 0, none⟩) m c] W fun e W' => ∃ v', e = .returned v' ∧ W'.ownsRow base 5 1 v' (n + 4 + if has then m else 0) ((zs ++ (yB has ++ if has then ys else [])).map (Value.int .u8)) ∧ Below base W W' := by
  obtain ⟨i0, hi, hz0, hz1, hz2⟩ := info_parts infoU8r
  have hy : (yB has).length = 4 := yB_length _
  go_enter Tryd.func27, Tryd.ntmps27
  go_wp2_with fail
  refine (refPutYes_any has W).mono ?_
  rintro e W1 ⟨g1, rfl, s1, b1⟩
  replace s1 : Seg W1 (some ⟨g1, 0, none⟩) (yB has) := s1
  have o1 := own_below hown b1
  have t1 := hs.below b1
  have B1 : Below base W W1 := b1.mono hbase
  clear hown b1 hs
  cases has with
  | false =>
    go_wp2_with (at_builtin; refine wpList_append_each _ rfl _ _ 29 rfl base 5 i0 (.int .u8 0) 1 1 Tryd.underlying29 hi hz0 hz1 hz2 rfl (by decide) v n _ rfl o1 (some ⟨g1, 0, none⟩) 4 4 ((yB false).map (Value.int .u8)) rfl (by simp) (by simp [hy]) (fun b e => seg_news (by rw [← e]; exact s1)) (news_one _) (by unfold maxLen; omega) (by omega) (by have := B1.size; omega) ?_; intro v2 W2 o2 hg2; have B2 : Below base W W2 := B1.grown hg2 (by have := B1.size; omega) (fun k e => (own_lt o1 e).1); have t2 := seg_other t1 hg2 hg; rw [← List.map_append] at o2)
    clear o1 t1 s1 hg2 B1 t2
    go_ret
    refine ⟨_, rfl, ?_, B2⟩
    simpa using o2
  | true =>
    go_wp2_with (first
      | (at_builtin; refine wpList_append_each _ rfl _ _ 29 rfl base 5 i0 (.int .u8 0) 1 1 Tryd.underlying29 hi hz0 hz1 hz2 rfl (by decide) v2 (n + 4) _ rfl o2 (some ⟨g, 0, none⟩) m c (ys.map (Value.int .u8)) rfl (by simp) (by simp [hys]) (fun b e => seg_news (by rw [← e]; exact t2)) (news_one _) (by unfold maxLen; omega) (by omega) (by have := B2.size; omega) ?_; intro v3 W3 o3 hg3; have B3 : Below base W W3 := B2.grown hg3 (by have := B2.size; omega) (fun k e => (own_lt o2 e).1); rw [← List.map_append] at o3)
      | (at_builtin; refine wpList_append_each _ rfl _ _ 29 rfl base 5 i0 (.int .u8 0) 1 1 Tryd.underlying29 hi hz0 hz1 hz2 rfl (by decide) v n _ rfl o1 (some ⟨g1, 0, none⟩) 4 4 ((yB true).map (Value.int .u8)) rfl (by simp) (by simp [hy]) (fun b e => seg_news (by rw [← e]; exact s1)) (news_one _) (by unfold maxLen; omega) (by omega) (by have := B1.size; omega) ?_; intro v2 W2 o2 hg2; have B2 : Below base W W2 := B1.grown hg2 (by have := B1.size; omega) (fun k e => (own_lt o1 e).1); have t2 := seg_other t1 hg2 hg; rw [← List.map_append] at o2))
    clear o1 t1 s1 hg2 B1
    go_ret
    refine ⟨_, rfl, ?_, B3⟩
    simpa [List.append_assoc] using o3

set_option maxRecDepth 100000 in
set_option maxHeartbeats 1000000 in
theorem how_any (base : Nat) (v : Value) (n : Nat) (zs : List Int) (h s k : Int) (W : World) (hown : W.ownsRow base 5 1 v n (zs.map (Value.int .u8))) (hbase : base ≤ W.heap.size) (hn : n ≤ 1000) (h0 : 0 ≤ h) (h1 : h ≤ 4294967295) (s0 : 0 ≤ s) (s1 : s ≤ 4294967295) (k0 : 0 ≤ k) (k1 : k ≤ 4294967295) :
    Calls Tryd.prog 30 #[v, .int .u32 h, .agg #[.int .u32 s, .int .u32 k]] W fun e W' => ∃ v', e = .returned v' ∧ W'.ownsRow base 5 1 v' (n + 4 + if h == 2 then 8 else 0) ((zs ++ (bytesOf h 4 ++ if h == 2 then tB s k else [])).map (Value.int .u8)) ∧ Below base W W' := by
  obtain ⟨i0, hi, hz0, hz1, hz2⟩ := info_parts infoU8r
  have hy : (bytesOf h 4).length = 4 := bytesOf_length _ _
  have hty : (tB s k).length = 8 := tB_length s k
  have p0 := Tp.new W s k
  have b0 : Below W.heap.size W (W.alloc (.cells #[.int .u32 s, .int .u32 k] 26)) := (Below.refl _ _).alloc (Nat.le_refl _) _
  have o0 := own_below hown b0
  have hvb : ∀ q, v.ownBlock = some q → q < W.heap.size := fun q e => (own_lt hown e).2
  clear hown
  obtain ⟨t, ht⟩ : ∃ t : Bool, (h == 2) = t := ⟨_, rfl⟩
  rw [ht]
  go_enter Tryd.func30, Tryd.ntmps30
  go_wp2_with fail
  generalize (W.alloc (.cells #[.int .u32 s, .int .u32 k] 26)) = W0 at *
  refine (refPut_seg h h0 h1 W0).mono ?_
  rintro e W1 ⟨g1, rfl, s1', b1⟩
  have o1 := own_below o0 b1
  have p1 := p0.next b1
  have B1 : Below base W W1 := (b0.trans (b1.mono b0.size)).mono hbase
  clear o0 b1 p0 b0
  cases t with
  | true =>
    go_wp2_with (at_builtin; refine wpList_append_each _ rfl _ _ 29 rfl base 5 i0 (.int .u8 0) 1 1 Tryd.underlying29 hi hz0 hz1 hz2 rfl (by decide) v n _ rfl o1 (some ⟨g1, 0, none⟩) 4 4 ((bytesOf h 4).map (Value.int .u8)) rfl (by simp) (by simp [hy]) (fun b e => seg_news (by rw [← e]; exact s1')) (news_one _) (by unfold maxLen; omega) (by omega) (by have := B1.size; omega) ?_; intro v2 W2 o2 hg2; have B2 : Below base W W2 := B1.grown hg2 (by have := B1.size; omega) (fun k e => (own_lt o1 e).1); rw [← List.map_append] at o2; have p2 : Tp W2 W.heap.size s k := (hg2.block _ p1.lt (fun e => by have := hvb _ e.symm; omega)).trans p1; obtain ⟨q0, q1⟩ := And.intro p2.c0 p2.c1)
    clear o1 s1' hg2 B1 p1
    refine (reft_piece s k W2 s0 s1 k0 k1).mono ?_
    rintro e W3 ⟨g3, c3, rfl, s3, b3⟩
    have o3 := own_below o2 b3
    have B3 : Below base W W3 := B2.trans (b3.mono (by have := B2.size; omega))
    clear o2 b3 B2 p2 q0 q1
    go_wp2_with (at_builtin; refine wpList_append_each _ rfl _ _ 29 rfl base 5 i0 (.int .u8 0) 1 1 Tryd.underlying29 hi hz0 hz1 hz2 rfl (by decide) v2 (n + 4) _ rfl o3 (some ⟨g3, 0, none⟩) 8 c3 ((tB s k).map (Value.int .u8)) rfl (by simp) (by simp [hty]) (fun b e => seg_news (by rw [← e]; exact s3)) (news_one _) (by unfold maxLen; omega) (by omega) (by have := B3.size; omega) ?_; intro v4 W4 o4 hg4)
    have B4 : Below base W W4 := B3.grown hg4 (by have := B3.size; omega) (fun k e => (own_lt o3 e).1)
    rw [← List.map_append] at o4
    clear o3 s3 hg4 B3
    go_ret
    refine ⟨_, rfl, ?_, B4⟩
    simpa [List.append_assoc] using o4
  | false =>
    go_wp2_with (at_builtin; refine wpList_append_each _ rfl _ _ 29 rfl base 5 i0 (.int .u8 0) 1 1 Tryd.underlying29 hi hz0 hz1 hz2 rfl (by decide) v n _ rfl o1 (some ⟨g1, 0, none⟩) 4 4 ((bytesOf h 4).map (Value.int .u8)) rfl (by simp) (by simp [hy]) (fun b e => seg_news (by rw [← e]; exact s1')) (news_one _) (by unfold maxLen; omega) (by omega) (by have := B1.size; omega) ?_; intro v2 W2 o2 hg2; have B2 : Below base W W2 := B1.grown hg2 (by have := B1.size; omega) (fun k e => (own_lt o1 e).1); rw [← List.map_append] at o2; have p2 : Tp W2 W.heap.size s k := (hg2.block _ p1.lt (fun e => by have := hvb _ e.symm; omega)).trans p1; obtain ⟨q0, q1⟩ := And.intro p2.c0 p2.c1)
    clear o1 s1' hg2 B1 p1 p2 q0 q1
    go_ret
    refine ⟨_, rfl, ?_, B2⟩
    simpa using o2
end Go.Proofs.YtecbhhfncklefaaDoor
