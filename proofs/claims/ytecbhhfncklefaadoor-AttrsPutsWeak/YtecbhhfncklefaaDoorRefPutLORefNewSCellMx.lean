/- The document's 'PutLong', its bytes owned; nothing that was there turns. -/
import Derived.Test.YtecbhhfncklefaaDoorRefPut4RefTPutRefPutLMx
import Derived.Test.YtecbhhfncklefaaDoorRefByMx
import Derived.Test.YtecbhhfncklefaaDoorAttrMath2
import Derived.Test.YtecbhhfncklefaaDoorRows
import Derived.Test.YtecbhhfncklefaaDoorBookBase
import Derived.ChangeKeysEq
import Derived.RangeFuncRecord
import Derived.Laws.Rows
import Derived.Deep.RegionLaw
import Derived.Deep.RegionHeld3
namespace Go.Proofs.YtecbhhfncklefaaDoor
set_option linter.unusedVariables false
open Go.RowKit

set_option maxHeartbeats 1000000 in
theorem refPutLong_own (n : Int) (h0 : 0 ≤ n) (h1 : n ≤ 18446744073709551615) (w : World) :
    Calls Tryd.prog 29 #[.int .u64 n] w fun e W' => ∃ g cap, e = .returned (.slice (some ⟨g, 0, none⟩) 8 cap) ∧ W'.ownsRow w.heap.size 5 1 (.slice (some ⟨g, 0, none⟩) 8 cap) 8 ((bytesOf n 8).map (Value.int .u8)) ∧ Below w.heap.size w W' := by
  obtain ⟨i0, hi, hz0, hz1, hz2⟩ := info_parts infoU8r
  have e1 : n / 4294967296 % 4294967296 = n / 4294967296 := by omega
  have e2 : n % 4294967296 % 4294967296 = n % 4294967296 := by omega
  go_enter Tryd.func29, Tryd.ntmps29
  have hhv := halves n
  rw [e1] at hhv
  have HH : Hid (bytesOf n 8 = bytesOf (n / 4294967296) 4 ++ bytesOf (n % 4294967296) 4) := hhv
  clear hhv
  go_wp2_with fail
  refine (refPut_seg (n / 4294967296) (by omega) (by omega) _).mono ?_
  rintro e w1 ⟨g1, rfl, s1, b1⟩
  go_wp2_with fail
  refine (refPut_seg (n % 4294967296) (by omega) (by omega) _).mono ?_
  rintro e w2 ⟨g2, rfl, s2, b2⟩
  have s12 := s1.below b2
  have B2 := b1.trans (b2.mono b1.size)
  clear s1 b1 b2
  go_wp2_with (at_builtin; refine wpList_append_grows _ rfl _ _ 29 rfl 5 i0 (.int .u8 0) 1 1 Tryd.underlying29 hi hz0 hz1 hz2 rfl (by decide) (some ⟨g1, 0, none⟩) 4 4 ((bytesOf (n / 4294967296) 4).map (Value.int .u8)) rfl (by simp) (by simp [bytesOf_length]) (fun b hb j u hj => by cases hb; exact seg_news s12 j u hj) ⟨g2, 0, none⟩ 4 4 ((bytesOf (n % 4294967296) 4).map (Value.int .u8)) rfl (by simp [bytesOf_length]) (seg_news s2) (news_one _) (by omega) (by unfold maxLen; omega) (by omega) ?_; intro v' w3 hown3 hgrow3)
  obtain ⟨g3, cap3, rfl, _, _, _⟩ := own_shape hown3 (by omega)
  rw [← List.map_append, ← HH.out] at hown3
  have hown4 := own_base hown3 B2.size
  have B3 : Below w.heap.size w w3 := B2.grown hgrow3 B2.size (by simp)
  clear hown3 hgrow3
  go_wp2
  go_ret
  exact ⟨g3, cap3, rfl, hown4, B3⟩
end Go.Proofs.YtecbhhfncklefaaDoor

/- The document's 'Put' and 'PutLong', of points of time and of what is told of a node too: what they answer lies in memory made since; nothing that was there turns. -/
namespace Go.Proofs.YtecbhhfncklefaaDoor
set_option linter.unusedVariables false
open Go.RowKit

theorem new_put (n : Int) (W : World) (h0 : 0 ≤ n) (h1 : n ≤ 4294967295) : Calls Tryd.prog 28 #[.int .u32 n] W fun e W' => ∃ g c, e = .returned (.slice (some ⟨g, 0, none⟩) 4 c) ∧ Seg W' (some ⟨g, 0, none⟩) (bytesOf n 4) ∧ W.heap.size ≤ g ∧ Below W.heap.size W W' :=
  (reft_own n h0 h1 W).mono fun e W' ⟨he, ho, hb⟩ => ⟨_, _, he, seg_own ho (bytesOf_length n 4), Nat.le_refl _, hb⟩
theorem new_long (n : Int) (W : World) (h0 : 0 ≤ n) (h1 : n ≤ 18446744073709551615) : Calls Tryd.prog 29 #[.int .u64 n] W fun e W' => ∃ g c, e = .returned (.slice (some ⟨g, 0, none⟩) 8 c) ∧ Seg W' (some ⟨g, 0, none⟩) (bytesOf n 8) ∧ W.heap.size ≤ g ∧ Below W.heap.size W W' :=
  (refPutLong_own n h0 h1 W).mono fun e W' ⟨g, c, he, ho, hb⟩ => ⟨g, c, he, seg_own ho (bytesOf_length n 8), (own_lt ho rfl).1, hb⟩
end Go.Proofs.YtecbhhfncklefaaDoor

/- What is to be set, in a block; two of them that are the same; nothing is claimed of the program here. -/
namespace Go.Proofs.YtecbhhfncklefaaDoor
set_option linter.unusedVariables false
open Go.RowKit

/-- What is to be set lies in a block. -/
def Sp (W : World) (h : Nat) (x : Stt) : Prop := W.heap[h]? = some (.cells #[.bool x.hm, .int .u32 x.mode, .bool x.hu, .int .u32 x.user, .bool x.hg, .int .u32 x.group, .bool x.hs, .int .u64 x.size, .int .u32 x.rh, .int .u32 x.rs, .int .u32 x.rn, .int .u32 x.wh, .int .u32 x.ws, .int .u32 x.wn] 37)
theorem Sp.new (W : World) (x : Stt) : Sp (W.alloc (.cells #[.bool x.hm, .int .u32 x.mode, .bool x.hu, .int .u32 x.user, .bool x.hg, .int .u32 x.group, .bool x.hs, .int .u64 x.size, .int .u32 x.rh, .int .u32 x.rs, .int .u32 x.rn, .int .u32 x.wh, .int .u32 x.ws, .int .u32 x.wn] 37)) W.heap.size x := World.alloc_heap_new W _
theorem Sp.lt {W : World} {h : Nat} {x : Stt} (t : Sp W h x) : h < W.heap.size := (Array.getElem?_eq_some_iff.1 t).1
theorem Sp.next {W W' : World} {h : Nat} {x : Stt} (t : Sp W h x) (hb : Below W.heap.size W W') : Sp W' h x := (hb.block _ t.lt).trans t
theorem Sp.alloc {W : World} {h : Nat} {x : Stt} (t : Sp W h x) (o : Obj) : Sp (W.alloc o) h x := t.next ((Below.refl _ _).alloc (Nat.le_refl _) o)
theorem Sp.kept {W W' : World} {h : Nat} {x : Stt} (t : Sp W h x) (hb : W'.heap[h]? = W.heap[h]?) : Sp W' h x := hb.trans t
/-- Its cells. -/
theorem Sp.c {W : World} {h : Nat} {x : Stt} (t : Sp W h x) : W.cell? ⟨h, 0, none⟩ = some (.bool x.hm) ∧ W.cell? ⟨h, 1, none⟩ = some (.int .u32 x.mode) ∧ W.cell? ⟨h, 2, none⟩ = some (.bool x.hu) ∧ W.cell? ⟨h, 3, none⟩ = some (.int .u32 x.user) ∧ W.cell? ⟨h, 4, none⟩ = some (.bool x.hg) ∧ W.cell? ⟨h, 5, none⟩ = some (.int .u32 x.group) ∧ W.cell? ⟨h, 6, none⟩ = some (.bool x.hs) ∧ W.cell? ⟨h, 7, none⟩ = some (.int .u64 x.size) ∧ W.cell? ⟨h, 8, none⟩ = some (.int .u32 x.rh) ∧ W.cell? ⟨h, 9, none⟩ = some (.int .u32 x.rs) ∧ W.cell? ⟨h, 10, none⟩ = some (.int .u32 x.rn) ∧ W.cell? ⟨h, 11, none⟩ = some (.int .u32 x.wh) ∧ W.cell? ⟨h, 12, none⟩ = some (.int .u32 x.ws) ∧ W.cell? ⟨h, 13, none⟩ = some (.int .u32 x.wn) := by
  have t' : W.heap[h]? = _ := t
  refine ⟨?_, ?_, ?_, ?_, ?_, ?_, ?_, ?_, ?_, ?_, ?_, ?_, ?_, ?_⟩ <;> (simp only [World.cell?, t']; rfl)
theorem s_info : (Tryd.prog.info? 37).map (·.size) = some 14 := by kernel_rfl
set_option maxRecDepth 100000 in
set_option maxHeartbeats 1000000 in
theorem s_self (x : Stt) (w : World) : (binOp .eql 37 (.agg #[.bool x.hm, .int .u32 x.mode, .bool x.hu, .int .u32 x.user, .bool x.hg, .int .u32 x.group, .bool x.hs, .int .u64 x.size, .int .u32 x.rh, .int .u32 x.rs, .int .u32 x.rn, .int .u32 x.wh, .int .u32 x.ws, .int .u32 x.wn]) (.agg #[.bool x.hm, .int .u32 x.mode, .bool x.hu, .int .u32 x.user, .bool x.hg, .int .u32 x.group, .bool x.hs, .int .u64 x.size, .int .u32 x.rh, .int .u32 x.rs, .int .u32 x.rn, .int .u32 x.wh, .int .u32 x.ws, .int .u32 x.wn])).run Tryd.prog w = .ok (.bool true) w := by
  rw [run_eql_struct]
  simp [go_sem]
set_option maxRecDepth 100000 in
set_option maxHeartbeats 1000000 in
theorem s_selfn (x : Stt) (w : World) : (binOp .neq 37 (.agg #[.bool x.hm, .int .u32 x.mode, .bool x.hu, .int .u32 x.user, .bool x.hg, .int .u32 x.group, .bool x.hs, .int .u64 x.size, .int .u32 x.rh, .int .u32 x.rs, .int .u32 x.rn, .int .u32 x.wh, .int .u32 x.ws, .int .u32 x.wn]) (.agg #[.bool x.hm, .int .u32 x.mode, .bool x.hu, .int .u32 x.user, .bool x.hg, .int .u32 x.group, .bool x.hs, .int .u64 x.size, .int .u32 x.rh, .int .u32 x.rs, .int .u32 x.rn, .int .u32 x.wh, .int .u32 x.ws, .int .u32 x.wn])).run Tryd.prog w = .ok (.bool false) w := by
  rw [run_neq_struct]
  simp [go_sem]
end Go.Proofs.YtecbhhfncklefaaDoor
