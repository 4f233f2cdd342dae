/- 'told': the bytes of a number, the highest first, told one by one to whoever asks; its function value's contract. -/
import Derived.RangeFuncBox
import Derived.RangeFuncLeaves
import Derived.RangeFuncCalls
import Derived.Shelf.Abstract
import Derived.WalkKit
import Derived.OwnWalkIn
import Derived.TacticsInMore
import Derived.LoopNIn
import Derived.LoopIn
import Derived.Maps.AppendAt
import Derived.Outline
import Derived.Test.YtecbhhfncklefabRows
import Derived.Test.YtecbhhfncklefabBase
import Derived.Test.YtecbhhfncklefabBytes
namespace Go.Proofs.Ytecbhhfncklefab
set_option linter.unusedVariables false
open Go.RowKit Go.Shelf
attribute [local go_sem] Oper.semAt_some

/-- What a round keeps: the two boxes of the iterator. -/
def KeepBox (Bn Bm : Nat) (W W' : World) : Prop := W'.cell? ⟨Bn, 0, none⟩ = W.cell? ⟨Bn, 0, none⟩ ∧ W'.cell? ⟨Bm, 0, none⟩ = W.cell? ⟨Bm, 0, none⟩

set_option maxRecDepth 100000 in
set_option maxHeartbeats 1000000 in
theorem told1_in (F : Fence) (n : Nat) (hf : F.fn 87) (hro : F.round = none) (hn : 1 ≤ n) (l Bn Bm : Nat) (x : Int) (size : Nat) (hx0 : 0 ≤ x) (hx1 : x ≤ 18446744073709551615) (hsz : size ≤ 8) (J Jx : List Int → World → Prop)
    (hY : ∀ pre y W, J pre W → pre.length < size → YieldAt F (n - 1) Try.prog l #[.int .u8 y] W fun e W' =>
      (e = .returned (.bool true) ∧ J (pre ++ [y]) W' ∧ KeepBox Bn Bm W W') ∨ (e = .returned (.bool false) ∧ Jx (pre ++ [y]) W'))
    (W : World) (hBn : W.cell? ⟨Bn, 0, none⟩ = some (.int .u64 x)) (hBm : W.cell? ⟨Bm, 0, none⟩ = some (.int .i64 size)) (h0 : J [] W) :
    CallsIn F n Try.prog 87 #[.func (.yield l) #[] #[], .pointer (some ⟨Bm, 0, none⟩), .pointer (some ⟨Bn, 0, none⟩)] W fun e W' => (∃ v, e = .returned v) ∧
      ((∃ ys, ys = bytesOf x size ∧ J ys W') ∨ (∃ pre, pre <+: bytesOf x size ∧ Jx pre W')) := by
  refine callsIn_of_wp Try.func87 rfl hf ?_ hro
  simp only [Try.ntmps87, List.size_toArray, List.length_cons, List.length_nil, Nat.reduceAdd, Nat.reduceSub, Array.replicate_succ, Array.replicate_zero, List.push_toArray, List.append_toArray, List.nil_append, List.cons_append]
  gi_wp2
  gi_loopw [4] (fun p wr => ∃ k : Nat, k ≤ size ∧ p = .int .i64 ((size : Int) - (k : Int)) ∧ wr.cell? ⟨Bn, 0, none⟩ = some (.int .u64 x) ∧ J ((bytesOf x size).take k) wr)
    (fun p wr => (intOf p).toNat)
  case atStart =>
    exact ⟨0, by omega, by go_num, hBn, h0⟩
  case round =>
    obtain ⟨k, hk, rfl, hbn, hJs⟩ := hrel
    by_cases hlt : k < size
    · have hbt : Hid ((bytesOf x size).take (k + 1) = (bytesOf x size).take k ++ [x / 2 ^ (8 * (size - k - 1)) % 256]) := bytesOf_take x size k hlt
      obtain ⟨fn, tmps, assign, body, hy, hR⟩ := hY _ (x / 2 ^ (8 * (size - k - 1)) % 256) wr hJs (by rw [List.length_take, bytesOf_length]; omega)
      rw [← hbt.out] at hR
      gi_wp2
      refine hR.mono ?_
      rintro e W3 (⟨rfl, hJ3, hk3⟩ | ⟨rfl, hJx3⟩)
      · have hbn3 : W3.cell? ⟨Bn, 0, none⟩ = some (.int .u64 x) := hk3.1.trans hbn
        gi_wp2
        go_roundw
        case rel => exact ⟨k + 1, by omega, by go_num, hbn3, hJ3⟩
        case measure => simp [intOf]; omega
      · gi_wp2
        refine bodyPost_ret (results_none rfl _ _ _) rfl ?_
        exact ⟨⟨_, rfl⟩, .inr ⟨_, List.take_prefix _ _, hJx3⟩⟩
    · obtain rfl : k = size := by omega
      gi_wp2
      go_end0
      exact ⟨⟨_, rfl⟩, .inl ⟨_, by rw [List.take_of_length_le (by rw [bytesOf_length]; omega)], hJs⟩⟩

set_option maxHeartbeats 1000000 in
theorem told_in (F : Fence) (n : Nat) (hf : F.fn 84) (hro : F.round = none) (x s : Int) (w : World) :
    CallsIn F n Try.prog 84 #[.int .u64 x, .int .i64 s] w fun e w' => e = .returned (.func (.func 87) #[] #[.pointer (some ⟨w.heap.size + 1, 0, none⟩), .pointer (some ⟨w.heap.size, 0, none⟩)]) ∧
      w' = (w.alloc (.cells #[.int .u64 x] 24)).alloc (.cells #[.int .i64 s] 3) := by
  refine callsIn_of_wp Try.func84 rfl hf ?_ hro
  simp only [Try.ntmps84, List.size_toArray, List.length_cons, List.length_nil, Nat.reduceAdd, Nat.reduceSub, Array.replicate_succ, Array.replicate_zero, List.push_toArray, List.append_toArray, List.nil_append, List.cons_append]
  gi_wp2
  go_ret
  exact ⟨rfl, rfl⟩

theorem told_stops (F : Fence) (n : Nat) (hf : F.fn 87) (hro : F.round = none) (hn : 1 ≤ n) (Bn Bm : Nat) (x : Int) (size : Nat) (hx0 : 0 ≤ x) (hx1 : x ≤ 18446744073709551615) (hsz : size ≤ 8) (w : World)
    (hlt : Bn < w.heap.size) (hlt2 : Bm < w.heap.size) (hBn : w.cell? ⟨Bn, 0, none⟩ = some (.int .u64 x)) (hBm : w.cell? ⟨Bm, 0, none⟩ = some (.int .i64 size)) :
    SeqStopsK F n Try.prog 87 #[.pointer (some ⟨Bm, 0, none⟩), .pointer (some ⟨Bn, 0, none⟩)] (fun y : Int => #[Value.int .u8 y]) (KeepBox Bn Bm) (fun ys => ys = bytesOf x size) (fun pre => pre <+: bytesOf x size) size w :=
  fun l J Jx W hW _ _ hY h0 => told1_in F n hf hro hn l Bn Bm x size hx0 hx1 hsz J Jx hY W ((hW.cell (p := ⟨Bn, 0, none⟩) hlt).trans hBn) ((hW.cell (p := ⟨Bm, 0, none⟩) hlt2).trans hBm) h0

theorem keepBox_t {Bn Bm : Nat} {A B C : World} (h : KeepBox Bn Bm A B) (k : KeepBox Bn Bm B C) : KeepBox Bn Bm A C := ⟨k.1.trans h.1, k.2.trans h.2⟩

theorem keepBox_below {Bn Bm : Nat} {A B : World} (h1 : A.heap[Bn]? = B.heap[Bn]?) (h2 : A.heap[Bm]? = B.heap[Bm]?) : KeepBox Bn Bm A B :=
  ⟨World.cell?_of_block (w := A) (a := ⟨Bn, 0, none⟩) h1.symm, World.cell?_of_block (w := A) (a := ⟨Bm, 0, none⟩) h2.symm⟩

theorem keepBox_b {Bn Bm : Nat} {w : World} (hn : Bn < w.heap.size) (hm : Bm < w.heap.size) (W : World) (l : Nat) (o o' : Obj) (hl : w.heap.size ≤ l) (h : W.heap[l]? = some o) (_ : o.isCells = false) (_ : o.isWalk = false) : KeepBox Bn Bm W (W.putObj l o') :=
  keepBox_below (World.putObj_heap_other (by omega)).symm (World.putObj_heap_other (by omega)).symm
end Go.Proofs.Ytecbhhfncklefab

/- 'put', 'Put': the bytes of a number, the highest first, in memory of their own that has no spare room; nothing that was there turns. -/
namespace Go.Proofs.Ytecbhhfncklefab
set_option linter.unusedVariables false
open Go.RowKit Go.Shelf
attribute [local go_sem] Oper.semAt_some

theorem infoB : (Try.prog.info? 5).map (fun i => (i.zero, i.size, i.bytes)) = some (some (.int .u8 0), 1, 1) := by kernel_rfl

set_option maxRecDepth 100000 in
set_option maxHeartbeats 2000000 in
theorem put_in (F : Fence) (n : Nat) (h24 : F.fn 80) (h25 : F.fn 84) (h26 : F.fn 87) (hro : F.round = none) (hn : 3 ≤ n) (x : Int) (size : Nat) (hx0 : 0 ≤ x) (hx1 : x ≤ 18446744073709551615) (hs0 : 0 < size) (hsz : size ≤ 8) (w : World) :
    CallsIn F n Try.prog 80 #[.int .u64 x, .int .i64 size] w fun e W' => e = .returned (.slice (some ⟨w.heap.size, 0, none⟩) size size) ∧
      W'.ownsRow w.heap.size 5 1 (.slice (some ⟨w.heap.size, 0, none⟩) size size) size ((bytesOf x size).map (Value.int .u8)) ∧ Below w.heap.size w W' := by
  have h1 : 1 ≤ n := by omega
  obtain ⟨i0, hi, hz0, hz1, hz2⟩ := info_parts infoB
  refine callsIn_of_wp_marks Try.func80 rfl h24 ?_ hro
  simp only [Try.ntmps80, List.size_toArray, List.length_cons, List.length_nil, Nat.reduceAdd, Nat.reduceSub, Array.replicate_succ, Array.replicate_zero, List.push_toArray, List.append_toArray, List.nil_append, List.cons_append]
  gi_wp2_with (first
    | (gi_at_make; refine wpListIn_make_own _ rfl _ _ 29 rfl w.heap.size 5 i0 (.int .u8 0) 1 Try.underlying29 hi hz0 hz1 .i64 .i64 _ size rfl rfl rfl (by rw [hz2]; omega) (by unfold maxLen; omega) (Nat.le_refl _) ?_; intro w1 hown1 hgrow1)
    | (gi_at_call 84; refine (told_in F (n - 1) h25 hro _ _ _).mono ?_; rintro e w' ⟨rfl, rfl⟩))
  have bO := ((Boxed.new w1 29 (.slice (some ⟨w.heap.size, 0, none⟩) 0 size)).alloc (.cells #[.int .u64 x] 24)).alloc (.cells #[.int .i64 size] 3)
  have bX := (Boxed.new (w1.alloc (.cells #[.slice (some ⟨w.heap.size, 0, none⟩) 0 size] 29)) 24 (.int .u64 x)).alloc (.cells #[.int .i64 size] 3)
  have bS := Boxed.new ((w1.alloc (.cells #[.slice (some ⟨w.heap.size, 0, none⟩) 0 size] 29)).alloc (.cells #[.int .u64 x] 24)) 3 (.int .i64 size)
  have hr0 := ((hown1.alloc (.cells #[.slice (some ⟨w.heap.size, 0, none⟩) 0 size] 29)).alloc (.cells #[.int .u64 x] 24)).alloc (.cells #[.int .i64 size] 3)
  simp only [World.size_alloc] at bX bS
  have hsz1 : w.heap.size < w1.heap.size := (hown1.lt w.heap.size rfl).2
  have hB0 : Below w.heap.size w (((w1.alloc (.cells #[.slice (some ⟨w.heap.size, 0, none⟩) 0 size] 29)).alloc (.cells #[.int .u64 x] 24)).alloc (.cells #[.int .i64 size] 3)) :=
    ((((Below.refl _ w).grown hgrow1 (Nat.le_refl _) (by simp)).alloc (by omega) _).alloc (by simp; omega) _).alloc (by simp; omega) _
  have hwl : (((w1.alloc (.cells #[.slice (some ⟨w.heap.size, 0, none⟩) 0 size] 29)).alloc (.cells #[.int .u64 x] 24)).alloc (.cells #[.int .i64 size] 3)).heap.size = w1.heap.size + 3 := by simp
  generalize (((w1.alloc (.cells #[.slice (some ⟨w.heap.size, 0, none⟩) 0 size] 29)).alloc (.cells #[.int .u64 x] 24)).alloc (.cells #[.int .i64 size] 3)) = Wl at bO bX bS hr0 hB0 hwl ⊢
  clear hown1 hgrow1
  generalize w1.heap.size = b at *
  refine wpIn_rangeFunc_ownG hro h1 (gf := 87) (lb := #[.pointer (some ⟨b + 1 + 1, 0, none⟩), .pointer (some ⟨b + 1, 0, none⟩)]) rfl h26 (enters_of Try.func87 (by kernel_rfl) rfl)
    (told_stops F (n - 1) h26 hro (by omega) (b + 1) (b + 1 + 1) x size hx0 hx1 hsz _ (by omega) (by omega) bX.cell bS.cell) keepBox_t (keepBox_b (by omega) (by omega)) (Below.refl _ _) (fun _ => rfl)
    (fun (pre : List Int) W => ((∃ v, Boxed W b 29 v ∧ W.ownsRow w.heap.size 5 1 v pre.length (pre.map (Value.int .u8)) ∧ v = .slice (some ⟨w.heap.size, 0, none⟩) pre.length size) ∧ Below w.heap.size w W) ∧ b + 1 + 1 < W.heap.size)
    (fun _ _ _ => False)
    (OwnFrom.and (OwnFrom.and (Own.from (holdsRow_own w.heap.size b 29 5 1 (fun pre : List Int => pre.length) (fun pre : List Int => pre.map (Value.int .u8)) (fun (pre : List Int) v => v = .slice (some ⟨w.heap.size, 0, none⟩) pre.length size)) _) (ownFrom_below (Nat.le_refl _) (by omega))) (fun _ _ _ _ hs hg _ => Nat.lt_of_lt_of_le hs hg.size))
    (fun _ _ _ _ _ hs _ _ => hs)
    ⟨⟨⟨_, bO, hr0, rfl⟩, hB0⟩, by omega⟩
    (fun y : Int => { tmps := #[.int .u64 x, .int .i64 size, undef, undef, .slice none 0 0, .pointer (some ⟨b, 0, none⟩), .int .u8 y, .int .i64 size, .slice (some ⟨w.heap.size, 0, none⟩) 0 size, .int .u64 x, .int .i64 size, .func (.func 87) #[] #[.pointer (some ⟨b + 1 + 1, 0, none⟩), .pointer (some ⟨b + 1, 0, none⟩)], .int .u8 y, undef, undef, undef, undef, undef], defers := [] }) ?assign ?body ?done ?stop
  case assign =>
    intro l y W K hK
    gi_wp2
    exact hK
  case body =>
    rintro l pre y W ⟨⟨⟨v, hv, hrow, rfl⟩, hB⟩, hbW⟩ hlt
    have hc := hv.cell
    have hBs := hB.size
    gi_wp2_with (gi_at_builtin; refine wpListIn_append_fits _ rfl _ _ 29 rfl w.heap.size 5 i0 1 Try.underlying29 hi hz1 w.heap.size pre.length size _ rfl (hrow.alloc _) ⟨W.heap.size, 0, none⟩ 1 1 [.int .u8 y] rfl rfl (cell_one_new _ _ _) (by simp [Value.oneCell']) (by omega) ?_; intro w2 hown' hgrow; obtain ⟨hv1, hv2, hr2, hk2, hb2⟩ := hv.appended (by decide) hrow hB.size (by omega) hown' hgrow; have hc1 := hv1.cell; have hf1 := hv1.frozen)
    have hgs := hgrow.size
    have hkb : ∀ k, k < W.heap.size → k ≠ w.heap.size → k ≠ b → W.heap[k]? = (w2.setCell ⟨b, 0, none⟩ (.slice (some ⟨w.heap.size, 0, none⟩) (pre.length + 1) size)).heap[k]? := fun k hk h1 h2 => by
      rw [Below.heap_setCell _ _ _ _ h2, hgrow.block k (by simp; omega) (by simp; omega), Below.heap_alloc _ _ _ hk]
    refine ⟨hk2.from _, keepBox_below (hkb (b + 1) (by omega) (by omega) (by omega)) (hkb (b + 1 + 1) (by omega) (by omega) (by omega)), ⟨⟨_, hv2, by simpa using hr2, by simp⟩, hB.trans hb2⟩, ?_⟩
    have : (w2.setCell ⟨b, 0, none⟩ (.slice (some ⟨w.heap.size, 0, none⟩) (pre.length + 1) size)).heap.size = w2.heap.size := by simp [World.setCell]
    simp at hgs
    omega
  case done =>
    rintro D ys W hD rfl ⟨⟨⟨v, hv, hrow, rfl⟩, hB⟩, hbW⟩ hK
    rw [bytesOf_length] at hv hrow
    have hc := hv.cell
    gi_wp2
    refine ⟨by simp, .inl ⟨_, _, rfl, run_takeDeferred hK, ?_⟩⟩
    exact ⟨_, results_tmp rfl _ _ _, rfl, ownsRow_putObj hrow _ hK rfl, hB.trans (belowK_b (w := w) (Nat.le_refl _) W D _ _ (by omega) hK rfl rfl)⟩
  case stop =>
    rintro D c pre W _ _ h _
    exact h.elim

theorem put_any (x : Int) (size : Nat) (hx0 : 0 ≤ x) (hx1 : x ≤ 18446744073709551615) (hs0 : 0 < size) (hsz : size ≤ 8) (w : World) :
    Calls Try.prog 80 #[.int .u64 x, .int .i64 size] w fun e W' => e = .returned (.slice (some ⟨w.heap.size, 0, none⟩) size size) ∧
      W'.ownsRow w.heap.size 5 1 (.slice (some ⟨w.heap.size, 0, none⟩) size size) size ((bytesOf x size).map (Value.int .u8)) ∧ Below w.heap.size w W' :=
  callsIn_wide.1 (put_in Fence.wide 3 trivial trivial trivial rfl (by omega) x size hx0 hx1 hs0 hsz w)

theorem put4_any (x : Int) (hx0 : 0 ≤ x) (hx1 : x ≤ 18446744073709551615) (w : World) :
    Calls Try.prog 80 #[.int .u64 x, .int .i64 4] w fun e W' => e = .returned (.slice (some ⟨w.heap.size, 0, none⟩) 4 4) ∧
      W'.ownsRow w.heap.size 5 1 (.slice (some ⟨w.heap.size, 0, none⟩) 4 4) 4 ((bytesOf x 4).map (Value.int .u8)) ∧ Below w.heap.size w W' := put_any x 4 hx0 hx1 (by omega) (by omega) w

set_option maxHeartbeats 400000 in
theorem Put_any (x : Int) (hx0 : 0 ≤ x) (hx1 : x ≤ 4294967295) (w : World) :
    Calls Try.prog 53 #[.int .u32 x] w fun e W' => e = .returned (.slice (some ⟨w.heap.size, 0, none⟩) 4 4) ∧
      W'.ownsRow w.heap.size 5 1 (.slice (some ⟨w.heap.size, 0, none⟩) 4 4) 4 ((bytesOf x 4).map (Value.int .u8)) ∧ Below w.heap.size w W' := by
  go_enter Try.func53, Try.ntmps53
  go_wp2_with (go_at_call 80; refine (put4_any x hx0 (by omega) _).mono ?_; rintro e w' ⟨rfl, hown, hb⟩)
  go_ret
  exact ⟨rfl, hown, hb⟩
end Go.Proofs.Ytecbhhfncklefab
