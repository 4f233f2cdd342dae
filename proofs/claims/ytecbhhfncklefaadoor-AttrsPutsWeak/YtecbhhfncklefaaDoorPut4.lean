/- 'put', 'Put': the bytes of a number, the highest first, in memory of their own that has no spare room; nothing that was there turns. -/
import Derived.Test.YtecbhhfncklefaaDoorTold
namespace Go.Proofs.YtecbhhfncklefaaDoor
set_option linter.unusedVariables false
open Go.RowKit Go.Shelf
attribute [local go_sem] Oper.semAt_some

theorem infoB : (Tryd.prog.info? 5).map (fun i => (i.zero, i.size, i.bytes)) = some (some (.int .u8 0), 1, 1) := by kernel_rfl

set_option maxRecDepth 100000 in
set_option maxHeartbeats 2000000 in
theorem put_in (F : Fence) (n : Nat) (h24 : F.fn 97) (h25 : F.fn 99) (h26 : F.fn 101) (hro : F.round = none) (hn : 3 ≤ n) (x : Int) (size : Nat) (hx0 : 0 ≤ x) (hx1 : x ≤ 18446744073709551615) (hs0 : 0 < size) (hsz : size ≤ 8) (w : World) :
    CallsIn F n Tryd.prog 97 #[.int .u64 x, .int .i64 size] w fun e W' => e = .returned (.slice (some ⟨w.heap.size, 0, none⟩) size size) ∧
      W'.ownsRow w.heap.size 5 1 (.slice (some ⟨w.heap.size, 0, none⟩) size size) size ((bytesOf x size).map (Value.int .u8)) ∧ Below w.heap.size w W' := by
  have h1 : 1 ≤ n := by omega
  obtain ⟨i0, hi, hz0, hz1, hz2⟩ := info_parts infoB
  refine callsIn_of_wp_marks Tryd.func97 rfl h24 ?_ hro
  simp only [Tryd.ntmps97, List.size_toArray, List.length_cons, List.length_nil, Nat.reduceAdd, Nat.reduceSub, Array.replicate_succ, Array.replicate_zero, List.push_toArray, List.append_toArray, List.nil_append, List.cons_append]
  gi_wp2_with (first
    | (gi_at_make; refine wpListIn_make_own _ rfl _ _ 29 rfl w.heap.size 5 i0 (.int .u8 0) 1 Tryd.underlying29 hi hz0 hz1 .i64 .i64 _ size rfl rfl rfl (by rw [hz2]; omega) (by unfold maxLen; omega) (Nat.le_refl _) ?_; intro w1 hown1 hgrow1)
    | (gi_at_call 99; refine (told_in F (n - 1) h25 hro _ _ _).mono ?_; rintro e w' ⟨rfl, rfl⟩))
  have bO := ((Boxed.new w1 29 (.slice (some ⟨w.heap.size, 0, none⟩) 0 size)).alloc (.cells #[.int .u64 x] 24)).alloc (.cells #[.int .i64 size] 3)
  have bX := (Boxed.new (w1.alloc (.cells #[.slice (some ⟨w.heap.size, 0, none⟩) 0 size] 29)) 24 (.int .u64 x)).alloc (.cells #[.int .i64 size] 3)
  have bS := Boxed.new ((w1.alloc (.cells #[.slice (some ⟨w.heap.size, 0, none⟩) 0 size] 29)).alloc (.cells #[.int .u64 x] 24)) 3 (.int .i64 size)
  have hr0 := ((hown1.alloc (.cells #[.slice (some ⟨w.heap.size, 0, none⟩) 0 size] 29)).alloc (.cells #[.int .u64 x] 24)).alloc (.cells #[.int .i64 size] 3)
  simp only [World.size_alloc] at bX bS
  have hsz1 : w.heap.size < w1.heap.size := (hown1.lt w.heap.size rfl).2
  have hB0 : Below w.heap.size w (((w1.alloc (.cells #[.slice (some ⟨w.heap.size, 0, none⟩) 0 size] 29)).alloc (.cells #[.int .u64 x] 24)).alloc (.cells #[.int .i64 size] 3)) :=
    ((((Below.refl _ w).grown hgrow1 (Nat.le_refl _) (by simp)).alloc (by omega) _).alloc (by simp; omega) _).alloc (by simp; omega) _
  have hwl : (((w1.alloc (.cells #[.slice (some ⟨w.heap.size, 0, none⟩) 0 size] 29)).alloc (.cells #[.int .u64 x] 24)).alloc (.cells #[.int .i64 size] 3)).heap.size = w1.heap.size + 3 := by simp
  generalize (((w1.alloc (.cells #[.slice (some ⟨w.heap.size, 0, none⟩) 0 size] 29)).alloc (.cells #[.int .u64 x] 24)).alloc (.cells #[.int .i64 size] 3)) = Wl at bO bX bS hr0 hB0 hwl ⊢
  clear hown1 hgrow1
  generalize w1.heap.size = b at *
  refine wpIn_rangeFunc_ownG hro h1 (gf := 101) (lb := #[.pointer (some ⟨b + 1 + 1, 0, none⟩), .pointer (some ⟨b + 1, 0, none⟩)]) rfl h26 (enters_of Tryd.func101 (by kernel_rfl) rfl)
    (told_stops F (n - 1) h26 hro (by omega) (b + 1) (b + 1 + 1) x size hx0 hx1 hsz _ (by omega) (by omega) bX.cell bS.cell) keepBox_t (keepBox_b (by omega) (by omega)) (Below.refl _ _) (fun _ => rfl)
    (fun (pre : List Int) W => ((∃ v, Boxed W b 29 v ∧ W.ownsRow w.heap.size 5 1 v pre.length (pre.map (Value.int .u8)) ∧ v = .slice (some ⟨w.heap.size, 0, none⟩) pre.length size) ∧ Below w.heap.size w W) ∧ b + 1 + 1 < W.heap.size)
    (fun _ _ _ => False)
    (OwnFrom.and (OwnFrom.and (Own.from (holdsRow_own w.heap.size b 29 5 1 (fun pre : List Int => pre.length) (fun pre : List Int => pre.map (Value.int .u8)) (fun (pre : List Int) v => v = .slice (some ⟨w.heap.size, 0, none⟩) pre.length size)) _) (ownFrom_below (Nat.le_refl _) (by omega))) (fun _ _ _ _ hs hg _ => Nat.lt_of_lt_of_le hs hg.size))
    (fun _ _ _ _ _ hs _ _ => hs)
    ⟨⟨⟨_, bO, hr0, rfl⟩, hB0⟩, by omega⟩
    (fun y : Int => { tmps := #[.int .u64 x, .int .i64 size, undef, undef, .slice none 0 0, .pointer (some ⟨b, 0, none⟩), .int .u8 y, .int .i64 size, .slice (some ⟨w.heap.size, 0, none⟩) 0 size, .int .u64 x, .int .i64 size, .func (.func 101) #[] #[.pointer (some ⟨b + 1 + 1, 0, none⟩), .pointer (some ⟨b + 1, 0, none⟩)], .int .u8 y, undef, undef, undef, undef, undef], defers := [] }) ?assign ?body ?done ?stop
  case assign =>
    intro l y W K hK
    gi_wp2
    exact hK
  case body =>
    rintro l pre y W ⟨⟨⟨v, hv, hrow, rfl⟩, hB⟩, hbW⟩ hlt
    have hc := hv.cell
    have hBs := hB.size
    gi_wp2_with (gi_at_builtin; refine wpListIn_append_fits _ rfl _ _ 29 rfl w.heap.size 5 i0 1 Tryd.underlying29 hi hz1 w.heap.size pre.length size _ rfl (hrow.alloc _) ⟨W.heap.size, 0, none⟩ 1 1 [.int .u8 y] rfl rfl (cell_one_new _ _ _) (by simp [Value.oneCell']) (by omega) ?_; intro w2 hown' hgrow; obtain ⟨hv1, hv2, hr2, hk2, hb2⟩ := hv.appended (by decide) hrow hB.size (by omega) hown' hgrow; have hc1 := hv1.cell; have hf1 := hv1.frozen)
    have hgs := hgrow.size
    have hkb : ∀ k, k < W.heap.size → k ≠ w.heap.size → k ≠ b → W.heap[k]? = (w2.setCell ⟨b, 0, none⟩ (.slice (some ⟨w.heap.size, 0, none⟩) (pre.length + 1) size)).heap[k]? := fun k hk h1 h2 => by
      rw [Below.heap_setCell _ _ _ _ h2, hgrow.block k (by simp; omega) (by simp; omega), Below.heap_alloc _ _ _ hk]
    refine ⟨hk2.from _, keepBox_below (hkb (b + 1) (by omega) (by omega) (by omega)) (hkb (b + 1 + 1) (by omega) (by omega) (by omega)), ⟨⟨_, hv2, by simpa using hr2, by simp⟩, hB.trans hb2⟩, ?_⟩
    have : (w2.setCell ⟨b, 0, none⟩ (.slice (some ⟨w.heap.size, 0, none⟩) (pre.length + 1) size)).heap.size = w2.heap.size := by simp [World.setCell]
    simp at hgs
    omega
  case done =>
    rintro D ys W hD rfl ⟨⟨⟨v, hv, hrow, rfl⟩, hB⟩, hbW⟩ hK
    rw [bytesOf_length] at hv hrow
    have hc := hv.cell
    gi_wp2
    refine ⟨by simp, .inl ⟨_, _, rfl, run_takeDeferred hK, ?_⟩⟩
    exact ⟨_, results_tmp rfl _ _ _, rfl, ownsRow_putObj hrow _ hK rfl, hB.trans (belowK_b (w := w) (Nat.le_refl _) W D _ _ (by omega) hK rfl rfl)⟩
  case stop =>
    rintro D c pre W _ _ h _
    exact h.elim

theorem put_any (x : Int) (size : Nat) (hx0 : 0 ≤ x) (hx1 : x ≤ 18446744073709551615) (hs0 : 0 < size) (hsz : size ≤ 8) (w : World) :
    Calls Tryd.prog 97 #[.int .u64 x, .int .i64 size] w fun e W' => e = .returned (.slice (some ⟨w.heap.size, 0, none⟩) size size) ∧
      W'.ownsRow w.heap.size 5 1 (.slice (some ⟨w.heap.size, 0, none⟩) size size) size ((bytesOf x size).map (Value.int .u8)) ∧ Below w.heap.size w W' :=
  callsIn_wide.1 (put_in Fence.wide 3 trivial trivial trivial rfl (by omega) x size hx0 hx1 hs0 hsz w)

theorem put4_any (x : Int) (hx0 : 0 ≤ x) (hx1 : x ≤ 18446744073709551615) (w : World) :
    Calls Tryd.prog 97 #[.int .u64 x, .int .i64 4] w fun e W' => e = .returned (.slice (some ⟨w.heap.size, 0, none⟩) 4 4) ∧
      W'.ownsRow w.heap.size 5 1 (.slice (some ⟨w.heap.size, 0, none⟩) 4 4) 4 ((bytesOf x 4).map (Value.int .u8)) ∧ Below w.heap.size w W' := put_any x 4 hx0 hx1 (by omega) (by omega) w

set_option maxHeartbeats 400000 in
theorem Put_any (x : Int) (hx0 : 0 ≤ x) (hx1 : x ≤ 4294967295) (w : World) :
    Calls Tryd.prog 67 #[.int .u32 x] w fun e W' => e = .returned (.slice (some ⟨w.heap.size, 0, none⟩) 4 4) ∧
      W'.ownsRow w.heap.size 5 1 (.slice (some ⟨w.heap.size, 0, none⟩) 4 4) 4 ((bytesOf x 4).map (Value.int .u8)) ∧ Below w.heap.size w W' := by
  go_enter Tryd.func67, Tryd.ntmps67
  go_wp2_with (go_at_call 97; refine (put4_any x hx0 (by omega) _).mono ?_; rintro e w' ⟨rfl, hown, hb⟩)
  go_ret
  exact ⟨rfl, hown, hb⟩
end Go.Proofs.YtecbhhfncklefaaDoor
