/- 'mayBe', 'numbers', 'Put' of the program: a handle's bytes in memory of their own; nothing that was there turns. -/
import Derived.Test.YtcpciodcecpibaaDoorHEq
import Derived.Test.YtcpciodcecpibaaDoorPutFixed
namespace Go.Proofs.YtcpciodcecpibaaDoor
set_option linter.unusedVariables false
open Go.RowKit

def okN (n : Int) : Bool := decide (1 ≤ n) && decide (n ≤ 1024)

set_option maxRecDepth 100000 in
set_option maxHeartbeats 400000 in
theorem maybe_any (n : Int) (w : World) : Calls Tryd.prog 9 #[.int .i64 n] w fun e w' => e = .returned (.bool (okN n)) ∧ w' = w := by
  by_cases h : 1 ≤ n ∧ n ≤ 1024
  · have hk : okN n = true := by simp [okN, h.1, h.2]
    obtain ⟨h1, h2⟩ := h
    rw [hk]
    clear hk
    go_enter Tryd.func9, Tryd.ntmps9
    go_wp2
    go_ret
    exact ⟨rfl, rfl⟩
  · have hk : okN n = false := by
      cases hk : okN n with
      | false => rfl
      | true =>
        simp only [okN, Bool.and_eq_true, decide_eq_true_eq] at hk
        exact absurd hk h
    rw [hk]
    clear hk
    by_cases h1 : 1 ≤ n
    · have h2 : ¬ n ≤ 1024 := fun e => h ⟨h1, e⟩
      clear h
      go_enter Tryd.func9, Tryd.ntmps9
      go_wp2
      go_ret
      exact ⟨rfl, rfl⟩
    · clear h
      go_enter Tryd.func9, Tryd.ntmps9
      go_wp2
      go_ret
      exact ⟨rfl, rfl⟩

theorem padded16 (zs : List Int) (h : zs.length = 16) : padded zs = zs := by
  unfold padded
  rw [h, show padN 16 = 0 from rfl]
  simp

set_option maxRecDepth 100000 in
set_option maxHeartbeats 400000 in
theorem hput_no (n g : Int) (w : World) (h : okN n = false) :
    Calls Tryd.prog 4 #[.agg #[.int .i64 n, .int .u32 g]] w fun e w' => e = .returned (.tuple #[.slice none 0 0, .int .i64 1]) ∧ Below w.heap.size w w' := by
  have hm := fun w => maybe_any n w
  rw [h] at hm
  go_enter Tryd.func4, Tryd.ntmps4
  go_wp2_with (go_at_call 9; refine (hm _).mono ?_; rintro e w' ⟨rfl, hw'⟩; subst w')
  go_ret2
  exact ⟨rfl, (Below.refl _ _).alloc (Nat.le_refl _) _⟩

set_option maxRecDepth 100000 in
set_option maxHeartbeats 1000000 in
theorem hput_yes (n g : Int) (w : World) (h0 : 1 ≤ n) (h1 : n ≤ 1024) (h2 : 0 ≤ g) (h3 : g ≤ 4294967295) :
    Calls Tryd.prog 4 #[.agg #[.int .i64 n, .int .u32 g]] w fun e w' => ∃ G, e = .returned (.tuple #[.slice (some ⟨G, 0, none⟩) 16 16, .int .i64 0]) ∧
      w'.ownsRow w.heap.size 5 1 (.slice (some ⟨G, 0, none⟩) 16 16) 16 ((hB n g).map (Value.int .u8)) ∧ Below w.heap.size w w' := by
  have hm := fun w => maybe_any n w
  rw [show okN n = true from by simp [okN, h0, h1]] at hm
  have hB1 : Below w.heap.size w (w.alloc (.cells #[.int .i64 n, .int .u32 g] 24)) := (Below.refl _ _).alloc (Nat.le_refl _) _
  have hh1 := World.alloc_heap_new w (.cells #[.int .i64 n, .int .u32 g] 24)
  have hp := padded16 (hB n g) (hB_length n g)
  go_enter Tryd.func4, Tryd.ntmps4
  go_wp2_with (go_at_call 9; refine (hm _).mono ?_; rintro e w' ⟨rfl, hw'⟩; subst w')
  refine (htold_any n g _ h0 h1 h2 h3).mono ?_
  rintro e W1 ⟨rfl, hb1⟩
  have hBW := hB1.trans (hb1.mono hB1.size)
  have hlen : (vz (hB n g)).toArray.size = 16 := by rw [List.size_toArray, vz_length, hB_length]
  have hone : (vz (hB n g)).toArray.all (·.oneCell') = true := by
    rw [List.all_toArray, List.all_eq_true]
    exact vz_one _
  have hA := World.alloc_heap_new W1 (.cells #[.int .u8 0, .int .u8 0, .int .u8 0, .int .u8 0, .int .u8 0, .int .u8 0, .int .u8 0, .int .u8 0, .int .u8 0, .int .u8 0, .int .u8 0, .int .u8 0, .int .u8 0, .int .u8 0, .int .u8 0, .int .u8 0] 44)
  have hBA : Below w.heap.size w (W1.alloc (.cells #[.int .u8 0, .int .u8 0, .int .u8 0, .int .u8 0, .int .u8 0, .int .u8 0, .int .u8 0, .int .u8 0, .int .u8 0, .int .u8 0, .int .u8 0, .int .u8 0, .int .u8 0, .int .u8 0, .int .u8 0, .int .u8 0] 44)) := hBW.alloc hBW.size _
  have hsA : (W1.alloc (.cells #[.int .u8 0, .int .u8 0, .int .u8 0, .int .u8 0, .int .u8 0, .int .u8 0, .int .u8 0, .int .u8 0, .int .u8 0, .int .u8 0, .int .u8 0, .int .u8 0, .int .u8 0, .int .u8 0, .int .u8 0, .int .u8 0] 44)).heap.size = W1.heap.size + 1 := by simp
  have hw1 := hBW.size
  clear hm hh1 hB1 hb1
  go_wp2_with (refine wpList_store_whole rfl _ _ _ rfl W1.heap.size _ rfl rfl 44 _ hA (by rw [hlen]; kernel_rfl) (by rw [hlen]; rfl) hone ?_; intro W2 hr2 hg2 hs2)
  have hB2 : Below w.heap.size w W2 := hBA.grown hg2 (by omega) (fun k e => by cases e; omega)
  have hseg : Seg W2 (some ⟨W1.heap.size, 0, none⟩) (hB n g) := by
    refine .inr ⟨_, _, rfl, fun i hi => ?_⟩
    simp only [World.cell?, hr2]
    simp [vz, List.getElem?_eq_getElem hi]
  have hpf := putfixed_any (some ⟨W1.heap.size, 0, none⟩) 16 16 (hB n g) W2 (by omega) (by omega) (hB_length n g) hseg (by simp)
  rw [hp, show padN 16 = 0 from rfl] at hpf
  clear hA hBA hsA hr2 hg2 hs2 hlen hone hseg hp
  go_wp2_with (go_at_call 11; refine hpf.mono ?_; rintro e W3 ⟨rfl, hown3, hb3⟩)
  go_ret2
  exact ⟨_, rfl, own_base hown3 hB2.size, hB2.trans (hb3.mono hB2.size)⟩
end Go.Proofs.YtcpciodcecpibaaDoor
