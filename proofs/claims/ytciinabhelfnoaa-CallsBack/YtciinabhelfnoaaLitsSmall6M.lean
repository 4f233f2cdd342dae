/- '[]byte("..")' of a constant, and 'string(b)' of some bytes; nothing is claimed of the program here. -/
import Derived.Test.YtciinabhelfnoaaRows
import Derived.Test.YtciinabhelfnoaaBase
import Derived.Lib.SlBytesConst
import Derived.Test.YtciinabhelfnoaaPiecesGrowM
import Derived.Test.YtciinabhelfnoaaPut4M
import Derived.Lib.AppendZerosOnto
import Derived.Outline
namespace Go.Proofs.Ytciinabhelfnoaa
set_option linter.unusedVariables false
open Go.RowKit

/-- Bytes written out in a new block that bears a mark. -/
theorem seg_litm (w : World) (t : TypeId) (fz : Nat × Nat) (zs : List Int) : Seg (w.alloc (.cells (zs.map (Value.int .u8)).toArray t fz)) (some ⟨w.heap.size, 0, none⟩) zs := by
  refine .inr ⟨_, _, rfl, fun i hi => ?_⟩
  have h : (w.alloc (.cells (zs.map (Value.int .u8)).toArray t fz)).heap[w.heap.size]? = some (.cells (zs.map (Value.int .u8)).toArray t fz) := by
    show (w.heap.push _)[w.heap.size]? = _
    simp
  simp only [World.cell?, h]
  simp [List.getElem?_eq_getElem hi]

theorem seg_text {w : World} {g off n cap : Nat} {zs : List Int} (h : Seg w (some ⟨g, off, none⟩) zs) (hz : zs.length = n) (hn : 0 < n) :
    (convert 26 9 (.slice (some ⟨g, off, none⟩) n cap)).run Try.prog w = .ok (.string (strOfNums zs)) w := by
  rcases h with rfl | ⟨b, o, e, hc⟩
  · simp at hz; omega
  · cases e
    exact run_convert_bytes_arg w 26 5 Try.underlying26 Try.underlying5 g off n cap zs hz (fun i hi => by rw [hc i (by omega)]; simp [List.getD]) 9 Try.underlying9
end Go.Proofs.Ytciinabhelfnoaa

/- 'small' of the calls' laws: the document's example of a call. -/
namespace Go.Proofs.Ytciinabhelfnoaa
set_option linter.unusedVariables false
open Go.RowKit

theorem zeroCells_u8 (k : Nat) : Builtin.zeroCells #[.int .u8 0] k = (List.replicate k (Value.int .u8 0)).toArray := by
  refine Array.ext (by simp [Builtin.zeroCells]) fun i h1 h2 => ?_
  simp [Builtin.zeroCells, Nat.mod_one]

/-- Noughts behind bytes that have no room for them. -/
theorem zeros_new (w : World) (ty : TypeId) (g off n c : Nat) (zs : List Int) (k : Nat) (hs : Seg w (some ⟨g, off, none⟩) zs) (hz : zs.length = n) (hn : 0 < n) (hk : c < n + k) (hb : n + k ≤ 1000000) (hnc : n ≤ c) (hc : c ≤ 1000000) :
    ∃ v' w', (Builtin.append_ #[26, 3] ty #[.slice (some ⟨g, off, none⟩) n c, .int .i64 (k : Int)]).run Try.prog w = .ok v' w' ∧ w'.ownsRow w.heap.size 5 1 v' (n + k) ((zs ++ List.replicate k 0).map (Value.int .u8)) ∧ Below w.heap.size w w' := by
  obtain ⟨i0, hi, hz0, hz1, hz2⟩ := info_parts infoB
  have hcells : ∀ j u, (zs.map (Value.int .u8))[j]? = some u → w.drew.cell? ((⟨g, off, none⟩ : Addr).add j) = some u := fun j u hj => by
    rcases hs with h | ⟨b, o, e, hcc⟩
    · rw [h] at hz; simp at hz; omega
    · cases e
      rw [List.getElem?_map] at hj
      have hjl : j < zs.length := by
        by_cases h : j < zs.length
        · exact h
        · rw [List.getElem?_eq_none (by omega)] at hj; simp at hj
      have h1 := hcc j hjl
      rw [List.getElem?_eq_getElem hjl] at h1 hj
      simp only [Option.getD_some] at h1
      simp only [Option.map_some] at hj
      rw [← hj, ← h1]
      rw [Addr.add_lit]
      rfl
  have hold : (Builtin.firstCells i0.size n (.slice (some ⟨g, off, none⟩) n c)).run Try.prog w.drew = .ok (zs.map (Value.int .u8)).toArray w.drew := run_firstCells_some (P := Try.prog) w.drew i0.size n ⟨g, off, none⟩ n c (zs.map (Value.int .u8)) (by rw [hz1, List.length_map]; omega) hcells
  have hr := Lib.run_append_grow_zeros (P := Try.prog) w 26 3 ty 5 i0 (.int .u8 0) .i64 .i64 Try.underlying26 Try.underlying3 hi hz0 (some ⟨g, off, none⟩) n c (zs.map (Value.int .u8)) hold k (by omega) (by omega) (by omega) (by omega) (by rw [hz2]; omega) (by
    have := growslice_fits (need := n + k) (old := c) (bytes := i0.bytes) (by omega) (by rw [hz2]; omega)
    exact this)
  have hge := grownCap_ge w (n + k) c 5
  have hle := grownCap_le_maxLen w (n + k) c 5 (by unfold maxLen; omega)
  have hlen : ((zs ++ List.replicate k 0).map (Value.int .u8)).length = (n + k) * 1 := by rw [List.length_map, List.length_append, List.length_replicate]; omega
  refine ⟨_, _, hr, ⟨hlen, .inr ⟨w.heap.size, _, _, rfl, Nat.le_refl _, heap_alloc_new w.drew _, hge, hle, ?_, ?_⟩⟩, ⟨rfl, rfl, rfl, by simp, fun k hk => Below.heap_alloc w.drew _ k hk⟩⟩
  · simp only [Value.cells, zeroCells_u8, Array.size_append, List.size_toArray, List.length_replicate, List.length_map]
    omega
  · simp only [Value.cells, zeroCells_u8, Array.toList_append]
    rw [← hlen, List.map_append, List.map_replicate, List.append_assoc]
    rw [List.length_append, List.length_replicate, ← List.append_assoc]
    exact List.take_left' (by simp)

/-- The bytes of the document's example. -/
def smallB : List Int := [0, 0, 0, 1, 0, 0, 0, 0, 0, 0, 0, 2, 0, 1, 134, 163, 0, 0, 0, 3, 0, 0, 0, 0, 0, 0, 0, 0, 0, 0, 0, 0, 0, 0, 0, 0, 0, 0, 0, 0]

set_option maxRecDepth 100000 in
set_option maxHeartbeats 1000000 in
theorem small_any (w : World) : Calls Try.prog 17 #[] w fun e w' => ∃ v, e = .returned v ∧ w'.ownsRow w.heap.size 5 1 v 40 (smallB.map (Value.int .u8)) ∧ Below w.heap.size w w' := by
  have kc := fun (w : World) (C : Array Value) (n c : Nat) => Lib.run_convert_bytes_const (P := Try.prog) w 26 5 C n c Try.underlying26 Try.underlying5
  go_enter Try.func17, Try.ntmps17
  have hs1 := seg_litm w 5 (20, 21) [0, 0, 0, 1, 0, 0, 0, 0, 0, 0, 0, 2, 0, 1, 134, 163, 0, 0, 0, 3]
  have hB1 : Below w.heap.size w (w.alloc (.cells (([0, 0, 0, 1, 0, 0, 0, 0, 0, 0, 0, 2, 0, 1, 134, 163, 0, 0, 0, 3] : List Int).map (Value.int .u8)).toArray 5 (20, 21))) := (Below.refl _ _).alloc (Nat.le_refl _) _
  obtain ⟨v7, w7, hr7, hown7, hb7⟩ := zeros_new _ 26 w.heap.size 0 20 20 _ 20 hs1 rfl (by omega) (by omega) (by omega) (by omega) (by omega)
  have ho := own_base hown7 hB1.size
  have hB := hB1.trans (hb7.mono hB1.size)
  clear hown7 hb7 hs1 hB1
  go_wp2_with (at_builtin; refine Lib.wpList_append_run _ rfl _ _ _ _ rfl _ _ rfl rfl _ _ hr7 ?_; clear hr7)
  go_ret
  exact ⟨v7, rfl, ho, hB⟩
end Go.Proofs.Ytciinabhelfnoaa
