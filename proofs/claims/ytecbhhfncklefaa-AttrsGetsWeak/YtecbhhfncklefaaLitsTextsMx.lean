/- '[]byte("..")' of a constant, and 'string(b)' of some bytes; nothing is claimed of the program here. -/
import Derived.Test.YtecbhhfncklefaaRows
import Derived.Test.YtecbhhfncklefaaBase
import Derived.Lib.SlBytesConst
import Derived.Lib.ConvBytes
namespace Go.Proofs.Ytecbhhfncklefaa
set_option linter.unusedVariables false
open Go.RowKit

/-- Bytes written out in a new block that bears a mark. -/
theorem seg_litm (w : World) (t : TypeId) (fz : Nat × Nat) (zs : List Int) : Seg (w.alloc (.cells (zs.map (Value.int .u8)).toArray t fz)) (some ⟨w.heap.size, 0, none⟩) zs := by
  refine .inr ⟨_, _, rfl, fun i hi => ?_⟩
  have h : (w.alloc (.cells (zs.map (Value.int .u8)).toArray t fz)).heap[w.heap.size]? = some (.cells (zs.map (Value.int .u8)).toArray t fz) := by
    show (w.heap.push _)[w.heap.size]? = _
    simp
  simp only [World.cell?, h]
  simp [List.getElem?_eq_getElem hi]

theorem seg_text {w : World} {g off n cap : Nat} {zs : List Int} (h : Seg w (some ⟨g, off, none⟩) zs) (hz : zs.length = n) (hn : 0 < n) :
    (convert 22 9 (.slice (some ⟨g, off, none⟩) n cap)).run Try.prog w = .ok (.string (strOfNums zs)) w := by
  rcases h with rfl | ⟨b, o, e, hc⟩
  · simp at hz; omega
  · cases e
    exact run_convert_bytes_arg w 22 5 Try.underlying22 Try.underlying5 g off n cap zs hz (fun i hi => by rw [hc i (by omega)]; simp [List.getD]) 9 Try.underlying9
end Go.Proofs.Ytecbhhfncklefaa

/- Texts: their bytes as numbers, '[]byte(s)' and 'string(b)'; nothing is claimed of the program here. -/
namespace Go.Proofs.Ytecbhhfncklefaa
set_option linter.unusedVariables false
open Go.RowKit

/-- A text's bytes. -/
def tz (s : ByteArray) : List Int := s.data.toList.map fun b => (b.toNat : Int)

theorem tz_len (s : ByteArray) : (tz s).length = s.size := by
  rw [tz, List.length_map, Array.length_toList]
  rfl

theorem tz_byt (s : ByteArray) : Byt (tz s) := by
  refine byt_of_all fun z hz => ?_
  obtain ⟨b, _, rfl⟩ := List.mem_map.1 hz
  have := b.toNat_lt
  omega

theorem tz_append (s t : ByteArray) : tz (s ++ t) = tz s ++ tz t := by simp [tz, ByteArray.data_append]

theorem str_tz (s : ByteArray) : strOfNums (tz s) = s := by
  cases s with
  | mk d => simp [strOfNums, tz, Function.comp_def]

theorem tz_str {zs : List Int} (h : Byt zs) : tz (strOfNums zs) = zs := by
  have e : ∀ z ∈ zs, (fun b : UInt8 => (b.toNat : Int)) (UInt8.ofNat z.toNat) = z := by
    intro z hz
    obtain ⟨i, hi, rfl⟩ := List.getElem_of_mem hz
    have h1 := h i
    rw [List.getElem?_eq_getElem hi, Option.getD_some] at h1
    show ((UInt8.ofNat zs[i].toNat).toNat : Int) = _
    rw [UInt8.toNat_ofNat']
    omega
  rw [tz, strOfNums_data, List.map_map]
  exact (List.map_congr_left e).trans (List.map_id' zs)

theorem str_inj {xs ys : List Int} (hx : Byt xs) (hy : Byt ys) (h : strOfNums xs = strOfNums ys) : xs = ys := by
  rw [← tz_str hx, ← tz_str hy, h]

theorem tz_inj {s t : ByteArray} (h : tz s = tz t) : s = t := by rw [← str_tz s, ← str_tz t, h]

theorem tz_at (s : ByteArray) (i : Nat) (hi : i < s.size) : (tz s)[i]? = some ((s[i]).toNat : Int) := by
  have hi' : i < s.data.toList.length := by rw [Array.length_toList]; exact hi
  rw [tz, List.getElem?_map, List.getElem?_eq_getElem hi']
  simp [ByteArray.getElem_eq_getElem_data]

theorem conv_below (w : World) (s : ByteArray) : Below w.heap.size w (Lib.bytesWorld w 5 s) :=
  ⟨rfl, rfl, rfl, by rw [Lib.bytesWorld_size]; omega, fun k hk => Lib.bytesWorld_at_old w _ s k hk⟩

theorem conv_seg (w : World) (s : ByteArray) : Seg (Lib.bytesWorld w 5 s) (some ⟨w.heap.size, 0, none⟩) (tz s) := by
  refine .inr ⟨_, _, rfl, fun i hi => ?_⟩
  rw [tz_len] at hi
  rw [Nat.zero_add, Lib.bytesWorld_cell w _ s i hi]
  have hi' : i < s.data.toList.length := by rw [Array.length_toList]; exact hi
  simp [tz, List.getD, List.getElem?_eq_getElem hi']

/-- '[]byte(s)': a new row with the text's bytes. -/
theorem conv_bytes (w : World) (s : ByteArray) (h : s.size ≤ 9223372036854775807) : ∃ c, s.size ≤ c ∧ c ≤ 9223372036854775807 ∧
    (convert 9 22 (.string s)).run Try.prog w = .ok (.slice (some ⟨w.heap.size, 0, none⟩) s.size c) (Lib.bytesWorld w 5 s) := by
  refine ⟨grownCap w s.size 0 5, grownCap_ge w _ 0 _, ?_, Lib.run_convert_string_bytes w 9 22 5 s Try.underlying9 Try.underlying22 Try.underlying5⟩
  have := grownCap_le_maxLen w s.size 0 5 (by unfold maxLen; omega)
  unfold maxLen at this
  omega

/-- 'string(b)', of any bytes. -/
theorem conv_text {w : World} {a : Option Addr} {n cap : Nat} {zs : List Int} (h : Seg w a zs) (hz : zs.length = n) :
    (convert 22 9 (.slice a n cap)).run Try.prog w = .ok (.string (strOfNums zs)) w := by
  rcases h with rfl | ⟨b, o, rfl, hc⟩
  · obtain rfl : n = 0 := by simpa using hz.symm
    rw [run_convert_bytes_string w 22 9 5 _ 0 cap Try.underlying22 Try.underlying5 Try.underlying9]
    cases a <;> simp [Conv.bytesToString, loadCells]
    all_goals rfl
  · exact run_convert_bytes_arg w 22 5 Try.underlying22 Try.underlying5 b o n cap zs hz (fun i hi => by rw [hc i (by omega)]; simp [List.getD]) 9 Try.underlying9
end Go.Proofs.Ytecbhhfncklefaa
