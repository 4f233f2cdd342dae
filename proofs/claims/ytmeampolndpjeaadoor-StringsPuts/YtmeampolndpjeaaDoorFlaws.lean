/- What a text may not be: the flaws, each by its contract. -/
import Derived.Test.YtmeampolndpjeaaDoorTexts
import Derived.Laws.StandIn
namespace Go.Proofs.YtmeampolndpjeaaDoor
set_option linter.unusedVariables false
open Go.RowKit

/-- Has a text such a byte? -/
def hasB (s : ByteArray) (c : Int) : Prop := c ∈ tz s
instance (s : ByteArray) (c : Int) : Decidable (hasB s c) := inferInstanceAs (Decidable (c ∈ tz s))

theorem firstIdx_has (s : ByteArray) (c : Int) (h0 : 0 ≤ c) (h1 : c ≤ 255) : 0 ≤ firstIdx s c.toNat.toUInt8 ↔ hasB s c := by
  unfold firstIdx
  have key : ∀ i, i < s.size → (s[i]! == c.toNat.toUInt8) = decide ((tz s)[i]? = some c) := by
    intro i hi
    have hi' : i < s.data.toList.length := by rw [Array.length_toList]; exact hi
    have e1 : s[i]! = s.data.toList[i] := (getElem!_pos s i hi).trans (by simp [ByteArray.getElem_eq_getElem_data])
    rw [e1, tz, List.getElem?_map, List.getElem?_eq_getElem hi', Option.map_some]
    generalize s.data.toList[i] = b
    have hb := b.toNat_lt
    have e2 : (b = c.toNat.toUInt8) ↔ ((b.toNat : Int) = c) := by
      constructor
      · rintro rfl
        simp
        omega
      · intro h
        apply UInt8.toNat_inj.1
        simp
        omega
    rw [Bool.eq_iff_iff]
    simp [e2]
  cases hf : (List.range s.size).find? fun i => s[i]! == c.toNat.toUInt8 with
  | some i =>
    have h2 := List.find?_some hf
    have h3 := List.mem_of_find?_eq_some hf
    rw [key i (List.mem_range.1 h3)] at h2
    have h4 := of_decide_eq_true h2
    exact ⟨fun _ => List.mem_of_getElem? h4, fun _ => by show (0 : Int) ≤ (i : Int); omega⟩
  | none =>
    constructor
    · intro h
      exact absurd h (by show ¬ (0 : Int) ≤ -1; omega)
    · intro h
      exfalso
      obtain ⟨i, hi⟩ := List.mem_iff_getElem?.1 h
      have hlt : i < s.size := by
        by_cases hlt : i < (tz s).length
        · rw [tz_len] at hlt; exact hlt
        · rw [List.getElem?_eq_none (by omega)] at hi; cases hi
      have := List.find?_eq_none.1 hf i (List.mem_range.2 hlt)
      rw [key i hlt] at this
      simp [hi] at this

theorem index_run (s : ByteArray) (c : Int) (w : World) : (callFunc 72 #[.string s, .int .u8 c]).run Tryd.prog w = .ok (.value (.int .i64 (firstIdx s c.toNat.toUInt8))) w := by
  rw [run_callFunc_indexByte Tryd.func72 (by kernel_rfl) (by kernel_rfl) (by kernel_rfl) (by kernel_rfl), run_indexByte_string]
  rfl

set_option maxRecDepth 100000 in
set_option maxHeartbeats 400000 in
theorem indexlite_any (s : ByteArray) (c : Int) (w : World) :
    Calls Tryd.prog 69 #[.string s, .int .u8 c] w fun e w' => e = .returned (.int .i64 (firstIdx s c.toNat.toUInt8)) ∧ w' = w := by
  have hr := index_run s c
  go_enter Tryd.func69, Tryd.ntmps69
  go_wp2
  go_ret
  exact ⟨rfl, rfl⟩

set_option maxRecDepth 100000 in
set_option maxHeartbeats 400000 in
theorem index_any (s : ByteArray) (c : Int) (w : World) :
    Calls Tryd.prog 49 #[.string s, .int .u8 c] w fun e w' => e = .returned (.int .i64 (firstIdx s c.toNat.toUInt8)) ∧ w' = w := by
  go_enter Tryd.func49, Tryd.ntmps49
  go_wp2_with (go_at_call 69; refine (indexlite_any s c w).mono ?_; rintro e w' ⟨rfl, hw'⟩; subst w')
  go_ret
  exact ⟨rfl, rfl⟩
end Go.Proofs.YtmeampolndpjeaaDoor
