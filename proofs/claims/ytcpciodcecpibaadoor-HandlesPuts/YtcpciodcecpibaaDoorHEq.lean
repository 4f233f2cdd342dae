/- Two arrays of sixteen bytes, two handles: alike or not; nothing turns. -/
import Derived.Test.YtcpciodcecpibaaDoorHTold
import Derived.ChangeKeysEq
namespace Go.Proofs.YtcpciodcecpibaaDoor
set_option linter.unusedVariables false
open Go.RowKit

theorem part_u8 (zs : List Int) (j : Nat) (hj : j < zs.length) (w : World) : (part 5 (vz zs).toArray (j * 1)).run Tryd.prog w = .ok (.int .u8 (zs[j]?.getD 0)) w :=
  run_part_plain w (by kernel_rfl) (by simp [vz, List.getElem?_eq_getElem hj])

theorem arr_items (xs ys : List Int) (h : xs.length = ys.length) (w : World) : ∀ is : List Nat, (∀ j ∈ is, j < xs.length) → (Op.eqItems 9999 5 1 (vz xs).toArray (vz ys).toArray is).run Tryd.prog w = .ok (is.all fun j => xs[j]?.getD 0 == ys[j]?.getD 0) w := by
  intro is
  induction is with
  | nil => intro _; rfl
  | cons j is ih =>
    intro hj
    have h1 := hj j (by simp)
    have h2 := ih (fun k hk => hj k (by simp [hk]))
    simp only [Op.eqItems, Sem.run_bind, part_u8 xs j h1, part_u8 ys j (h ▸ h1), Result.andThen_ok, run_equalIn_int w 9998 5 .u8 .u8 _ _ Tryd.underlying5, List.all_cons]
    cases (xs[j]?.getD 0 == ys[j]?.getD 0)
    · simp
    · simpa using h2

theorem all_alike (xs ys : List Int) (h : xs.length = ys.length) : ((List.range xs.length).all fun j => xs[j]?.getD 0 == ys[j]?.getD 0) = decide (xs = ys) := by
  by_cases he : xs = ys
  · subst he
    simp
  · rw [decide_eq_false he, List.all_eq_false]
    refine Classical.byContradiction fun hn => he (List.ext_getElem? fun j => ?_)
    by_cases hj : j < xs.length
    · have : ¬ (¬ (xs[j]?.getD 0 == ys[j]?.getD 0) = true) := fun hne => hn ⟨j, by simpa using hj, hne⟩
      rw [List.getElem?_eq_getElem hj, List.getElem?_eq_getElem (h ▸ hj)] at this ⊢
      simpa using this
    · rw [List.getElem?_eq_none (by omega), List.getElem?_eq_none (by omega)]

theorem arr_neq (xs ys : List Int) (ha : xs.length = 16) (hb : ys.length = 16) (w : World) : (binOp .neq 44 (.agg (vz xs).toArray) (.agg (vz ys).toArray)).run Tryd.prog w = .ok (.bool (!decide (xs = ys))) w := by
  obtain ⟨i0, hi, hz0, hz1, hz2⟩ := info_parts infoB
  have hc : Tryd.prog.cellsOf 5 = 1 := by kernel_rfl
  rw [run_neq_struct, run_equalIn_array w 9999 (n := 16) (e := 5) (i := i0) _ _ Tryd.underlying44 hi, hc, arr_items xs ys (by omega) w _ (fun j hj => by rw [ha]; simpa using hj), ← ha, all_alike xs ys (by omega)]
  rfl

theorem hand_eq (n g m k : Int) (w : World) : (Op.equalIn 10000 24 (.agg #[.int .i64 n, .int .u32 g]) (.agg #[.int .i64 m, .int .u32 k])).run Tryd.prog w = .ok ((n == m) && (g == k)) w := by
  cases e0 : (n == m) <;> cases e1 : (g == k) <;> simp [go_sem, e0, e1]
theorem hand_eql (n g m k : Int) (w : World) : (binOp .eql 24 (.agg #[.int .i64 n, .int .u32 g]) (.agg #[.int .i64 m, .int .u32 k])).run Tryd.prog w = .ok (.bool ((n == m) && (g == k))) w := by
  rw [run_eql_struct, hand_eq]; rfl
end Go.Proofs.YtcpciodcecpibaaDoor
