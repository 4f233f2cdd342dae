/- 'lookBlob' of a Book that holds one list of messages that was filled and grown: all marks are there: true; nothing turns. -/
import Derived.Test.YtmjjoiljdcjhdaaDoorBlobGrow
import Derived.Deep.QuietTactic
import Derived.BigQuiet
namespace Go.Proofs.YtmjjoiljdcjhdaaDoor
set_option linter.unusedVariables false
open Go.RowKit

set_option maxRecDepth 100000 in
set_option maxHeartbeats 4000000 in
theorem lookM_any {r : Nat → Value} (B : Nat) (n : Int) (vl : Value) (gm cm : Nat) (ea : Option Addr) (el ec : Nat) (en : Int) (base lo : Nat) (W0 W : World) (hb : BookAt W B n vl r) (hr : r 4 = .slice (some ⟨gm, 0, none⟩) 1 cm)
    (hG : GrownM base lo W0 gm cm ea el ec en W) (hl : el ≤ 1073741824) (h0 : 0 ≤ en) (h1 : en ≤ 1000000) :
    Calls Tryd.prog 41 #[.pointer (some ⟨B, 0, none⟩)] W fun e W' => e = .returned (.bool true) ∧ Kept (fun _ => False) W W' := by
  obtain ⟨⟨u, hown, ys, hu, hy⟩, hls, hkept⟩ := hG
  have hyl : ys.length = el + 40 := by have := hu.1; simpa using this
  obtain ⟨ua, uc, rfl⟩ := own_form hu
  have hlu : LsM lo (markOf en) W ua (el + 40) := LsM.of_own hu hy (Nat.le_refl _)
  have c4 : W.cell? ⟨B, 4, none⟩ = some (.slice (some ⟨gm, 0, none⟩) 1 cm) := by rw [← hr]; exact hb.rest 4 (by omega) (by omega)
  have d0 : W.cell? ⟨gm, 0, none⟩ = some (.slice ea el ec) := hown.cellAt 0 (by omega)
  have d1 : W.cell? ⟨gm, 1, none⟩ = some (.slice ua (el + 40) uc) := hown.cellAt 1 (by omega)
  have d2 : W.cell? ⟨gm, 2, none⟩ = some (.int .i64 en) := hown.cellAt 2 (by omega)
  have hq : ((el : Int) + 40 != (el : Int) + 40) = false := by simp
  have HB : Hid (BookAt W B n vl r) := hb
  have hK0 : Kept (fun _ => False) W (W.alloc (.cells #[.slice ea el ec, .slice ua (el + 40) uc, .int .i64 en] 75)) := (Kept.refl _ _).alloc _
  have hls2 := hls.kept hK0 (fun _ _ _ _ _ h => h) (fun _ _ h => h)
  have hlu2 := hlu.kept hK0 (fun _ _ _ _ _ h => h) (fun _ _ h => h)
  clear hb hown hu hy hyl hkept hls hlu
  go_enter Tryd.func41, Tryd.ntmps41
  go_wp2
  refine wp_loop_rounds 2 ?_
  rw [rounds_succ]
  go_wp2
  have q0 : (W.alloc (.cells #[.slice ea el ec, .slice ua (el + 40) uc, .int .i64 en] 75)).cell? ⟨W.heap.size, 0, none⟩ = some (.slice ea el ec) := by simp
  have q1 : (W.alloc (.cells #[.slice ea el ec, .slice ua (el + 40) uc, .int .i64 en] 75)).cell? ⟨W.heap.size, 1, none⟩ = some (.slice ua (el + 40) uc) := by simp
  have q2 : (W.alloc (.cells #[.slice ea el ec, .slice ua (el + 40) uc, .int .i64 en] 75)).cell? ⟨W.heap.size, 2, none⟩ = some (.int .i64 en) := by simp
  have hH2 : W.heap.size < (W.alloc (.cells #[.slice ea el ec, .slice ua (el + 40) uc, .int .i64 en] 75)).heap.size := by simp
  have HK : Hid (Kept (fun _ => False) W (W.alloc (.cells #[.slice ea el ec, .slice ua (el + 40) uc, .int .i64 en] 75))) := hK0
  clear hK0
  generalize W.alloc (.cells #[.slice ea el ec, .slice ua (el + 40) uc, .int .i64 en] 75) = W2 at *
  clear d0 d1 d2 c4
  go_loopw [5] (fun j wi => ∃ t : Nat, t ≤ el + 40 ∧ j = .int .i64 t ∧ Kept (fun _ => False) W2 wi) (fun j _ => el + 40 - (intOf j).toNat)
  case atStart => exact ⟨0, by omega, rfl, Kept.refl _ _⟩
  case round =>
    obtain ⟨t, ht, rfl, hKt⟩ := hrel
    have r0 : wr.cell? ⟨W.heap.size, 0, none⟩ = some (.slice ea el ec) := (hKt.cell (p := ⟨W.heap.size, 0, none⟩) hH2 (fun h => h)).trans q0
    have r1 : wr.cell? ⟨W.heap.size, 1, none⟩ = some (.slice ua (el + 40) uc) := (hKt.cell (p := ⟨W.heap.size, 1, none⟩) hH2 (fun h => h)).trans q1
    have r2 : wr.cell? ⟨W.heap.size, 2, none⟩ = some (.int .i64 en) := (hKt.cell (p := ⟨W.heap.size, 2, none⟩) hH2 (fun h => h)).trans q2
    by_cases htl : t < el + 40
    · obtain ⟨gu, y, rfl, hcu, hmu⟩ := hlu2.kept hKt (fun _ _ _ _ _ h => h) (fun _ _ h => h) t htl
      have hti : (t : Int) < (el : Int) + 40 := by omega
      have ht0 : (0 : Int) ≤ (t : Int) := by omega
      by_cases hte : t < el
      · obtain ⟨gl, z, rfl, hcl, hml⟩ := hls2.kept hKt (fun _ _ _ _ _ h => h) (fun _ _ h => h) t hte
        have hte2 : (t : Int) < (el : Int) := by omega
        go_wp2
        go_quiet ((go_at_call 61; first | exact Calls.quiet_of_same (isM_any en lo _ _ h0 h1 hmu) | exact Calls.quiet_of_same (isM_any en lo _ _ h0 h1 hml)))
        go_wp2
        go_roundw
        case rel => exact ⟨t + 1, by omega, by go_num, hKt.drewN _⟩
        case measure => simp [intOf]; omega
      · have hte2 : decide ((t : Int) < (el : Int)) = false := by simp; omega
        go_wp2
        go_quiet ((go_at_call 61; exact Calls.quiet_of_same (isM_any en lo _ _ h0 h1 hmu)))
        go_wp2
        go_roundw
        case rel => exact ⟨t + 1, by omega, by go_num, hKt.drewN _⟩
        case measure => simp [intOf]; omega
    · obtain rfl : t = el + 40 := by omega
      have hfin := HK.out.trans hKt
      have hbf := HB.out.kept hfin (fun h => h)
      have c4 : wr.cell? ⟨B, 4, none⟩ = some (.slice (some ⟨gm, 0, none⟩) 1 cm) := by rw [← hr]; exact hbf.rest 4 (by omega) (by omega)
      clear hbf
      go_wp2
      rw [rounds_succ]
      go_wp2
      go_ret
      exact ⟨rfl, hfin⟩
end Go.Proofs.YtmjjoiljdcjhdaaDoor
