/- 'lookByte' of a Book whose lists were filled and grown: all marks are there: true; nothing turns. -/
import Derived.Test.YtecbhhfncklefaaDoorBookGrow
import Derived.Deep.QuietTactic
import Derived.BigQuiet
namespace Go.Proofs.YtecbhhfncklefaaDoor
set_option linter.unusedVariables false
open Go.RowKit

theorem reps_get (n k : Nat) (m : Int) (h : k < n) : (reps n m)[k]?.getD 0 = m := by simp [reps, h]

theorem seg_cell {w : World} {a : Option Addr} {n : Nat} {m : Int} (h : Seg w a (reps n m)) {t : Nat} (ht : t < n) : ∃ b off, a = some ⟨b, off, none⟩ ∧ w.cell? ⟨b, off + t, none⟩ = some (.int .u8 m) := by
  rcases h with h | ⟨b, off, e, hc⟩
  · have := congrArg List.length h
    rw [reps_len] at this
    simp at this
    omega
  · have := hc t (by rw [reps_len]; exact ht)
    rw [reps_get _ _ _ ht] at this
    exact ⟨b, off, e, this⟩

set_option maxRecDepth 100000 in
set_option maxHeartbeats 4000000 in
theorem look_any {r : Nat → Value} (B : Nat) (n : Int) (vb : Value) (es : List Ent) (us : Nat → Value) (base : Nat) (W0 W : World) (hb : BookAt W B n vb r) (hI : GrowInv base vb W0 es us es.length W) (hS : Small es) :
    Calls Tryd.prog 55 #[.pointer (some ⟨B, 0, none⟩)] W fun e W' => e = .returned (.bool true) ∧ Kept (fun _ => False) W W' := by
  have hlen := hS.1
  go_enter Tryd.func55, Tryd.ntmps55
  go_wp2
  go_loopw [3] (fun i wr => ∃ k : Nat, k ≤ es.length ∧ i = .int .i64 k ∧ Kept (fun _ => False) W wr) (fun i _ => es.length - (intOf i).toNat)
  case atStart => exact ⟨0, by omega, rfl, Kept.refl _ _⟩
  case round =>
    obtain ⟨k, hk, rfl, hKr⟩ := hrel
    have hbr := hb.kept hKr (fun h => h)
    have hrow := own_kept hI.row hKr (fun _ _ h => h)
    have c1 := hbr.cell1
    by_cases hlt : k < es.length
    · obtain ⟨gb, capb, rfl⟩ := own3_form hrow (by omega)
      have hget := flat3_get (heldU es us) k (by rw [heldU_len]; exact hlt)
      rw [heldU_get es us k hlt] at hget
      have d0 := (hrow.cellAt (k * 3) (by omega)).trans hget.1
      have d1 := (hrow.cellAt (k * 3 + 1) (by omega)).trans hget.2.1
      have d2 := (hrow.cellAt (k * 3 + 1 + 1) (by omega)).trans hget.2.2
      have hd := hI.fin k hlt hlt
      have hsm := hS.2 k hlt
      clear hget
      generalize us k = u at d1 hd
      obtain ⟨ea, el, ec, en, ex, hE⟩ : ∃ ea el ec en ex, es[k] = ⟨ea, el, ec, en, ex⟩ := ⟨_, _, _, _, _, rfl⟩
      rw [hE] at d0 d1 d2 hd hsm
      have hs1 : el ≤ 1073741824 := hsm.1
      have hs2 : 0 ≤ en := hsm.2.1
      have hs3 : en ≤ 1000000 := hsm.2.2
      have ho := own_kept hd.own hKr (fun _ _ h => h)
      have hsl : Seg wr ea (reps el (markOf en)) := seg_kept hd.seg hKr (fun _ _ _ h => h)
      clear hE hsm hd
      simp only [Ent.v] at d0 d1 d2 ho
      obtain ⟨ua, uc, rfl⟩ := own_form ho
      obtain ⟨gu, rfl⟩ := own_some ho (by omega)
      have hsu := seg_own ho (reps_len _ _)
      clear ho
      have hki : (k : Int) < (es.length : Int) := by omega
      have hq : ((el : Int) + 40 != (el : Int) + 40) = false := by simp
      have hbl : ∀ b off, ea = some ⟨b, off, none⟩ → el ≠ 0 → b < wr.heap.size := fun b off e h0 => hsl.lt e (fun h => h0 (by have := congrArg List.length h; rwa [reps_len] at this))
      go_wp2
      have q0 : (wr.alloc (.cells #[.slice ea el ec, .slice (some ⟨gu, 0, none⟩) (el + 40) uc, .int .i64 en] 91)).cell? ⟨wr.heap.size, 0, none⟩ = some (.slice ea el ec) := by simp
      have q1 : (wr.alloc (.cells #[.slice ea el ec, .slice (some ⟨gu, 0, none⟩) (el + 40) uc, .int .i64 en] 91)).cell? ⟨wr.heap.size, 1, none⟩ = some (.slice (some ⟨gu, 0, none⟩) (el + 40) uc) := by simp
      have q2 : (wr.alloc (.cells #[.slice ea el ec, .slice (some ⟨gu, 0, none⟩) (el + 40) uc, .int .i64 en] 91)).cell? ⟨wr.heap.size, 2, none⟩ = some (.int .i64 en) := by simp
      have hsl2 := hsl.below ((Below.refl _ _).alloc (Nat.le_refl _) (.cells #[.slice ea el ec, .slice (some ⟨gu, 0, none⟩) (el + 40) uc, .int .i64 en] 91))
      have hsu2 := hsu.below ((Below.refl _ _).alloc (Nat.le_refl _) (.cells #[.slice ea el ec, .slice (some ⟨gu, 0, none⟩) (el + 40) uc, .int .i64 en] 91))
      have hK2 : Kept (fun _ => False) W (wr.alloc (.cells #[.slice ea el ec, .slice (some ⟨gu, 0, none⟩) (el + 40) uc, .int .i64 en] 91)) := hKr.alloc _
      have hH2 : wr.heap.size < (wr.alloc (.cells #[.slice ea el ec, .slice (some ⟨gu, 0, none⟩) (el + 40) uc, .int .i64 en] 91)).heap.size := by simp
      obtain ⟨W2, hW2⟩ : ∃ W2, W2 = wr.alloc (.cells #[.slice ea el ec, .slice (some ⟨gu, 0, none⟩) (el + 40) uc, .int .i64 en] 91) := ⟨_, rfl⟩
      rw [← hW2] at q0 q1 q2 hsl2 hsu2 hK2 hH2 ⊢
      obtain ⟨H, hH⟩ : ∃ H, H = wr.heap.size := ⟨_, rfl⟩
      rw [← hH] at q0 q1 q2 hH2 ⊢
      clear hW2 hH d0 d1 d2 c1 hsl hsu hbl hKr hbr hrow
      go_loopw [5] (fun j wi => ∃ t : Nat, t ≤ el + 40 ∧ j = .int .i64 t ∧ Kept (fun _ => False) W2 wi) (fun j _ => el + 40 - (intOf j).toNat)
      case atStart => exact ⟨0, by omega, rfl, Kept.refl _ _⟩
      case round =>
        obtain ⟨t, ht, rfl, hKt⟩ := hrel
        have r0 : wr.cell? ⟨H, 0, none⟩ = some (.slice ea el ec) := (hKt.cell (p := ⟨H, 0, none⟩) hH2 (fun h => h)).trans q0
        have r1 : wr.cell? ⟨H, 1, none⟩ = some (.slice (some ⟨gu, 0, none⟩) (el + 40) uc) := (hKt.cell (p := ⟨H, 1, none⟩) hH2 (fun h => h)).trans q1
        have r2 : wr.cell? ⟨H, 2, none⟩ = some (.int .i64 en) := (hKt.cell (p := ⟨H, 2, none⟩) hH2 (fun h => h)).trans q2
        by_cases htl : t < el + 40
        · obtain ⟨bu, ou, eu, hcu⟩ := seg_cell (seg_kept hsu2 hKt (fun _ _ _ h => h)) htl
          cases eu
          rw [Nat.zero_add] at hcu
          have hti : (t : Int) < (el : Int) + 40 := by omega
          have ht0 : (0 : Int) ≤ (t : Int) := by omega
          by_cases hte : t < el
          · obtain ⟨bl, ol, rfl, hcl⟩ := seg_cell (seg_kept hsl2 hKt (fun _ _ _ h => h)) hte
            have hte2 : (t : Int) < (el : Int) := by omega
            go_wp2
            go_quiet ((go_at_call 89; exact Calls.quiet_of_same (is_any en _ hs2 hs3)))
            go_wp2
            go_roundw
            case rel => exact ⟨t + 1, by omega, by go_num, hKt.drewN _⟩
            case measure => simp [intOf]; omega
          · have hte2 : decide ((t : Int) < (el : Int)) = false := by simp; omega
            go_wp2
            go_quiet ((go_at_call 89; exact Calls.quiet_of_same (is_any en _ hs2 hs3)))
            go_wp2
            go_roundw
            case rel => exact ⟨t + 1, by omega, by go_num, hKt.drewN _⟩
            case measure => simp [intOf]; omega
        · obtain rfl : t = el + 40 := by omega
          have hfin := hK2.trans hKt
          go_wp2
          go_roundw
          case rel => exact ⟨k + 1, by omega, by go_num, hfin⟩
          case measure => simp [intOf]; omega
    · obtain rfl : k = es.length := by omega
      obtain ⟨av, cv, rfl⟩ := own_form hrow
      go_wp2
      go_ret
      exact ⟨rfl, hKr⟩
end Go.Proofs.YtecbhhfncklefaaDoor
