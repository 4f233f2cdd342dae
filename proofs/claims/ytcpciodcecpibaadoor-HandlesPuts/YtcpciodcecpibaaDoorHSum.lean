/- The closure that sums: bytes taken from the number in its box on; the box alone turns. -/
import Derived.RangeFuncBox
import Derived.RangeFuncNested
import Derived.Test.YtcpciodcecpibaaDoorRows
import Derived.Test.YtcpciodcecpibaaDoorHandMath
import Derived.Outline
namespace Go.Proofs.YtcpciodcecpibaaDoor
set_option linter.unusedVariables false
open Go.RowKit

theorem u32_and1 (y : Nat) (h : y < 4294967296) : bits .and .u32 (y : Int) 1 = ((y % 2 : Nat) : Int) := by
  have := u32_and_nat y 1 h (by omega)
  rw [Nat.and_one_is_mod] at this
  exact this

theorem u32_xorP (y : Nat) (h : y < 4294967296) : bits .xor .u32 (y : Int) 3988292384 = ((y ^^^ 3988292384 : Nat) : Int) := u32_xor_nat y 3988292384 h (by omega)

theorem sm1_odd {y : Nat} (h : y % 2 = 1) : sm1 y = y / 2 ^^^ 3988292384 := by unfold sm1; rw [if_pos h]
theorem sm1_no {y : Nat} (h : y % 2 = 0) : sm1 y = y / 2 := by unfold sm1; rw [if_neg (by omega), Nat.xor_zero]

theorem nz_take (zs : List Int) (k : Nat) (h : k < zs.length) : nz (zs.take (k + 1)) = nz (zs.take k) ++ [(zs[k]?.getD 0).toNat] := by
  rw [List.take_succ_eq_append_getElem h, nz_append, List.getElem?_eq_getElem h]
  rfl

set_option maxRecDepth 100000 in
set_option maxHeartbeats 2000000 in
theorem closed_any (d : Nat) (a : Option Addr) (len cap : Nat) (zs : List Int) (x : Nat) (W : World) (hx : x < 4294967296) (hbox : Boxed W d 22 (.int .u32 (x : Int))) (hlen : len ≤ 140737488355328) (hz : zs.length = len) (hb : Byt zs) (hs : Seg W a zs) (hlow : ∀ b off, a = some ⟨b, off, none⟩ → b < d) :
    Calls Tryd.prog 55 #[.slice a len cap, .pointer (some ⟨d, 0, none⟩)] W fun e W' => e = .returned (.int .u32 ((smF x (nz zs) ^^^ 4294967295 : Nat) : Int)) ∧ Boxed W' d 22 (.int .u32 (smF x (nz zs) : Nat)) ∧ Below d W W' := by
  go_enter Tryd.func55, Tryd.ntmps55
  go_wp2
  go_loopw [9] (fun i wr => ∃ k y : Nat, k ≤ len ∧ i = .int .i64 k ∧ y < 4294967296 ∧ Hid (y = smF x (nz (zs.take k))) ∧ Boxed wr d 22 (.int .u32 (y : Int)) ∧ Below d W wr) (fun i _ => len - (intOf i).toNat)
  case atStart => exact ⟨0, x, by omega, rfl, hx, rfl, hbox, Below.refl _ _⟩
  case round =>
    obtain ⟨k, y, hk, rfl, hy, hyk, hbx, hB⟩ := hrel
    by_cases hlt : k < len
    · rcases hs with rfl | ⟨b, off, rfl, hc⟩
      · simp at hz; omega
      · have hbd := hlow b off rfl
        have hcx := (hB.cell (p := ⟨b, off + k, none⟩) hbd).trans (hc k (by omega))
        have hbb := hb k
        have htk := nz_take zs k (by omega)
        generalize zs[k]?.getD 0 = c at hcx hbb htk
        have hcl := hbx.cell
        have hfr := hbx.frozen
        have hxo := u32_xor_nat y c.toNat hy (by omega)
        have hct : ((c.toNat : Nat) : Int) = c := by omega
        rw [hct] at hxo
        have hz0 : y ^^^ c.toNat < 4294967296 := Nat.xor_lt_two_pow (n := 32) hy (by omega)
        have hnext : Hid (smF x (nz (zs.take (k + 1))) = smN 8 (y ^^^ c.toNat)) := by
          show _ = _
          rw [htk, smF_append, ← hyk.out]
          rfl
        have hbx1 := hbx.set (.int .u32 ((y ^^^ c.toNat : Nat) : Int))
        have hB1 := hB.setCell (p := ⟨d, 0, none⟩) (Nat.le_refl _) (.int .u32 ((y ^^^ c.toNat : Nat) : Int))
        clear hct htk hyk
        generalize y ^^^ c.toNat = z at *
        go_wp2
        clear hxo hcx hcl hfr hbx hB
        go_loopw [17, 6] (fun j o wi => ∃ t v : Nat, t ≤ 8 ∧ j = .int .i64 t ∧ v < 4294967296 ∧ Hid (v = smN t z) ∧ Boxed wi d 22 (.int .u32 (v : Int)) ∧ Below d W wi) (fun j _ _ => 8 - (intOf j).toNat)
        case atStart => exact ⟨0, z, by omega, rfl, hz0, rfl, hbx1, hB1⟩
        case round =>
          obtain ⟨t, v, ht, rfl, hv, hvt, hbv, hBv⟩ := hrel
          by_cases htl : t < 8
          · obtain ⟨h, hh, hh2⟩ : ∃ h : Nat, (v : Int) / 2 = (h : Int) ∧ Hid (h = v / 2) := ⟨v / 2, by omega, rfl⟩
            have hcl := hbv.cell
            have hfr := hbv.frozen
            have hb2 := hbv.set (.int .u32 (h : Int))
            have hB2 := hBv.setCell (p := ⟨d, 0, none⟩) (Nat.le_refl _) (.int .u32 (h : Int))
            have hcl2 := hb2.cell
            have hfr2 := hb2.frozen
            have han := u32_and1 v hv
            have hxo := u32_xorP h (by rw [hh2.out]; omega)
            have hl := sm1_lt hv
            have hs1 := smN_snoc t z
            rw [← hvt.out] at hs1
            rcases Nat.mod_two_eq_zero_or_one v with h2 | h2
            · rw [h2] at han
              replace han : bits .and .u32 (v : Int) 1 = 0 := han
              have hst : Hid (h = smN (t + 1) z) := by
                show _ = _
                rw [hs1, sm1_no h2, hh2.out]
              have hlt2 : h < 4294967296 := by rw [hh2.out]; omega
              clear hxo hs1 hvt hl hh2 h2
              go_wp2
              go_roundw
              case rel => exact ⟨t + 1, h, by omega, by go_num, hlt2, hst, hb2, hB2⟩
              case measure => simp [intOf]; omega
            · rw [h2] at han
              replace han : bits .and .u32 (v : Int) 1 = 1 := han
              have hb3 := hb2.set (.int .u32 ((h ^^^ 3988292384 : Nat) : Int))
              have hB3 := hB2.setCell (p := ⟨d, 0, none⟩) (Nat.le_refl _) (.int .u32 ((h ^^^ 3988292384 : Nat) : Int))
              have hst : Hid (h ^^^ 3988292384 = smN (t + 1) z) := by
                show _ = _
                rw [hs1, sm1_odd h2, hh2.out]
              have hlt2 : h ^^^ 3988292384 < 4294967296 := by rw [hst.out, hs1]; exact hl
              clear hs1 hvt hl hh2 h2
              generalize h ^^^ 3988292384 = h3 at *
              go_wp2
              go_roundw
              case rel => exact ⟨t + 1, h3, by omega, by go_num, hlt2, hst, hb3, hB3⟩
              case measure => simp [intOf]; omega
          · obtain rfl : t = 8 := by omega
            go_wp2
            go_roundw
            case rel => exact ⟨k + 1, v, by omega, by go_num, hv, hvt.out.trans hnext.out.symm, hbv, hBv⟩
            case measure => simp [intOf]; omega
    · obtain rfl : k = len := by omega
      have hcl := hbx.cell
      have hfin : Hid (y = smF x (nz zs)) := by
        show _ = _
        rw [hyk.out, List.take_of_length_le (by omega)]
      have hno : Hid (bits .xor .u32 IntKind.u32.max (y : Int) = ((smF x (nz zs) ^^^ 4294967295 : Nat) : Int)) := by
        show _ = _
        have h1 := u32_xor_nat 4294967295 y (by omega) hy
        rw [Nat.xor_comm, hfin.out] at h1
        rw [hfin.out]
        exact h1
      clear hyk hlt hk
      go_wp2
      go_ret
      rw [hno.out, ← hfin.out]
      exact ⟨rfl, hbx, hB⟩

set_option maxRecDepth 100000 in
set_option maxHeartbeats 400000 in
theorem summing_any (W : World) :
    Calls Tryd.prog 36 #[] W fun e W' => e = .returned (.func (.func 55) #[] #[.pointer (some ⟨W.heap.size, 0, none⟩)]) ∧ W' = W.alloc (.cells #[.int .u32 4294967295] 22) := by
  go_enter Tryd.func36, Tryd.ntmps36
  go_wp2
  go_ret
  exact ⟨rfl, rfl⟩
end Go.Proofs.YtcpciodcecpibaaDoor
