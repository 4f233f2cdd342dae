/- The document's sum of bytes; nothing turns. -/
import Derived.Test.YtcpciodcecpibaaDoorHSum
namespace Go.Proofs.YtcpciodcecpibaaDoor
set_option linter.unusedVariables false
open Go.RowKit

set_option maxRecDepth 100000 in
set_option maxHeartbeats 2000000 in
theorem refsum_any (a : Option Addr) (len cap : Nat) (zs : List Int) (W : World) (hlen : len ≤ 140737488355328) (hz : zs.length = len) (hb : Byt zs) (hs : Seg W a zs) :
    Calls Tryd.prog 39 #[.slice a len cap] W fun e W' => e = .returned (.int .u32 (sumZ zs)) ∧ W' = W := by
  have hsZ : sumZ zs = ((smF 4294967295 (nz zs) ^^^ 4294967295 : Nat) : Int) := rfl
  rw [hsZ]
  clear hsZ
  go_enter Tryd.func39, Tryd.ntmps39
  go_wp2
  go_loopw [3, 4, 5, 6] (fun v i _ _ wr => ∃ k y : Nat, k ≤ len ∧ i = .int .i64 k ∧ v = .int .u32 (y : Int) ∧ y < 4294967296 ∧ Hid (y = smF 4294967295 (nz (zs.take k))) ∧ wr = W) (fun _ i _ _ _ => len - (intOf i).toNat)
  case atStart => exact ⟨0, 4294967295, by omega, rfl, rfl, by omega, rfl, rfl⟩
  case round =>
    obtain ⟨k, y, hk, rfl, rfl, hy, hyk, rfl⟩ := hrel
    by_cases hlt : k < len
    · rcases hs with rfl | ⟨b, off, rfl, hc⟩
      · simp at hz; omega
      · have hcx := hc k (by omega)
        have hbb := hb k
        have htk := nz_take zs k (by omega)
        generalize zs[k]?.getD 0 = c at hcx hbb htk
        have hxo := u32_xor_nat y c.toNat hy (by omega)
        have hct : ((c.toNat : Nat) : Int) = c := by omega
        rw [hct] at hxo
        have hz0 : y ^^^ c.toNat < 4294967296 := Nat.xor_lt_two_pow (n := 32) hy (by omega)
        have hnext : Hid (smF 4294967295 (nz (zs.take (k + 1))) = smN 8 (y ^^^ c.toNat)) := by
          show _ = _
          rw [htk, smF_append, ← hyk.out]
          rfl
        clear hct htk hyk hc
        generalize y ^^^ c.toNat = z at *
        go_wp2
        clear hxo hcx
        go_loopw [3, 5, 6] (fun v j _ wi => ∃ t v' : Nat, t ≤ 8 ∧ j = .int .i64 t ∧ v = .int .u32 (v' : Int) ∧ v' < 4294967296 ∧ Hid (v' = smN t z) ∧ wi = wr) (fun _ j _ _ => 8 - (intOf j).toNat)
        case atStart => exact ⟨0, z, by omega, rfl, rfl, hz0, rfl, rfl⟩
        case round =>
          obtain ⟨t, v, ht, rfl, rfl, hv, hvt, rfl⟩ := hrel
          by_cases htl : t < 8
          · obtain ⟨h, hh, hh2⟩ : ∃ h : Nat, (v : Int) / 2 = (h : Int) ∧ Hid (h = v / 2) := ⟨v / 2, by omega, rfl⟩
            have hxo := u32_xorP h (by rw [hh2.out]; omega)
            have hl := sm1_lt hv
            have hs1 := smN_snoc t z
            rw [← hvt.out] at hs1
            rcases Nat.mod_two_eq_zero_or_one v with h2 | h2
            · have han : (v : Int) % 2 = 0 := by omega
              have hst : Hid (h = smN (t + 1) z) := by
                show _ = _
                rw [hs1, sm1_no h2, hh2.out]
              have hlt2 : h < 4294967296 := by rw [hh2.out]; omega
              clear hxo hs1 hvt hl hh2 h2
              go_wp2
              go_roundw
              case rel => exact ⟨t + 1, h, by omega, by go_num, rfl, hlt2, hst, trivial⟩
              case measure => simp [intOf]; omega
            · have han : (v : Int) % 2 = 1 := by omega
              have hst : Hid (h ^^^ 3988292384 = smN (t + 1) z) := by
                show _ = _
                rw [hs1, sm1_odd h2, hh2.out]
              have hlt2 : h ^^^ 3988292384 < 4294967296 := by rw [hst.out, hs1]; exact hl
              clear hs1 hvt hl hh2 h2
              generalize h ^^^ 3988292384 = h3 at *
              go_wp2
              go_roundw
              case rel => exact ⟨t + 1, h3, by omega, by go_num, rfl, hlt2, hst, trivial⟩
              case measure => simp [intOf]; omega
          · obtain rfl : t = 8 := by omega
            go_wp2
            go_roundw
            case rel => exact ⟨k + 1, v, by omega, by go_num, rfl, hv, hvt.out.trans hnext.out.symm, trivial⟩
            case measure => simp [intOf]; omega
    · obtain rfl : k = len := by omega
      have hfin : Hid (y = smF 4294967295 (nz zs)) := by
        show _ = _
        rw [hyk.out, List.take_of_length_le (by omega)]
      have hno : Hid (bits .xor .u32 IntKind.u32.max (y : Int) = ((smF 4294967295 (nz zs) ^^^ 4294967295 : Nat) : Int)) := by
        show _ = _
        have h1 := u32_xor_nat 4294967295 y (by omega) hy
        rw [Nat.xor_comm, hfin.out] at h1
        rw [hfin.out]
        exact h1
      clear hyk hlt hk
      go_wp2
      go_ret
      rw [hno.out]
      exact ⟨rfl, rfl⟩
end Go.Proofs.YtcpciodcecpibaaDoor
