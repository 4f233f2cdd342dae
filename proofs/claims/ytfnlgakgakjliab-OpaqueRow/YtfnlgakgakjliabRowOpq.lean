/- The walk of 'OpaqueRow': true for any lists of bytes; nothing that was there turns. -/
import Derived.Test.YtfnlgakgakjliabLists
import Derived.Test.YtfnlgakgakjliabAliveOpq
import Derived.Test.YtfnlgakgakjliabOpqMath
import Derived.Test.YtfnlgakgakjliabSame
namespace Go.Proofs.Ytfnlgakgakjliab
set_option linter.unusedVariables false
open Go.RowKit

/-- The bytes of all lists, one behind the other. -/
def rowOf (ps : List Part) : List Int := ps.flatMap fun p => opBytes p.zs

theorem rowOf_take (ps : List Part) (k : Nat) (hk : k < ps.length) : rowOf (ps.take (k + 1)) = rowOf (ps.take k) ++ opBytes ps[k].zs := by
  unfold rowOf
  rw [List.take_succ_eq_append_getElem hk, List.flatMap_append]
  simp

theorem rowOf_drop (ps : List Part) (k : Nat) (hk : k < ps.length) : rowOf (ps.drop k) = opBytes ps[k].zs ++ rowOf (ps.drop (k + 1)) := by
  unfold rowOf
  rw [List.drop_eq_getElem_cons hk, List.flatMap_cons]

theorem rowOf_split (ps : List Part) (k : Nat) : rowOf ps = rowOf (ps.take k) ++ rowOf (ps.drop k) := by
  unfold rowOf
  rw [← List.flatMap_append, List.take_append_drop]

theorem rowOf_le (ps : List Part) (hz : ∀ p ∈ ps, p.zs.length = p.len) : (rowOf ps).length ≤ sizeOf2 ps + 7 * ps.length := by
  induction ps with
  | nil => simp [rowOf, sizeOf2]
  | cons p r ih =>
    have h1 := ih (fun q hq => hz q (List.mem_cons_of_mem _ hq))
    have h2 := hz p List.mem_cons_self
    have h3 := padN_lt p.zs.length
    unfold rowOf sizeOf2 at *
    rw [List.flatMap_cons, List.length_append, opBytes_length, List.map_cons, List.sum_cons, List.length_cons]
    omega

theorem rowOf_four (ps : List Part) : (rowOf ps).length % 4 = 0 := by
  induction ps with
  | nil => rfl
  | cons p r ih =>
    have h3 := padN_four p.zs.length
    unfold rowOf at *
    rw [List.flatMap_cons, List.length_append, opBytes_length]
    omega

theorem byt_row {ps : List Part} (h : ∀ p ∈ ps, Byt p.zs) : Byt (rowOf ps) := by
  induction ps with
  | nil => exact fun i => by simp [rowOf]
  | cons p r ih =>
    unfold rowOf at *
    rw [List.flatMap_cons]
    exact (byt_op (h p List.mem_cons_self)).append (ih (fun q hq => h q (List.mem_cons_of_mem _ hq)))

set_option maxRecDepth 100000 in
set_option maxHeartbeats 1000000 in
theorem row_off (a : Option Addr) (len cap : Nat) (ps : List Part) (w : World) (hlc : len ≤ cap) (hm : cap ≤ 9223372036854775807) (hz : ps.length = len) (hs : Segs w a ps) (hp : ∀ p ∈ ps, p.Ok w) (h : 100 < len) :
    Calls Try.prog 4 #[.slice a len cap] w fun e w' => e = .returned (.bool true) ∧ Below w.heap.size w w' := by
  go_enter Try.func4, Try.ntmps4
  go_wp2_with fail
  refine (alive_any w).mono ?_
  rintro e w1 ⟨rfl, hB1⟩
  go_wp2_with fail
  refine (alive_any _).mono ?_
  rintro e w3 ⟨rfl, hB3⟩
  go_wp2
  go_ret
  exact ⟨rfl, hB1.trans (hB3.mono hB1.size)⟩

set_option maxRecDepth 100000 in
set_option maxHeartbeats 1000000 in
theorem row_walk (a : Option Addr) (len cap : Nat) (ps : List Part) (w : World) (hlc : len ≤ cap) (hm : cap ≤ 9223372036854775807) (hz : ps.length = len) (hs : Segs w a ps) (hp : ∀ p ∈ ps, p.Ok w) :
    Calls Try.prog 4 #[.slice a len cap] w fun e w' => e = .returned (.bool true) ∧ Below w.heap.size w w' := by
  obtain ⟨i0, hi, hz0, hz1', hz2⟩ := info_parts infoB
  by_cases h100 : 100 < len
  · exact row_off a len cap ps w hlc hm hz hs hp h100
  · go_enter Try.func4, Try.ntmps4
    go_wp2_with fail
    refine (alive_any w).mono ?_
    rintro e w1 ⟨rfl, hB1⟩
    go_wp2_with fail
    refine (messagesSize_any a len cap ps w1 (by omega) hlc hm hz (hs.below hB1) (fun p hh => (hp p hh).below hB1)).mono ?_
    rintro e w' ⟨⟨S, rfl, hS⟩, hw'⟩
    subst w'
    by_cases hSb : 100000 < S
    · clear hS
      go_wp2_with fail
      refine (alive_any _).mono ?_
      rintro e w3 ⟨rfl, hB3⟩
      go_wp2
      go_ret
      exact ⟨rfl, hB1.trans (hB3.mono hB1.size)⟩
    · have hS1 := hS (by omega)
      have hln : ∀ p ∈ ps, p.zs.length = p.len := fun p hh => (hp p hh).isIn.len
      have hrl := rowOf_le ps hln
      have hsz : ∀ p ∈ ps, p.len ≤ 100000 := fun p hh => by have := sizeOf2_mem hh; omega
      have hrm : (rowOf ps).length ≤ 110000 := by omega
      clear hS hS1 hrl
      go_wp2
      go_loopw [3, 4] (fun v i wr => ∃ k : Nat, k ≤ len ∧ i = .int .i64 k ∧ wr.ownsRow w.heap.size 5 1 v (rowOf (ps.take k)).length ((rowOf (ps.take k)).map (Value.int .u8)) ∧ Below w.heap.size w wr) (fun _ i _ => len - (intOf i).toNat)
      case atStart => exact ⟨0, by omega, rfl, ⟨rfl, .inl ⟨rfl, rfl⟩⟩, hB1⟩
      case round =>
        obtain ⟨k, hk, rfl, hown, hB⟩ := hrel
        clear hB1
        by_cases hlt : k < len
        · rcases hs with rfl | ⟨b, off, rfl, hc⟩
          · simp at hz; omega
          · have hcx := hc k (by omega)
            have hlb : b < w.heap.size := World.block_lt_of_cell? _ _ hcx
            replace hcx : wr.cell? ⟨b, off + k, none⟩ = _ := (hB.cell (p := ⟨b, off + k, none⟩) hlb).trans hcx
            have hok := hp ps[k] (List.getElem_mem _)
            have hpl := hsz ps[k] (List.getElem_mem _)
            have HR : Hid (rowOf (ps.take (k + 1)) = rowOf (ps.take k) ++ opBytes ps[k].zs) := rowOf_take ps k (by omega)
            have hle : (rowOf (ps.take (k + 1))).length ≤ 110000 := by
              have := congrArg List.length (rowOf_split ps (k + 1))
              rw [List.length_append] at this
              omega
            rw [HR.out, List.length_append, opBytes_length] at hle
            generalize ps[k] = p at hcx hok hpl HR hle
            obtain ⟨pa, pl, pc, zs⟩ := p
            obtain ⟨⟨hlen, hseg, hnil⟩, hplc, hpr, hpb⟩ := hok
            simp only at hlen hseg hnil hplc hpr hpb hpl HR hle
            simp only [Part.v] at hcx
            clear hc
            rw [hlen] at hle
            go_wp2_with fail
            refine (putopq_any pa pl pc zs wr hplc (by omega) hlen (hseg.below hB) hnil).mono ?_
            rintro e w4 ⟨v4, rfl, hown4, hb4⟩
            have hB4 := hB.trans (hb4.mono hB.size)
            replace hown := own_below hown hb4
            obtain ⟨g, c, rfl, hc3, hd3, he3⟩ := own_shape hown4 (by omega)
            have hop : (opBytes zs).length = 4 + (pl + padN pl) := by rw [opBytes_length, hlen]
            have hsg := seg_own hown4 hop
            clear hown4 hb4 hcx
            go_wp2_with (at_builtin; refine wpList_append_own _ rfl _ _ 22 rfl w.heap.size 5 i0 (.int .u8 0) 1 1 Try.underlying22 hi hz0 hz1' hz2 rfl (by decide) _ _ _ rfl hown ⟨g, 0, none⟩ (4 + (pl + padN pl)) c ((opBytes zs).map (Value.int .u8)) rfl (by simp [hop]) (seg_news hsg) (news_one _) (by unfold maxLen; omega) (by omega) hB4.size ?_; intro v' w6 hown6 hgrow6 _)
            have hB6 : Below w.heap.size w w6 := hB4.grown hgrow6 hB4.size (fun k e => own_low hown e)
            go_roundw
            case rel => exact ⟨k + 1, by omega, by go_num, by rw [HR.out, List.length_append, hop, List.map_append]; exact hown6, hB6⟩
            case measure => simp [intOf]; omega
        · obtain rfl : k = len := by omega
          rw [List.take_of_length_le (by omega)] at hown
          have hbr := byt_row (fun p hh => (hp p hh).byt)
          obtain ⟨aA, cA, rfl, hsA, hcA, hdA, hnA⟩ := own_val hown rfl
          clear hown
          obtain ⟨R, hR⟩ : ∃ R, (rowOf ps).length = R := ⟨_, rfl⟩
          rw [hR] at hcA hrm ⊢
          have HR : Hid ((rowOf ps).length = R) := hR
          clear hR hnA
          go_wp2
          go_loopw [5, 6] (fun t i wr => ∃ j A : Nat, j ≤ k ∧ i = .int .i64 j ∧ t = .int .i64 A ∧ A = (rowOf (ps.take j)).length ∧ Seg wr aA (rowOf ps) ∧ Below w.heap.size w wr) (fun _ i _ => k - (intOf i).toNat)
          case atStart => exact ⟨0, 0, by omega, rfl, rfl, rfl, hsA, hB⟩
          case round =>
            obtain ⟨j, A, hj, rfl, rfl, hA, hsA2, hB2⟩ := hrel
            clear hsA hB
            by_cases hlt2 : j < k
            · rcases hs with rfl | ⟨b, off, rfl, hc⟩
              · simp at hz; omega
              · have hcx := hc j (by omega)
                have hlb : b < w.heap.size := World.block_lt_of_cell? _ _ hcx
                have hok := hp ps[j] (List.getElem_mem _)
                have hpl := hsz ps[j] (List.getElem_mem _)
                have hsp := rowOf_split ps j
                rw [rowOf_drop ps j (by omega)] at hsp
                have htk := rowOf_take ps j (by omega)
                generalize ps[j] = p at hcx hok hpl hsp htk
                generalize rowOf (ps.drop (j + 1)) = rest at hsp
                obtain ⟨pa, pl, pc, zs⟩ := p
                obtain ⟨⟨hlen, hseg, hnil⟩, hplc, hpr, hpb⟩ := hok
                simp only at hlen hseg hnil hplc hpr hpb hpl hsp htk
                simp only [Part.v] at hcx
                have hop : (opBytes zs).length = 4 + (pl + padN pl) := by rw [opBytes_length, hlen]
                have hlR : R = A + (4 + (pl + padN pl) + rest.length) := by
                  rw [← HR.out, hsp, List.length_append, List.length_append, hop, ← hA]
                have HA2 : Hid (A + (4 + (pl + padN pl)) = (rowOf (ps.take (j + 1))).length) := by
                  show _ = _
                  rw [htk, List.length_append, hop, ← hA]
                have HD : Hid ((rowOf ps).drop A = opBytes zs ++ rest) := by
                  show _ = _
                  rw [hsp, List.drop_left' hA.symm]
                have hbd : Hid (Byt ((rowOf ps).drop A)) := hbr.drop A
                rw [HD.out] at hbd
                obtain ⟨hE1, hE2, hE3⟩ := op_more zs rest 100000 (by omega) (by omega)
                rw [hlen] at hE3
                have hp4 := padN_four pl
                rcases hsA2 with h0 | ⟨g, go, rfl, hgc⟩
                · rw [h0] at HR
                  have := HR.out
                  simp at this
                  omega
                · have hsd := Seg.drop (.inr ⟨g, go, rfl, hgc⟩ : Seg wr (some ⟨g, go, none⟩) (rowOf ps)) A
                  have hsA2 : Seg wr (some ⟨g, go, none⟩) (rowOf ps) := .inr ⟨g, go, rfl, hgc⟩
                  rw [HD.out] at hsd
                  have hdl : (opBytes zs ++ rest).length = R - A := by rw [List.length_append, hop]; omega
                  have HE2 : Hid (opZ (opBytes zs ++ rest) 100000 = zs) := hE2
                  have HE1 : Hid (opE (opBytes zs ++ rest) 100000 = 0) := hE1
                  have HE3 : Hid (opL (opBytes zs ++ rest) 100000 = 4 + (pl + padN pl)) := hE3
                  have hN3 : (4 + (pl + padN pl)) % 4 = 0 := by omega
                  have hN1 : 4 ≤ 4 + (pl + padN pl) := by omega
                  generalize 4 + (pl + padN pl) = N at *
                  have hN4 : ((N : Int) % 4 != 0) = false := by simp; omega
                  have hAN : A + N ≤ R := by omega
                  have hc1 : A < cA := by omega
                  have hc2 : ¬ cA = A := by omega
                  clear hE1 hE2 hE3 hsp htk hA HD hgc hc hlR hop hp4 hN3
                  go_wp2_with fail
                  refine (getopq_any _ (R - A) (cA - A) 100000 (opBytes zs ++ rest) wr (by omega) (by omega) hdl hbd.out hsd (by omega) (by omega)).mono ?_
                  rintro e w4 ⟨v4, rfl, hown4, hb4⟩
                  rw [HE1.out, HE3.out]
                  rw [HE2.out, hlen] at hown4
                  have hB4 := hB2.trans (hb4.mono hB2.size)
                  have hsA4 := hsA2.below hb4
                  have hsz4 := hseg.below hB4
                  replace hcx : w4.cell? ⟨b, off + j, none⟩ = _ := (hB4.cell (p := ⟨b, off + j, none⟩) hlb).trans hcx
                  obtain ⟨a4, c4, rfl, hs4, _⟩ := own_val hown4 hlen
                  clear HE1 HE2 HE3 hown4 hb4 hsA2 hB2 hsd
                  go_wp2_with fail
                  refine (same_true _ _ pl c4 pc zs w4 (by omega) hlen hs4 hsz4).mono ?_
                  rintro e w' ⟨rfl, n7, rfl⟩
                  have hB8 := below_drewN hB4 n7
                  have hsA8 := hsA4.below (below_drewN (Below.refl _ _) n7)
                  clear hsA4 hB4 hs4 hsz4 hcx
                  go_wp2
                  go_roundw
                  case rel => exact ⟨j + 1, A + N, by omega, by go_num, by go_num, HA2.out, hsA8, hB8⟩
                  case measure => simp [intOf]; omega
            · obtain rfl : j = k := by omega
              rw [List.take_of_length_le (by omega), HR.out] at hA
              subst hA
              have hq : ((A : Int) == (A : Int)) = true := by simp
              go_wp2
              go_ret
              exact ⟨rfl, hB2⟩
end Go.Proofs.Ytfnlgakgakjliab
