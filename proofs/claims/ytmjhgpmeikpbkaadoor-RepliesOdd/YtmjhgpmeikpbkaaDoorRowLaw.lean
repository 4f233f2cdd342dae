/- 'row' of the laws: numbers, as bytes of their own; nothing that was there turns. -/
import Derived.Test.YtmjhgpmeikpbkaaDoorRows
import Derived.Test.YtmjhgpmeikpbkaaDoorAppendEach
import Derived.Test.YtmjhgpmeikpbkaaDoorPieces
import Derived.Test.YtmjhgpmeikpbkaaDoorNumsMath
import Derived.Outline
import Derived.Deep.CutRange
import Derived.Deep.CutBlock
import Derived.Deep.RegionHeld3
namespace Go.Proofs.YtmjhgpmeikpbkaaDoor
set_option linter.unusedVariables false
open Go.RowKit

theorem infoL : (Tryd.prog.info? 5).map (fun i => (i.zero, i.size, i.bytes)) = some (some (.int .u8 0), 1, 1) := by kernel_rfl

theorem bytes4 (x : Int) : bytesOf x 4 = [x / 16777216 % 256, x / 65536 % 256, x / 256 % 256, x % 256] := by
  simp [bytesOf, byteAt, List.range_succ]

theorem numsB_snoc (gs : List Int) (k : Nat) (h : k < gs.length) : numsB (gs.take (k + 1)) = numsB (gs.take k) ++ bytesOf (gs[k]?.getD 0) 4 := by
  rw [List.take_succ_eq_append_getElem h, numsB_append, List.getElem?_eq_getElem h, Option.getD_some]
  simp [numsB]

theorem below_ad (w : World) (o : Obj) : Below w.heap.size w (w.alloc o).drew := ((Below.refl _ w).alloc (Nat.le_refl _) o).trans ⟨rfl, rfl, rfl, Nat.le_refl _, fun _ _ => rfl⟩

/-- The four bytes, as the walk spells them. -/
def rowQ (x : Int) : List Int := [IntKind.u8.wrap (x / 16777216), IntKind.u8.wrap (x / 65536), IntKind.u8.wrap (x / 256), IntKind.u8.wrap x]
theorem rowQ_eq (x : Int) : rowQ x = bytesOf x 4 := by rw [bytes4, rowQ]; simp [IntKind.wrap_u8']
theorem rowQ_news (w : World) (x : Int) : ∀ b, some (⟨w.heap.size, 0, none⟩ : Addr) = some b → ∀ j u, ((rowQ x).map (Value.int .u8))[j]? = some u → (w.alloc (.cells #[.int .u8 (IntKind.u8.wrap (x / 16777216)), .int .u8 (IntKind.u8.wrap (x / 65536)), .int .u8 (IntKind.u8.wrap (x / 256)), .int .u8 (IntKind.u8.wrap x)] 5)).drew.cell? (b.add j) = some u := fun b e => by
  cases e
  exact seg_news (seg_lit w 5 [IntKind.u8.wrap (x / 16777216), IntKind.u8.wrap (x / 65536), IntKind.u8.wrap (x / 256), IntKind.u8.wrap x])

set_option maxRecDepth 100000 in
set_option maxHeartbeats 1000000 in
theorem row_any (N len cap : Nat) (gs : List Int) (w : World) (hN : N < w.heap.size) (hz : gs.length = len) (hlc : len ≤ cap) (hsm : len ≤ 100) (hu : ∀ i : Nat, 0 ≤ gs[i]?.getD 0 ∧ gs[i]?.getD 0 ≤ 4294967295) (hc : ∀ i, i < gs.length → w.cell? ⟨N, i, none⟩ = some (.int .u32 (gs[i]?.getD 0))) :
    Calls Tryd.prog 24 #[.slice (some ⟨N, 0, none⟩) len cap] w fun e w' => ∃ v, e = .returned v ∧ w'.ownsRow w.heap.size 5 1 v (4 * len) ((numsB gs).map (Value.int .u8)) ∧ Below w.heap.size w w' := by
  obtain ⟨i0, hi, hz0, hz1, hz2⟩ := info_parts infoL
  go_enter Tryd.func24, Tryd.ntmps24
  go_wp2
  go_loopw [3, 4] (fun b i wr => ∃ k : Nat, k ≤ len ∧ i = .int .i64 k ∧ wr.ownsRow w.heap.size 5 1 b (4 * k) ((numsB (gs.take k)).map (Value.int .u8)) ∧ Below w.heap.size w wr)
    (fun _ i _ => len - (intOf i).toNat)
  case atStart => exact ⟨0, Nat.zero_le _, rfl, ⟨rfl, .inl ⟨rfl, rfl⟩⟩, Below.refl _ _⟩
  case round =>
    obtain ⟨k, hk, rfl, hrow, hB⟩ := hrel
    by_cases hlt : k < len
    · have hcx : wr.cell? ⟨N, k, none⟩ = some (.int .u32 (gs[k]?.getD 0)) := (hB.cell (p := ⟨N, k, none⟩) hN).trans (hc k (by omega))
      have hux := hu k
      have hstep := numsB_snoc gs k (by omega)
      have hlen : (numsB (gs.take k)).length = 4 * k := by rw [numsB_len, List.length_take]; omega
      generalize gs[k]?.getD 0 = x at *
      generalize numsB (gs.take k) = ys at *
      have hBs := hB.size
      rw [← rowQ_eq] at hstep
      go_upto_block 1 with fail
      go_cut [3] from 5 to 36 (fun s3 wx => wx.ownsRow w.heap.size 5 1 s3 (4 * (k + 1)) ((numsB (gs.take (k + 1))).map (Value.int .u8)) ∧ Below w.heap.size w wx)
      case first =>
        go_wp2_with fail
        have hNw : N < wr.heap.size := by omega
        have S1 : wr.drew.cell? ⟨N, k, none⟩ = some (.int .u32 x) := hcx
        have S2 : ∀ o, (wr.alloc o).drew.cell? ⟨N, k, none⟩ = some (.int .u32 x) := fun o => ((below_ad wr o).cell (p := ⟨N, k, none⟩) hNw).trans hcx
        have S4 : ∀ o, (wr.drew.alloc o).cell? ⟨N, k, none⟩ = some (.int .u32 x) := S2
        go_region_held3 (fun w' => w'.cell? ⟨N, k, none⟩ = some (.int .u32 x)) (first | with_reducible exact S1 | with_reducible exact S2 _ | with_reducible exact S4 _ | with_reducible exact S3) (first
          | (refine step_append_each _ (by rfl) _ _ _ (by rfl) w.heap.size 5 i0 (.int .u8 0) 1 1 Tryd.underlying24 hi hz0 hz1 hz2 rfl (by decide) u3 (4 * k) _ (by rfl) (own_below hrow (below_ad _ _)) (some ⟨wr.heap.size, 0, none⟩) 4 4 ((rowQ x).map (Value.int .u8)) (by rfl) (by simp) rfl (rowQ_news wr x) (news_one _) (by unfold maxLen; omega) (by omega) (Nat.le_trans hBs (below_ad _ _).size) ?_; intro v' w2 ho2 hg2; have S3 : w2.cell? ⟨N, k, none⟩ = some (.int .u32 x) := (World.cell?_of_block (a := ⟨N, k, none⟩) (hg2.block N (Nat.lt_of_lt_of_le hNw (below_ad wr _).size) (fun e => (by have := own_low hrow e.symm; omega)))).trans (S2 _)))
        all_goals
          have R1 : w2.ownsRow w.heap.size 5 1 v' (4 * (k + 1)) ((numsB (gs.take (k + 1))).map (Value.int .u8)) := by
            rw [hstep, List.map_append]
            exact ho2
          have R2 : Below w.heap.size w w2 := (hB.trans ((below_ad _ _).mono hBs)).grown hg2 (Nat.le_trans hBs (below_ad _ _).size) (fun j e => own_low hrow e)
          clear ho2 hg2 hstep hrow
          go_wp2_with fail
          go_meet
        all_goals exact ⟨R1, R2⟩
      case rest =>
        obtain ⟨R1, R2⟩ := hcut
        clear hstep hrow hcx
        go_wp2
        go_roundw
        case rel => exact ⟨k + 1, by omega, by go_num, R1, R2⟩
        case measure => simp [intOf]; omega
    · obtain rfl : k = len := by omega
      rw [List.take_of_length_le (by omega)] at hrow
      go_wp2
      go_ret
      exact ⟨_, rfl, hrow, hB⟩

/-- Numbers that are written out in a new block. -/
theorem row_new (gs : List Int) (n : Nat) (t : TypeId) (N : Nat) (w : World) (hN : N = w.heap.size) (hn : gs.length = n) (hsm : n ≤ 100) (hu : ∀ i : Nat, 0 ≤ gs[i]?.getD 0 ∧ gs[i]?.getD 0 ≤ 4294967295) :
    Calls Tryd.prog 24 #[.slice (some ⟨N, 0, none⟩) n n] (w.alloc (.cells (gs.map (Value.int .u32)).toArray t)) fun e w' => ∃ a c, e = .returned (.slice a (4 * n) c) ∧ w'.ownsRow w.heap.size 5 1 (.slice a (4 * n) c) (4 * n) ((numsB gs).map (Value.int .u8)) ∧ Seg w' a (numsB gs) ∧ 4 * n ≤ c ∧ c ≤ 9223372036854775807 ∧ (a = none → 4 * n = 0 ∧ c = 0) ∧ Below w.heap.size w w' := by
  subst hN
  have hb : Below w.heap.size w (w.alloc (.cells (gs.map (Value.int .u32)).toArray t)) := (Below.refl _ _).alloc (Nat.le_refl _) _
  refine (row_any w.heap.size n n gs _ (by simp) hn (Nat.le_refl _) hsm hu ?_).mono ?_
  · intro i hi
    have h : (w.alloc (.cells (gs.map (Value.int .u32)).toArray t)).heap[w.heap.size]? = some (.cells (gs.map (Value.int .u32)).toArray t) := by
      show (w.heap.push _)[w.heap.size]? = _
      simp
    simp only [World.cell?, h]
    simp [List.getElem?_eq_getElem hi]
  · rintro e w' ⟨v, rfl, ho, hb'⟩
    have hl : (numsB gs).length = 4 * n := by rw [numsB_len, hn]
    have ho' := own_base ho hb.size
    obtain ⟨a, c, rfl, hs, h1, h2, h3⟩ := own_val ho' hl
    exact ⟨a, c, rfl, ho', hs, h1, h2, h3, hb.trans (hb'.mono hb.size)⟩
end Go.Proofs.YtmjhgpmeikpbkaaDoor
